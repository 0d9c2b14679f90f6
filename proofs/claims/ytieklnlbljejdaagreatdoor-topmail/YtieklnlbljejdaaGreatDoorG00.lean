import Derived.Test.YtieklnlbljejdaaGreatDoorA0
open Go.Value renaming int → ι, slice → σ, tuple → τ, nilIface → η
open Go.IntKind renaming i64 → κ
open Go.Ending renaming returned → ρ
open Go.Obj renaming cells → γ
open Option renaming none → ν, some → μ
open Go renaming Addr → eA, World → eB, Value → eD, TypeId → eG, DataW → fa, Calls → fj
open Go.Value renaming ownBlock → eF, int → eI, oneCell' → eM, string → eO
open Go.RowKit renaming Below → eP
open Go.Oper renaming wp → eQ
open Go.Result renaming andThen_ok → eR
open List renaming map_toArray → eT, map_cons → eU, map_nil → eV, flatMap_cons → eX, length_append → eY, length_cons → eZ, getElem?_map → fh
open Go.Region renaming wanted → eW
open Go.DataW renaming trod → fc
open Go.Lib renaming mapM_length → fe
open Go.Proofs.Tryz renaming prog → fk
open BitVec renaming ofInt → fq
set_option maxRecDepth 100000
set_option maxHeartbeats 1000000
namespace Go.Proofs.YtieklnlbljejdaaGreatDoor
open Go.RowKit
variable {B b base cap cp fuel g g2 j k m n off sz:Nat} {C:Array Value} {H:Type} {P:Program} {Q:Exit->Act->World->Prop} {a w w' w2 wr x:World} {ao:Option Addr} {cs xs:List Value} {e r t:TypeId} {held:Bool} {o:Obj} {ops:Array Oper} {p:List MemPlace} {row:Option Nat} {sp:Nat->Bool} {v:Value} {zs:List (List (List UInt8))}
theorem add_plain(g j:Nat):(⟨g,0,ν⟩:eA).add j=⟨g,j,ν⟩:=by unfold Addr.add;split<;>simp_all
theorem mR(g o j:Nat):(⟨g,o,ν⟩:eA).add j=⟨g,o+j,ν⟩:=by unfold Addr.add;split<;>simp_all
def Row(w:eB)(sz:Nat)(v:eD)(n:Nat)(xs:List eD):Prop:=
 xs.length=n*sz/\
 ((v=σ ν 0 0/\n=0) \/
  ∃g cap,v=σ (μ ⟨g,0,ν⟩) n cap/\g<w.heap.size/\n<=cap/\cap<=maxLen/\(∀j u,xs[j]? =μ u->w.cell? ⟨g,j,ν⟩=μ u)/\
   ∀j,j<cap*sz->(w.cell? ⟨g,j,ν⟩).isSome=true/\w.frozen? ⟨g,j,ν⟩=false)
theorem Row.nil(w:eB)(sz:Nat):Row w sz (σ ν 0 0) 0 [] :=⟨iC,.inl ⟨rfl,rfl⟩⟩
theorem Row.lt(h:Row w sz v n xs):∀k,v.ownBlock=μ k->k<w.heap.size:=by
 intro k hk;rcases h.2 with⟨rfl,_⟩|⟨g,cap,rfl,hg,_⟩
 ·simp[eF]at hk
 ·simp[eF]at hk;subst hk;exact hg
theorem Row.keep(h:Row w sz v n xs)(hs:w.heap.size<=w'.heap.size)(hb:∀k,v.ownBlock=μ k->w'.heap[k]? =w.heap[k]?):Row w' sz v n xs:=by
 refine⟨h.1,?_⟩;rcases h.2 with hn|⟨g,cap,rfl,hg,h1,h2,h3,h4⟩
 ·exact .inl hn
 ·have e:=hb g rfl;have ec:∀j,w'.cell? ⟨g,j,ν⟩=w.cell? ⟨g,j,ν⟩:=λj=>ai (a:=⟨g,j,ν⟩) e;have ef:∀j,w'.frozen? ⟨g,j,ν⟩=w.frozen? ⟨g,j,ν⟩:=λj=>aN (a:=⟨g,j,ν⟩) e;exact .inr ⟨g,cap,rfl,eE,h1,h2,λj u hu=>by rw[ec];exact h3 j u hu,λj hj=>by rw[ec,ef];exact h4 j hj⟩
theorem Row.kept(h:Row w sz v n xs)(hg:w.grownBy w' row)(jV:∀k,v.ownBlock=μ k->row≠μ k):Row w' sz v n xs:=
 h.keep hg.size λk hk=>hg.block k (h.lt k hk) (λe=>jV k hk e.symm)
theorem Row.alloc {w:eB} {sz:Nat} {v:eD} {n:Nat} {xs:List eD} (h:Row w sz v n xs)(o:Obj):Row (w.alloc o) sz v n xs:=
 h.keep iC λk hk=>aT w o k (h.lt k hk)
theorem Row.drew {w:eB} {sz:Nat} {v:eD} {n:Nat} {xs:List eD} (h:Row w sz v n xs):Row w.drew sz v n xs:=
 h.keep (Nat.le_refl _) λ_ _=>rfl
theorem Row.below(h:Row w sz v n xs)(hb:eN w w'):Row w' sz v n xs:=
 h.keep hb.size λk hk=>hb.block k (h.lt k hk)
theorem Row.Mb(h:w.ownsRow base e sz v n xs):Row w sz v n xs:=by
 refine⟨h.1,?_⟩;rcases h.2 with hn|⟨g,cap,cur,rfl,hb,hg,h1,h2,h3,h4⟩
 ·exact .inl hn
 ·refine .inr ⟨g,cap,rfl,(aw.1 hg).1,h1,h2,λj u hu=> ?_,λj hj=>⟨?_,?_⟩⟩
  ·have:=h.cells (g:=g) rfl j u hu
   rwa [add_plain]at this
  ·rw[av w g j cur e (0,0) hg];simp;omega
  ·exact bw w g j cur e hg
theorem Row.made(w:eB)(sz:Nat)(e:eG)(C:Array eD)(fr:Nat×Nat)(n cap:Nat)(xs:List eD)(hx:xs.length=n*sz)(hc:C.size=cap*sz)(hn:n<=cap)(hm:cap<=maxLen)(hfr:fr=(0,0) \/C.size<=fr.1)
 (ht:∀(j:Nat) (u:eD),xs[j]? =μ u->C[j]? =μ u):Row (w.alloc (γ C e fr)) sz (σ (μ ⟨w.heap.size,0,ν⟩) n cap) n xs:=by
 refine⟨hx,.inr ⟨w.heap.size,cap,rfl,iC,hn,hm,λj u hu=> ?_,λj hj=>⟨?_,?_⟩⟩⟩
 ·rw[aq];exact ht j u hu
 ·rw[aq];simp;omega
 ·obtain⟨lo,hi⟩:=fr;rw[cR];rcases hfr with e1|e1
  ·simp only[Prod.mk.injEq]at e1;obtain⟨rfl,rfl⟩:=e1;simp
  ·simp only at e1;have:¬lo<=j:=eE;simp[this]
theorem Row.cell {w:eB} {sz:Nat} {g n n' cap:Nat} {xs:List eD} (h:Row w sz (σ (μ ⟨g,0,ν⟩) n' cap) n xs)(j:Nat)(u:eD)(hu:xs[j]? =μ u):w.cell? ⟨g,j,ν⟩=μ u:=by
 rcases h.2 with⟨e,_⟩|⟨g',jL,e,_,_,_,hc,_⟩
 ·simp at e
 ·simp at e;obtain⟨rfl,rfl,rfl⟩:=e;exact hc j u hu
theorem pT(w:eB)(x:eD)(t:eG):∀(j:Nat) (u:eD),[x][j]? =μ u->(w.alloc (γ #[x] t)).cell? ((⟨w.heap.size,0,ν⟩:eA).add j)=μ u:=by
 intro j u hu;rw[add_plain,aq];simpa using hu
theorem oS(w:eB)(x y:eD)(t:eG):∀(j:Nat) (u:eD),[x,y][j]? =μ u->(w.alloc (γ #[x,y] t)).cell? ((⟨w.heap.size,0,ν⟩:eA).add j)=μ u:=by
 intro j u hu;rw[add_plain,aq];simpa using hu
theorem vH(k:IntKind)(x:Int):∀u∈ [eI k x],u.oneCell'=true:=by simp[eM]
theorem lM(k l:IntKind)(x y:Int):∀u∈ [eI k x,eI l y],u.oneCell'=true:=by simp[eM]
theorem J4(s:ByteArray):∀u∈ [eO s],u.oneCell'=true:=by simp[eM]
theorem uy {g1 n':Nat} (xJ:(wr.alloc o).grownBy w2 (μ g))(jC:μ g=μ g2 \/wr.heap.size+1<=g2)
 (hS:Row wr sz (σ (μ ⟨g1,0,ν⟩) n' cap) n xs) (Ha:w.heap.size<=g) (jV:g≠g1) (ja:eN w wr):
 Row w2 sz (σ (μ ⟨g1,0,ν⟩) n' cap) n xs/\w.heap.size<=g2/\g2≠g1/\eN w w2:=by
 have h1:g1<wr.heap.size:=hS.lt g1 rfl;have hz:=ja.size;have hs:(wr.alloc o).heap.size=wr.heap.size+1:=iC;refine⟨(hS.alloc o).kept xJ (λk hk=> ?_),?_,?_,?_⟩
 ·have:g1=k:=by simpa[eF]using hk
  intro e;simp at e;omega
 ·rcases jC with h|h
  ·simp at h;omega
  ·omega
 ·rcases jC with h|h
  ·simp at h;omega
  ·omega
 ·refine(ja.alloc hz o).grown xJ eE (λk hk=> ?_);simp at hk;omega
theorem Eb(xJ:(wr.alloc o).grownBy w2 (μ g))(jC:μ g=μ g2 \/wr.heap.size+1<=g2)
 (Ha:w.heap.size<=g) (ja:eN w wr):w.heap.size<=g2/\eN w w2:=by
 have hz:=ja.size;have hs:(wr.alloc o).heap.size=wr.heap.size+1:=iC;refine⟨?_,?_⟩
 ·rcases jC with h|h
  ·simp at h;omega
  ·omega
 ·refine(ja.alloc hz o).grown xJ eE (λk hk=> ?_);simp at hk;omega
section
variable {P:Program}
theorem rh(w:eB)(t ty e:eG)(i:TypeInfo)(z:eD)(size bytes:Nat)(ht:P.underlying t=μ (.slice e))(hi:P.info? e=μ i)(hz:i.zero=μ z)
 (qH:i.size=size) (yF:i.bytes=bytes) (J5:z.cells.size=size) (qI:0<size)
 (v:eD) (n:Nat) (xs:List eD) (jC:Row w size v n xs)
 (a:eA) (m c:Nat) (news:List eD) (hl:news.length=m*size) (hm:0<m) (Bt:∀j u,news[j]? =μ u->w.cell? (a.add j)=μ u) (h1:∀u∈news,u.oneCell'=true)
 (h63:n+m<=maxLen) (uz:(n+m)*bytes<=140737488355328):
 ∃v' w',(Builtin.append_ #[t,t] ty #[v,σ (μ a) m c]).run P w=.ok v' w'/\Row w' size v' (n+m) (xs++news)/\w.grownBy w' v.ownBlock/\
  (v'.ownBlock=v.ownBlock \/ ∃k,v'.ownBlock=μ k/\w.heap.size<=k):=by
 rcases jC.2 with⟨rfl,rfl⟩|⟨g,cap,rfl,hg,sH,J6,hcell,J7⟩
 ·have hx:xs=[] :=aG (by simpa using jC.1);subst hx;obtain⟨v',w',hr,ho,hg,kj⟩:=run_append_own (P:=P) w w.heap.size t ty e i z size bytes ht hi hz qH yF J5 qI (σ ν 0 0) 0 [] (World.ownsRow_nil _ _ _ _) a m c news hl Bt h1 h63 uz (Nat.le_refl _);refine⟨v',w',hr,Row.Mb ho,hg,?_⟩;rcases ho.2 with⟨e1,e2⟩|⟨g,cap,cur,rfl,hb,_⟩
  ·omega
  ·exact .inr ⟨g,rfl,hb⟩
 ·by_cases hr:n+m<=cap
  ·subst qH;have Uz:n*i.size+news.length<=cap*i.size:=by rw[hl,<-Nat.add_mul];exact Nat.mul_le_mul_right _ hr
   have pw:∀j,j<news.length->(w.cell? ⟨g,0+n*i.size+j,ν⟩).isSome=true/\w.frozen? ⟨g,0+n*i.size+j,ν⟩=false:=λj hj=>J7 _ eE;have XU:=run_append_room_cells (P:=P) w t ty e i ht hi g 0 n cap a m c news hl Bt h1 hr (λj hj=>(pw j hj).1) (λj hj=>(pw j hj).2);have nR:∀(vs:List eD) (o:Nat) (w:eB),(w.setCells g o vs).heap.size=w.heap.size/\(w.setCells g o vs).os=w.os/\(w.setCells g o vs).tape=w.tape/\(w.setCells g o vs).output=w.output/\∀k,k≠g->(w.setCells g o vs).heap[k]? =w.heap[k]? :=by
    intro vs
    induction vs with
    |nil=>intro o w;exact⟨rfl,rfl,rfl,rfl,λ_ _=>rfl⟩
    |cons u r ih=>
     intro o w;have:=ih (o+1) (w.setCell ⟨g,o,ν⟩ u);have b1:eP 0 w (w.setCell ⟨g,o,ν⟩ u):=(au 0 w).setCell (Nat.zero_le _) _;refine⟨this.1.trans iC,this.2.1.trans b1.os,this.2.2.1.trans b1.tape,this.2.2.2.1.trans b1.output,λk hk=>(this.2.2.2.2 k hk).trans (ak _ _ _ k hk)⟩
   have B:=nR news (0+n*i.size) w;refine⟨_,_,XU,⟨by rw[aA,jC.1,hl,Nat.add_mul],.inr ⟨g,cap,rfl,by rw[B.1];exact hg,hr,J6,λj u hu=> ?_,λj hj=> ?_⟩⟩,⟨B.2.1,B.2.2.1,B.2.2.2.1,by rw[B.1];exact Nat.le_refl _,λk _ hk=>B.2.2.2.2 k (λe=>hk (by simp[eF,e]))⟩,.inl rfl⟩
   ·rcases Nat.lt_or_ge j xs.length with hj|hj
    ·rw[bL hj]at hu;rw[br g _ _ _ _ (λ_ _=>.inl (by show j<0+n*i.size;have:=jC.1;omega))];exact hcell j u hu
    ·rw[bz hj]at hu;have Mc:j-xs.length<news.length:=(aH.1 hu).1;have:=bD g news (0+n*i.size) w (λk hk=>(pw k hk).1) (j-xs.length) Mc;have e1:0+n*i.size+(j-xs.length)=j:=by have:=jC.1;omega
     rw[e1]at this;rw[this,<-hu,ay Mc]
   ·rw[bT];refine⟨?_,(J7 j hj).2⟩;by_cases hq:n*i.size<=j/\j<n*i.size+news.length
    ·have:=bD g news (0+n*i.size) w (λk hk=>(pw k hk).1) (j-n*i.size) eE;have e1:0+n*i.size+(j-n*i.size)=j:=eE;rw[e1]at this;rw[this];rfl
    ·rw[br g _ _ _ _ (λ_ _=>by show j<0+n*i.size \/0+n*i.size+news.length<=j;omega)];exact(J7 j hj).1
  ·obtain⟨v',w',XU,ho,xJ⟩:=run_append_arg_grows (P:=P) w t ty e i z size bytes ht hi hz qH yF J5 qI ⟨g,0,ν⟩ n cap xs jC.1 (λj u hj=>by rw[add_plain];exact hcell j u hj) a m c news hl Bt eE h63 uz;refine⟨v',w',XU,Row.Mb ho,⟨xJ.os,xJ.tape,xJ.output,xJ.size,λk hk _=>xJ.block k hk iC⟩,?_⟩;rcases ho.2 with⟨e1,e2⟩|⟨g',jL,cur,rfl,hb,_⟩
   ·omega
   ·exact .inr ⟨g',rfl,hb⟩
theorem iX(w:eB) {rest:List Oper} {o:Oper} {a:Act} (Hc:o.guard=ν)(s x:Operand)(t:eG)
 (ho:o.op=.call {callee:=.builtin .append,args:= #[s,x],argTypes:= #[t,t] })
 (e:eG) (i:TypeInfo) (z:eD) (size bytes:Nat) (ht:P.underlying t=μ (.slice e)) (hi:P.info? e=μ i) (hz:i.zero=μ z)
 (qH:i.size=size) (yF:i.bytes=bytes) (J5:z.cells.size=size) (qI:0<size)
 (v:eD) (n:Nat) (xs:List eD) (hs:a.eval s=v) (jC:Row w size v n xs)
 (ad:eA) (m c:Nat) (news:List eD) (hx:a.eval x=σ (μ ad) m c) (hl:news.length=m*size) (hm:0<m) (Bt:∀j u,news[j]? =μ u->w.cell? (ad.add j)=μ u) (h1:∀u∈news,u.oneCell'=true)
 (h63:n+m<=maxLen) (uz:(n+m)*bytes<=140737488355328)
 (h:∀g' jL w',Row w' size (σ (μ ⟨g',0,ν⟩) (n+m) jL) (n+m) (xs++news)->w.grownBy w' v.ownBlock->(v.ownBlock=μ g' \/w.heap.size<=g')->wpList P ops Q rest (a.put o.dst (σ (μ ⟨g',0,ν⟩) (n+m) jL)) w'):wpList P ops Q (o::rest) a w:=by
 refine wpList_plain Hc λK hK=> ?_;obtain⟨v',w',hr,h2,h3,h4⟩:=rh (P:=P) w t o.type e i z size bytes ht hi hz qH yF J5 qI v n xs jC ad m c news hl hm Bt h1 h63 uz;unfold eQ execOp;simp only[ho,resolve,invoke,builtin,Sem.run_bind,Sem.run_pure,eR,eT,eU,eV,hs,hx,hr];rcases h2.2 with⟨_,hn⟩|⟨g',jL,rfl,_⟩
 ·omega
 ·refine hK _ _ (h g' jL w' h2 h3 ?_);rcases h4 with h4|⟨k,h4,hk⟩
  ·exact .inl h4.symm
  ·simp[eF]at h4;subst h4;exact .inr hk
def iZ(l:List UInt8):List eD:=l.map λb=>eI .u8 (b.toNat:Int)
theorem qj(l:List UInt8):(iZ l).length=l.length:=by simp[iZ]
theorem lr(a b:List UInt8):iZ (a++b)=iZ a++iZ b:=by simp[iZ]
theorem wL(l:List UInt8)(j:Nat)(h:j<l.length):(iZ l)[j]? =μ (.int .u8 (l[j].toNat:Int)):=by simp[iZ,h]
theorem DH(w:eB)(src dst e:eG)(s:ByteArray)(hs:P.underlying src=μ .string)(hd:P.underlying dst=μ (.slice e))(he:P.underlying e=μ (.int .u8))(hm:s.size<=maxLen):
 ∃cap C fr,(convert src dst (.string s)).run P w=.ok (σ (μ ⟨w.heap.size,0,ν⟩) s.size cap) (w.drew.alloc (γ C e fr))/\Row (w.alloc (γ C e fr)) 1 (σ (μ ⟨w.heap.size,0,ν⟩) s.size cap) s.size (iZ s.data.toList):=by
 refine⟨_,_,_,run_bytes_of_string w src dst e s hs hd he,?_⟩;have yG:=grownCap_ge w s.size 0 e;refine Row.made w 1 e _ _ _ _ _ (by simp[iZ]) ?_ yG (dw w _ _ _ hm) (.inr (Nat.le_refl _)) ?_
 ·simp[bytesRow];omega
 ·intro j u hu;have hj:j<s.data.size:=by
   have:=(aH.1 hu).1;simpa[iZ]using this
  rw[bytesRow_at s _ j hj];rw[wL _ j (by simpa using hj)]at hu;simpa using hu
theorem Row.back {l:List UInt8} (h:Row w 1 v n (iZ l))(src dst e:eG)(hs:P.underlying src=μ (.slice e))(he:P.underlying e=μ (.int .u8))(hd:P.underlying dst=μ .string):
 (convert src dst v).run P w=.ok (.string ⟨l.toArray⟩) w:=by
 have hn:l.length=n:=by have:=h.1;simpa[iZ]using this
 rcases h.2 with⟨rfl,rfl⟩|⟨g,cap,rfl,hg,sH,J6,hcell,J7⟩
 ·have:l=[] :=aG hn;subst this;rw[run_convert_bytes_string w src dst e _ _ _ hs he hd];simp[Conv.bytesToString];rfl
 ·subst hn;exact dU w src dst e ⟨g,0,ν⟩ cap l hs he hd λj hj=>by rw[add_plain];exact hcell j _ (wL l j hj)
end
theorem iA {b:eB} (h:eN w a)(k:eN a b):eN w b:=h.trans (k.mono h.size)
theorem below_drewN(h:eP B w a)(n:Nat):eP B w (a.drewN n):=⟨h.os,h.tape,h.output,h.size,h.block⟩
theorem iB(w:eB)(o:Obj):eN w (w.alloc o):=(au _ _).alloc (Nat.le_refl _) _
def jy(k:Nat):eD:=if k=0 then η else .iface 128 (ι κ (k:Int))
abbrev j2:=Int×Int
def jm(w:eB)(a:Option eA)(n:Nat)(os:List j2):Prop:=
 os.length=n/\(n=0 \/ ∃b off,a=μ ⟨b,off,ν⟩/\∀j (h:j<os.length),w.cell? ⟨b,off+j*2,ν⟩=μ (ι κ os[j].1)/\w.cell? ⟨b,off+j*2+1,ν⟩=μ (ι κ os[j].2))
theorem jm.below {a:Option eA} {os:List j2} (h:jm w a n os)(hb:eN w w'):jm w' a n os:=by
 refine⟨h.1,?_⟩;rcases h.2 with h2|⟨b,off,rfl,h2⟩
 ·exact .inl h2
 ·refine .inr ⟨b,off,rfl,λj hj=> ?_⟩;obtain⟨c1,c2⟩:=h2 j hj;exact⟨(hb.cell (af w _ c1)).trans c1,(hb.cell (af w _ c2)).trans c2⟩
theorem jm.drewN {w:eB} {a:Option eA} {n:Nat} {os:List j2} (h:jm w a n os)(m:Nat):jm (w.drewN m) a n os:=h
theorem jm.nil(w:eB)(a:Option eA):jm w a 0 [] :=⟨rfl,.inl rfl⟩
theorem jm.take {w:eB} {a:Option eA} {n:Nat} {os:List j2} (h:jm w a n os)(k:Nat)(hk:k<=n):jm w a k (os.take k):=by
 refine⟨by simp[h.1];omega,?_⟩;rcases h.2 with h2|⟨b,off,rfl,h2⟩
 ·exact .inl eE
 ·refine .inr ⟨b,off,rfl,λj hj=> ?_⟩;have Hd:j<os.length:=by simp at hj;omega
  have:=h2 j Hd;simpa using this
theorem kL {o:Oper} {a:Act} {K:Act->eB->Prop} {E:Prop}
 (Hc:o.guard=ν) (s x:Operand) (t:eG) (ho:o.op=.call {callee:=.builtin .append,args:= #[s,x],argTypes:= #[t,t] })
 (e:eG) (i:TypeInfo) (z:eD) (size bytes:Nat) (ht:P.underlying t=μ (.slice e)) (hi:P.info? e=μ i) (hz:i.zero=μ z)
 (qH:i.size=size) (yF:i.bytes=bytes) (J5:z.cells.size=size) (qI:0<size)
 (v:eD) (n:Nat) (xs:List eD) (hs:a.eval s=v) (jC:Row w size v n xs)
 (ad:eA) (m c:Nat) (news:List eD) (hx:a.eval x=σ (μ ad) m c) (hl:news.length=m*size) (hm:0<m) (Bt:∀j u,news[j]? =μ u->w.cell? (ad.add j)=μ u) (h1:∀u∈news,u.oneCell'=true)
 (h63:n+m<=maxLen) (uz:(n+m)*bytes<=140737488355328)
 (h:∀g' jL w',Row w' size (σ (μ ⟨g',0,ν⟩) (n+m) jL) (n+m) (xs++news)->w.grownBy w' v.ownBlock->(v.ownBlock=μ g' \/w.heap.size<=g')->K (a.put o.dst (σ (μ ⟨g',0,ν⟩) (n+m) jL)) w'):
 if eW o (yielded ops a.tmps)=true then eQ P o a w K Q else E:=by
 have hw:eW o (yielded ops a.tmps)=true:=by simp[eW,Hc]
 rw[ag hw];obtain⟨v',w',hr,h2,h3,h4⟩:=rh (P:=P) w t o.type e i z size bytes ht hi hz qH yF J5 qI v n xs jC ad m c news hl hm Bt h1 h63 uz;unfold eQ execOp;simp only[ho,resolve,invoke,builtin,Sem.run_bind,Sem.run_pure,eR,eT,eU,eV,hs,hx,hr];rcases h2.2 with⟨_,hn⟩|⟨g',jL,rfl,_⟩
 ·omega
 ·refine h g' jL w' h2 h3 ?_;rcases h4 with h4|⟨k,h4,hk⟩
  ·exact .inl h4.symm
  ·simp[eF]at h4;subst h4;exact .inr hk
def jh(os:List j2):List eD:=os.flatMap λo=>[ι κ o.1,ι κ o.2]
theorem mS(os:List j2)(o:j2):jh (os++ [o])=jh os++ [ι κ o.1,ι κ o.2] :=by simp[jh]
theorem lI(os:List j2):(jh os).length=2*os.length:=by
 induction os with
 |nil=>rfl
 |cons o r ih=>simp only[jh,eX,eY,eZ,List.length_nil]at ih⊢;omega
theorem tL:∀(os:List j2) (j:Nat) (h:j<os.length),(jh os)[j*2]? =μ (ι κ os[j].1)/\(jh os)[j*2+1]? =μ (ι κ os[j].2)
 |o::r,0,_=>by simp[jh]
 |o::r,j+1,h=>by
  have ih:=tL r j (by simpa using h);have e1:jh (o::r)=ι κ o.1::ι κ o.2::jh r:=by simp[jh]
  rw[e1,show(j+1)*2=j*2+1+1 by omega];exact ih
theorem Row.opts {os:List j2} (h:Row w 2 (σ ao k cp) k (jh os)):jm w ao k os:=by
 have hl:os.length=k:=by have:=h.1;rw[lI]at this;omega
 refine⟨hl,?_⟩;rcases h.2 with⟨_,hn⟩|⟨g,cap,he,_,_,_,hc,_⟩
 ·exact .inl hn
 ·have e1:ao=μ ⟨g,0,ν⟩:=by simp at he;exact he.1
  refine .inr ⟨g,0,e1,λj hj=> ?_⟩;obtain⟨h1,h2⟩:=tL os j hj;rw[Nat.zero_add];exact⟨hc _ _ h1,hc _ _ h2⟩
theorem Row.Qj(h:Row w sz (σ ao k cp) k xs):k<=cp:=by
 rcases h.2 with⟨he,hn⟩|⟨g,cap,he,_,sH,_⟩
 ·omega
 ·simp at he;omega
theorem lJ(ja:eN w x)(hg:x.grownBy w' v.ownBlock)(jw:∀j,v.ownBlock=μ j->w.heap.size<=j):eN w w':=
 ja.grown hg ja.size jw
theorem nE(jC:v.ownBlock=μ g \/n<=g)(hs:B<=n)(jw:∀j,v.ownBlock=μ j->B<=j):B<=g:=by
 rcases jC with h|h
 ·exact jw g h
 ·exact Nat.le_trans hs h
theorem rj {u:eD} (hg:x.grownBy w' row)(jV:row≠μ b)(hc:x.cell? ⟨b,off,ν⟩=μ u):w'.cell? ⟨b,off,ν⟩=μ u:=
 (ai (a:=⟨b,off,ν⟩) (hg.block b (af x _ hc) (λe=>jV e.symm))).trans hc
theorem kG(h:B<=g)(hj:eF (σ (μ ⟨g,0,ν⟩) n cap)=μ j):B<=j:=by
 have:g=j:=by simpa[eF]using hj
 omega
theorem mZ(hj:eF (σ ν 0 0)=μ j):B<=j:=by simp[eF]at hj
theorem nA(w:eB)(x y:eD)(t:eG)(g:Nat)(hg:w.heap.size=g):∀(j:Nat) (u:eD),[x,y][j]? =μ u->(w.alloc (γ #[x,y] t)).cell? ((⟨g,0,ν⟩:eA).add j)=μ u:=by
 subst hg;exact oS w x y t
structure Made(w w':eB)(v:eD)(os:List j2):Prop where
 row:Row w' 2 v os.length (jh os)
 new:∀j,v.ownBlock=μ j->w.heap.size<=j
 below:eN w w'
theorem He(os:List j2):∀u∈jh os,u.oneCell'=true:=by
 intro u hu;simp[jh]at hu;obtain⟨x,y,_,h⟩:=hu;rcases h with rfl|rfl<;>rfl
theorem jm.cells {os:List j2} (h:jm w (μ ⟨b,off,ν⟩) n os)(hn:0<n):∀(j:Nat) (u:eD),(jh os)[j]? =μ u->w.cell? ((⟨b,off,ν⟩:eA).add j)=μ u:=by
 intro j u hu;rcases h.2 with h0|⟨b',ae4,he,hc⟩
 ·omega
 ·simp only[Option.some.injEq,Addr.mk.injEq]at he;obtain⟨rfl,rfl,_⟩:=he;have hj:j<2*os.length:=by have:=(aH.1 hu).1;rwa [lI]at this
  have hq:j/2<os.length:=eE;obtain⟨g1,g2⟩:=tL os (j/2) hq;obtain⟨c1,c2⟩:=hc (j/2) hq;rw[mR];rcases Nat.mod_two_eq_zero_or_one j with h2|h2
  ·have e:j/2*2=j:=eE;rw[e]at g1 c1;rw[hu]at g1;rw[c1,g1]
  ·have e:j/2*2+1=j:=eE;rw[e]at g2;rw[hu]at g2;rw[show off+j/2*2+1=off+j by omega]at c2;rw[c2,g2]
def kM(a:Option eA)(cap:Nat):Prop:=a=ν->cap=0
theorem Made.shape {os:List j2} (h:Made w w' v os):∃a cap,v=σ a os.length cap/\kM a cap/\os.length<=cap:=by
 rcases h.row.2 with⟨rfl,h0⟩|⟨g,cap,rfl,_,h1,_⟩
 ·rw[h0];exact⟨ν,0,rfl,λ_=>rfl,Nat.le_refl _⟩
 ·exact⟨μ ⟨g,0,ν⟩,cap,rfl,λh=>by simp at h,h1⟩
theorem Made.opts {w w':eB} {a:Option eA} {n cap:Nat} {os:List j2} (h:Made w w' (σ a n cap) os):n=os.length/\jm w' a n os:=by
 have hn:n=os.length:=by
  rcases h.row.2 with⟨e,h0⟩|⟨g,cap,e,_⟩
  ·simp at e;omega
  ·simp at e;omega
 have hr:=h.row;rw[<-hn]at hr;exact⟨hn,hr.opts⟩
theorem Made.from {os:List j2} (h:Made x w' v os)(hb:eN w x):Made w w' v os:=
 ⟨h.row,λj hj=>Nat.le_trans hb.size (h.new j hj),iA hb h.below⟩
theorem jm.kept {a:Option eA} {os:List j2} (h:jm w a n os)(hb:∀k,eF (σ a n cap)=μ k->w'.heap[k]? =w.heap[k]?):jm w' a n os:=by
 refine⟨h.1,?_⟩;rcases h.2 with h2|⟨b,off,rfl,h2⟩
 ·exact .inl h2
 ·refine .inr ⟨b,off,rfl,λj hj=> ?_⟩;have e:=hb b rfl;obtain⟨c1,c2⟩:=h2 j hj;exact⟨(ai (a:=⟨b,off+j*2,ν⟩) e).trans c1,(ai (a:=⟨b,off+j*2+1,ν⟩) e).trans c2⟩
def tM(a:Option eA)(n:Nat):Option Nat:=if n=0 then ν else a.map (·.block)
theorem Bu {a:Option eA} (h:tM a n=μ k):eF (σ a n cap)=μ k:=by
 unfold tM at h;split at h
 ·cases h
 ·cases a with
  |none=>cases h
  |some x=>simpa[eF]using h
theorem jm.Md {a:Option eA} {os:List j2} (h:jm w a n os)(hb:∀k,tM a n=μ k->w'.heap[k]? =w.heap[k]?):jm w' a n os:=by
 by_cases h0:n=0
 ·exact⟨h.1,.inl h0⟩
 ·refine h.kept (cap:=0) (λk hk=>hb k ?_);unfold tM;rw[ae h0];cases a with
  |none=>cases hk
  |some x=>simpa[eF]using hk
def jr(w:eB)(B:Nat)(C:Array eD)(t:eG):Prop:=w.heap[B]? =μ (γ C t (0,0))
theorem jr.lt(h:jr w B C t):B<w.heap.size:=(aw.1 h).1
theorem jr.cell {w:eB} {B:Nat} {C:Array eD} {t:eG} (h:jr w B C t)(j:Nat):w.cell? ⟨B,j,ν⟩=C[j]? :=av w B j C _ (0,0) h
theorem jr.frozen {w:eB} {B:Nat} {C:Array eD} {t:eG} (h:jr w B C t)(j:Nat):w.frozen? ⟨B,j,ν⟩=false:=bw w B j C _ h
theorem jr.set(h:jr w B C t)(j:Nat)(x:eD):jr (w.setCell ⟨B,j,ν⟩ x) B (C.setIfInBounds j x) t:=by
 unfold jr;rw[bF w B j C _ (0,0) x h];exact cD w B C _ _ (0,0) h
theorem jr.other {B':Nat} (h:jr w B C t)(jV:B≠B')(x:eD):jr (w.setCell ⟨B',j,ν⟩ x) B C t:=
 (ak _ _ _ B jV).trans h
theorem jr.keep(h:jr w B C t)(hb:w'.heap[B]? =w.heap[B]?):jr w' B C t:=hb.trans h
theorem jr.below(h:jr w B C t)(hb:eN w w'):jr w' B C t:=h.keep (hb.block B h.lt)
theorem jr.drewN {w:eB} {B:Nat} {C:Array eD} {t:eG} (h:jr w B C t)(n:Nat):jr (w.drewN n) B C t:=h
theorem jr.new(w:eB)(C:Array eD)(t:eG):jr (w.alloc (γ C t)) w.heap.size C t:=aV w _
theorem jr.Hf(w:eB)(C:Array eD)(t:eG)(g:Nat)(hg:w.heap.size=g):jr (w.alloc (γ C t)) g C t:=by subst hg;exact jr.new w C t
theorem jO(h:eP B w a):eP B w a.drew:=⟨h.os,h.tape,h.output,h.size,h.block⟩
theorem nF(s:ByteArray)(k:Nat)(h:k<s.size):s.data.toList.getD k 0=s[k] :=by
 have h':k<s.data.toList.length:=by simpa using h
 rw[aY,ay h'];rfl
theorem od(h:a.grownBy w (μ b))(j:Nat)(v:eD):a.grownBy (w.setCell ⟨b,j,ν⟩ v) (μ b):=by
 have b1:eP 0 w (w.setCell ⟨b,j,ν⟩ v):=(au 0 w).setCell (Nat.zero_le _) _;exact⟨b1.os.trans h.os,b1.tape.trans h.tape,b1.output.trans h.output,Nat.le_trans h.size b1.size,λi hi jV=>(ak _ _ _ i (λe=>jV (by rw[e]))).trans (h.block i hi jV)⟩
theorem drewN_drewN(w:eB)(a b:Nat):(w.drewN a).drewN b=w.drewN (a+b):=by go_simp
def A2 {H:Type} (l:List (List UInt8)):fa H:=.agg (l.map λs=>.lit (.string s))
def Bv {H:Type} (t:List (List (List UInt8))):fa H:=.agg (t.map A2)
theorem Ft {enc:eG×eD->H} {zs:List (List UInt8)} 
 (ht:P.underlying t=μ (.array n e)) (he:P.underlying e=μ .string) (DI:P.cellsOf e=1) (hct:P.cellsOf t=n)
 (h:fc enc P w base sp held fuel t cs=μ (A2 zs,p)):cs=zs.map λz=>eO ⟨z.toArray⟩:=by
 cases fuel with
 |zero=>simp[fc]at h
 |succ fuel=>
  simp only[fc,ht,DI,hct,Nat.mul_one]at h;split at h
  ·rename_i hl
   obtain⟨xs,hm,hx⟩:=Option.map_eq_some_iff.1 h;have WA:xs.map (·.1)=zs.map λz=>(DataW.lit (.string z):fa H):=by
    have:=congrArg Prod.fst hx;simpa[A2]using this
   have Nt:xs.length=n:=by simpa using fe hm
   have hzl:zs.length=n:=by
    have:=congrArg List.length WA;simp at this;omega
   apply List.ext_getElem?;intro i;by_cases hi:i<n
   ·obtain⟨b,hb,hf⟩:=Lib.mapM_at hm i i (by simp[hi]);obtain⟨z,hc,rfl,_⟩:=dF he hf;have h1:cs[i]? =μ (.string z):=by
     have:=congrArg (·[0]?) hc;simpa[List.getElem?_take,dx]using this
    have h2:(xs.map (·.1))[i]? =μ (DataW.lit (.string z.data.toList):fa H):=by simp[hb]
    rw[WA]at h2;simp only[fh,Option.map_eq_some_iff,DataW.lit.injEq,Lit.string.injEq]at h2;obtain⟨z',hz',rfl⟩:=h2;simp[h1,hz']
   ·rw[dY eE,dY (by simp;omega)]
  ·cases h
theorem Fu {enc:eG×eD->H} 
 (ht:P.underlying t=μ (.array m r)) (hr:P.underlying r=μ (.array n e)) (he:P.underlying e=μ .string) (DI:P.cellsOf e=1) (hcr:P.cellsOf r=n) (hct:P.cellsOf t=m*n)
 (h:fc enc P w base sp held fuel t cs=μ (Bv zs,p)):zs.length=m/\∀i row,zs[i]? =μ row->(cs.drop (i*n)).take n=row.map λz=>eO ⟨z.toArray⟩:=by
 cases fuel with
 |zero=>simp[fc]at h
 |succ fuel=>
  simp only[fc,ht,hcr,hct]at h;split at h
  ·rename_i hl
   obtain⟨xs,hm,hx⟩:=Option.map_eq_some_iff.1 h;have WA:xs.map (·.1)=zs.map λz=>(A2 z:fa H):=by
    have:=congrArg Prod.fst hx;simpa[Bv]using this
   have Nt:xs.length=m:=by simpa using fe hm
   have hzl:zs.length=m:=by
    have:=congrArg List.length WA;simp at this;omega
   refine⟨hzl,λi row ji=> ?_⟩;have hi:i<m:=by rw[<-hzl];exact(aH.1 ji).1
   obtain⟨b,hb,hf⟩:=Lib.mapM_at hm i i (by simp[hi]);have h2:(xs.map (·.1))[i]? =μ b.1:=by simp[hb]
   rw[WA]at h2;simp only[fh,ji,Option.map_some,Option.some.injEq]at h2;obtain⟨b1,b2⟩:=b;simp only at h2;subst h2;exact Ft hr he DI hcr hf
  ·cases h
theorem Fv {W:eB} {name:String} {rest:List (String×fa Unit)} 
 (hg:P.globalNamed name=μ g) (hty:(P.globals[g]?).map (·.type)=μ t) (ht:P.underlying t=μ (.array m r)) (hr:P.underlying r=μ (.array n e)) (he:P.underlying e=μ .string) (DI:P.cellsOf e=1) (hcr:P.cellsOf r=n) (hct:P.cellsOf t=m*n)
 (h:laidMet P ((name,Bv zs)::rest) W):∀i row j z,zs[i]? =μ row->row[j]? =μ z->j<n->W.cell? ⟨g,i*n+j,ν⟩=μ (.string ⟨z.toArray⟩):=by
 obtain⟨ps,⟨g',t',cs,fuel,p,q,Dy,ht',ae5,hd,_,_⟩,_⟩:=h;obtain rfl:=Option.some.inj (hg.symm.trans Dy);obtain rfl:=Option.some.inj (hty.symm.trans ht');intro i row j z hi hj Me;have h1:=(Fu ht hr he DI hcr hct hd).2 i row hi;rw[World.var?_cell hg ae5];have h2:((cs.toList.drop (i*n)).take n)[j]? =μ (eO ⟨z.toArray⟩):=by rw[h1];simp[hj]
 rw[List.getElem?_take_of_lt Me,dx]at h2;simpa using h2
def Az:List (List (List UInt8)):=[
 [[50],[105,114,54],[45],[45],[45],[45],[45],[45],[45],[45]],
 [[45],[45],[48],[115,49],[48],[49],[49],[49],[49],[100,49]],
 [[115,49],[49],[105,114,54],[51],[53],[53],[54],[55],[56],[57]],
 [[48],[102,48],[50],[50],[52],[52],[105,116,52],[105,116,52],[105,116,52],[100,105,116,52]],
 [[45],[45],[45],[45],[116,52],[116,53],[114,54],[114,54],[114,56],[45]],
 [[45],[45],[45],[45],[102,50],[102,51],[102,51],[102,51],[102,51],[45]],
 [[45],[45],[107,50],[105,114,97,56],[52],[53],[97,56],[97,117,57],[97,56],[100,114,97,56]],
 [[45],[45],[107,50],[105,114,110,54],[52],[53],[110,54],[110,55],[110,54],[100,114,110,54]],
 [[45],[45],[107,50],[107,51],[52],[53],[105,55],[114,54],[105,117,57],[100,114,54]],
 [[45],[45],[107,50],[107,51],[52],[53],[105,114,54],[114,54],[105,114,56],[100,114,54]],
 [[45],[45],[107,50],[107,51],[107,52],[107,53],[107,54],[107,54],[107,54],[100,122,107,53]],
 [[45],[45],[50],[51],[102,50],[102,51],[54],[54],[56],[100,114,54]]]
def oq(s e:Nat):List UInt8:=(Az.getD e []).getD s []
def lh(s e:Nat):List UInt8×Int×Nat:=
 if oq s e=[45]then([],0,7)else((oq s e).dropLast,(((oq s e).getLastD 0).toNat:Int)-48,0)
def jt(s e:Int):List UInt8×Int×Nat:=
 if s<0 \/10<=s \/e<0 \/12<=e then([],0,1)else lh s.toNat e.toNat
def jo(w:eB):Prop:=∀e s,e<12->s<10->w.cell? ⟨0,e*10+s,ν⟩=μ (.string ⟨(oq s e).toArray⟩)
theorem jo.below(h:jo w)(hb:eN w w'):jo w':=λe s he hs=>
 (hb.cell (af w _ (h e s he hs))).trans (h e s he hs)
theorem jo.lt(h:jo w):0<w.heap.size:=af w _ (h 0 0 eH eH)
theorem m7(s e:Nat)(hs:s<10)(he:e<12):jt s e=lh s e:=by
 unfold jt;rw[ae eE];rfl
theorem Qk:∀e,e<12->∀s,s<10->1<=(oq s e).length/\(oq s e).length<=5/\(48<=((oq s e).getLastD 0).toNat/\((oq s e).getLastD 0).toNat<=57 \/oq s e=[45]):=by decide+kernel
theorem Nu(s:Int)(w:eB):fj fk 195 #[ι κ s] w λe w'=>e=ρ (.bool (decide (4<=s)&&decide (s<=8)))/\w=w':=by
 by_cases h0:4<=s
 ·have e0:decide (4<=s)=true:=by simp[h0]
  rw[e0,Bool.true_and];clear e0
  go_in
  go_wp2
  go_ret;exact⟨rfl,rfl⟩
 ·have e0:decide (4<=s)=false:=by simp[h0]
  rw[e0,Bool.false_and];clear e0
  go_in
  go_wp2
  go_ret;exact⟨rfl,rfl⟩
theorem Ql(s e:Int)(w:eB)(h:s<0 \/10<=s \/e<0 \/12<=e):fj fk 207 #[ι κ s,ι κ e] w λx w'=>x=ρ (τ #[.string ⟨#[]⟩,ι κ 0,jy 1])/\w=w':=by
 have e1:jy 1=.iface 128 (ι κ 1):=rfl;rw[e1];clear e1;by_cases h0:s<0
 ·clear h
  go_in
  go_wp2
  go_ret3
  exact⟨rfl,rfl⟩
 ·by_cases h1:10<=s
  ·clear h
   go_in
   go_wp2
   go_ret3
   exact⟨rfl,rfl⟩
  ·by_cases h2:e<0
   ·clear h
    go_in
    go_wp2
    go_ret3
    exact⟨rfl,rfl⟩
   ·have h3:12<=e:=eE;clear h
    go_in
    go_wp2
    go_ret3
    exact⟨rfl,rfl⟩
theorem Nv(s e:Nat)(S:ByteArray)(w:eB)(hs:s<10)(he:e<12)(hc:w.cell? ⟨0,e*10+s,ν⟩=μ (.string S))(hS:(S.toList==[45])=true):
 fj fk 207 #[ι κ s,ι κ e] w λx w'=>x=ρ (τ #[.string ⟨#[]⟩,ι κ 0,jy 7])/\w=w':=by
 have e1:jy 7=.iface 128 (ι κ 7):=rfl;have h0:¬(s:Int)<0:=eE;have h1:¬(10:Int)<=s:=eE;have h2:¬(e:Int)<0:=eE;have h3:¬(12:Int)<=e:=eE;have h4:(s:Int)<10:=eE;have h5:(e:Int)<12:=eE;have h6:0<w.heap.size:=af w _ hc;rw[e1];clear e1
 go_in
 go_wp2
 go_ret3
 exact⟨rfl,rfl⟩
theorem Nw(s e:Nat)(S:ByteArray)(w:eB)(hs:s<10)(he:e<12)(hc:w.cell? ⟨0,e*10+s,ν⟩=μ (.string S))(hS:(S.toList==[45])=false)(n:Nat)(hl:S.size=n+1)(hn:n<=4)(d:Nat)(hd:(S[n]).toNat=48+d)(hd9:d<=9):
 fj fk 207 #[ι κ s,ι κ e] w λx w'=>x=ρ (τ #[.string (S.extract 0 n),ι κ (d:Int),η])/\∃m,w'=w.drewN m:=by
 have h0:¬(s:Int)<0:=eE;have h1:¬(10:Int)<=s:=eE;have h2:¬(e:Int)<0:=eE;have h3:¬(12:Int)<=e:=eE;have h4:(s:Int)<10:=eE;have h5:(e:Int)<12:=eE;have h6:0<w.heap.size:=af w _ hc;have h7:wrap64 ((S.size:Int)-1)=n:=by unfold wrap64;omega
 have h8:((0:Int)<=(n:Int)):=eE;have h9:((n:Int)<=(S.size:Int)):=eE;have h10:((n:Int)<(S.size:Int)):=eE
 go_in
 go_wp2
 go_quiet(fail)
 go_wp2
 go_ret3
 refine⟨?_,_,rfl⟩;rw[show(48:Int)+(d:Int)-48=d by omega];rfl
theorem Nx:∀e,e<12->∀s,s<10->oq s e≠ [45]->((⟨(oq s e).toArray⟩:ByteArray).extract 0 ((oq s e).length-1)=⟨(oq s e).dropLast.toArray⟩)/\((oq s e).getD ((oq s e).length-1) 0=(oq s e).getLastD 0):=by decide+kernel
theorem Qm(s e:Int)(w:eB)(h:jo w):fj fk 207 #[ι κ s,ι κ e] w λx w'=>
 x=ρ (τ #[.string ⟨(jt s e).1.toArray⟩,ι κ (jt s e).2.1,jy (jt s e).2.2])/\∃m,w'=w.drewN m:=by
 by_cases ho:s<0 \/10<=s \/e<0 \/12<=e
 ·refine(Ql s e w ho).mono ?_;rintro x w' ⟨rfl,rfl⟩;have hv:jt s e=([],0,1):=by unfold jt;rw[ag ho]
  rw[hv];exact⟨rfl,0,rfl⟩
 ·obtain⟨s',rfl⟩:∃s':Nat,s=s':=⟨s.toNat,eE⟩
  obtain⟨e',rfl⟩:∃e':Nat,e=e':=⟨e.toNat,eE⟩
  have hs:s'<10:=eE;have he:e'<12:=eE;rw[m7 s' e' hs he];have hc:=h e' s' he hs;obtain⟨l1,l2,l3⟩:=Qk e' he s' hs;by_cases hq:oq s' e'=[45]
  ·refine(Nv s' e' _ w hs he hc (by rw[hq];decide+kernel)).mono ?_;rintro x w' ⟨rfl,rfl⟩;have hv:lh s' e'=([],0,7):=by unfold lh;rw[ag hq]
   rw[hv];exact⟨rfl,0,rfl⟩
  ·obtain⟨c1,c2⟩:=Nx e' he s' hs hq;have l4:=l3.resolve_right hq;have hv:lh s' e'=((oq s' e').dropLast,(((oq s' e').getLastD 0).toNat:Int)-48,0):=by unfold lh;rw[ae hq]
   rw[hv];clear hv;generalize oq s' e'=L at*;have qI:(⟨L.toArray⟩:ByteArray).size=(L.length-1)+1:=by show L.toArray.size=_;simp;omega
   refine(Nw s' e' ⟨L.toArray⟩ w hs he hc ?_ (L.length-1) qI eE ((L.getLastD 0).toNat-48) ?_ eE).mono ?_
   ·rw[cN];intro hb;apply hq;rw[<-hb];simp[ByteArray.toList_eq]
   ·rw[<-c2];show(L.toArray[L.length-1]'_).toNat=_;rw[List.getElem_toArray,aY,ay eE];rw[aY,ay eE]at c2;simp only[Option.getD_some]at c2⊢;rw[c2];omega
   ·rintro x w' ⟨rfl,m,rfl⟩;refine⟨?_,m,rfl⟩;rw[c1];have hz:(((L.getLastD 0).toNat-48:Nat):Int)=((L.getLastD 0).toNat:Int)-48:=eE;rw[hz];rfl
theorem Fw(s e:Int)(D:List UInt8)(nx:Int)(f:Nat)(hR:jt s e=(D,nx,f))(w:eB)(h:jo w):
 fj fk 207 #[ι κ s,ι κ e] w λx w'=>x=ρ (τ #[.string ⟨D.toArray⟩,ι κ nx,jy f])/\∃m,w'=w.drewN m:=by
 have:=Qm s e w h;rw[hR]at this;exact this
end Go.Proofs.YtieklnlbljejdaaGreatDoor
namespace Go.Proofs.YtieklnlbljejdaaGreatDoor.Plain
open Go.RowKit
theorem uA(a b:Nat)(ha:a<65536)(hb:b<65536):bits .xor .i64 (a:Int) (b:Int)=((a^^^b:Nat):Int):=by
 have h:a^^^b<65536:=Nat.xor_lt_two_pow (n:=16) ha hb;have e:∀n:Nat,n<65536->(fq 64 (n:Int)).toNat=n:=by
  intro n hn;rw[BitVec.toNat_ofInt];simp;omega
 have e2:(fq 64 (a:Int) ^^^fq 64 (b:Int)).toNat=a^^^b:=by
  rw[BitVec.toNat_xor,e a ha,e b hb]
 show IntKind.i64.wrap ((fq 64 (a:Int) ^^^fq 64 (b:Int)).toNat:Int)=_;rw[e2,IntKind.wrap_i64];omega
def turn(x:Nat):Nat:=if x%2=1 then x/2^^^33800 else x/2
def turns:Nat->Nat->Nat
 |0,x=>x
 |n+1,x=>turns n (turn x)
def Fx(x:Nat)(c:UInt8):Nat:=turns 8 (x^^^c.toNat)
def reg(l:List UInt8):Nat:=l.foldl Fx 65535
def sum(l:List UInt8):Nat:=reg l^^^65535
theorem Fy(a b:Nat)(ha:a<65536)(hb:b<65536):a^^^b<65536:=Nat.xor_lt_two_pow (n:=16) ha hb
theorem Qn(c:UInt8):c.toNat<65536:=by have:=c.toNat_lt;omega
theorem UA(x:Nat)(h:x<65536):turn x<65536:=by
 unfold turn;split
 ·exact Fy _ _ eE eE
 ·omega
theorem Bw:∀n x,x<65536->turns n x<65536
 |0,_,h=>h
 |n+1,x,h=>Bw n _ (UA x h)
theorem Bx:∀n x,turns (n+1) x=turn (turns n x)
 |0,_=>rfl
 |n+1,x=>by rw[turns,Bx n (turn x)];rfl
theorem Ny(x:Nat)(c:UInt8)(h:x<65536):Fx x c<65536:=Bw 8 _ (Fy _ _ h (Qn c))
theorem Hg:∀(l:List UInt8) x,x<65536->l.foldl Fx x<65536
 |[],_,h=>h
 |c::l,x,h=>Hg l _ (Ny x c h)
theorem Fz(l:List UInt8):reg l<65536:=Hg l _ eE
theorem J8(l:List UInt8):sum l<65536:=Fy _ _ (Fz l) eE
theorem Qo(l:List UInt8)(c:UInt8):reg (l++ [c])=Fx (reg l) c:=by simp[reg]
end Go.Proofs.YtieklnlbljejdaaGreatDoor.Plain
namespace Go.Proofs.YtieklnlbljejdaaGreatDoor
open Go.RowKit Plain
theorem UB {k:IntKind} {a b:Int} (h:a=b):Ending.returned (.int k a)=ρ (.int k b):=by rw[h]
theorem Ec(s:ByteArray)(k:Nat)(h:k<s.size):s.data.toList.take (k+1)=s.data.toList.take k++ [s[k]] :=by
 rw[ax (by simpa using h)];rfl
theorem Qp(x:Nat)(h:x<65536)(h1:(x:Int) %2=1):bits .xor .i64 ((x:Int)/2) 33800=(turn x:Int):=by
 have e:=uA (x/2) 33800 eE eE;have:x%2=1:=eE;simp only[turn,this,if_true];rw[<-e];simp
theorem Nz(x:Nat)(h1:¬(x:Int) %2=1):(x:Int)/2=(turn x:Int):=by
 have:¬x%2=1:=eE;simp[turn,this]
theorem Mf(s:ByteArray)(w:eB)(hs:s.size<=maxLen):
 fj fk 210 #[.string s] w λe w'=>e=ρ (ι κ (Plain.sum s.data.toList:Nat))/\w=w':=by
 unfold maxLen at hs
 go_in
 go_wp2
 go_loop [3,8] (λx i=>∃k:Nat,k<=s.size/\i=ι κ k/\x=ι κ (reg (s.data.toList.take k):Nat)) (λ_ i=>s.size-(intOf i).toNat)
 case atStart=>exact⟨0,Nat.zero_le _,rfl,rfl⟩
 case round=>
  obtain⟨k,hk,rfl,rfl⟩:=hrel;by_cases kH:k<s.size
  ·have P2:=Ec s k kH;have HS:Hid (reg (s.data.toList.take (k+1))=turns 8 (reg (s.data.toList.take k) ^^^s[k].toNat)):=by rw[P2,Qo];rfl
   have HX:bits .xor .i64 (reg (s.data.toList.take k):Nat) (wrap64 (s[k].toNat:Nat))=((reg (s.data.toList.take k) ^^^s[k].toNat:Nat):Int):=by
    have hb:=s[k].toNat_lt;rw[cE _ ⟨eE,eE⟩];exact uA _ _ (Fz _) (Qn _)
   have HB:reg (s.data.toList.take k) ^^^s[k].toNat<65536:=Fy _ _ (Fz _) (Qn _);clear P2;generalize reg (s.data.toList.take k) ^^^s[k].toNat=X at HX HB HS
   go_wp2
   go_loop [3,17] (λx i=>∃j:Nat,j<=8/\i=ι κ j/\x=ι κ (turns j X:Nat)) (λ_ i=>8-(intOf i).toNat)
   case atStart=>exact⟨0,Nat.zero_le _,rfl,rfl⟩
   case round=>
    obtain⟨j,hj,rfl,rfl⟩:=hrel;by_cases hj8:j<8
    ·have hl:=Bw j X HB;have hT:turns (j+1) X=turn (turns j X):=Bx j X;have ho:=Qp (turns j X) hl;have he:=Nz (turns j X);generalize turns j X=Y at*
     go_wp2
     all_goals
      go_round
      case rel=>exact⟨j+1,eE,by go_num,by rw[hT];first|rw[ho (by simp_all)] |rw[he (by simp_all)]⟩
      case measure=>simp[intOf];omega
    ·have e8:j=8:=eE;subst e8
     go_wp2
     go_round
     case rel=>exact⟨k+1,eE,by go_num,by rw[HS.out]⟩
     case measure=>simp[intOf];omega
  ·go_wp2
   go_ret;have e:k=s.size:=eE;exact⟨UB (by rw[aK (by simp;omega)];exact uA _ 65535 (Fz _) eH),rfl⟩
end Go.Proofs.YtieklnlbljejdaaGreatDoor
namespace Go.Proofs.YtieklnlbljejdaaGreatDoor.Plain
open Go.RowKit
def qJ(c:UInt8):Bool:=c==126||c==125||decide (c<32)
def AA(c:UInt8):List UInt8:=if qJ c then [125,c^^^32]else [c]
def rk(l:List UInt8):List UInt8:=l.flatMap AA
def Hh(l:List UInt8):UInt8:=UInt8.ofNat (sum l%256)
def Hj(l:List UInt8):UInt8:=UInt8.ofNat (sum l/256)
def lU(l:List UInt8):List UInt8:=l++ [Hh l,Hj l]
def mT(l:List UInt8):List UInt8:=126::(rk (lU l)++ [126])
theorem Ee(l:List UInt8):((Hh l).toNat:Int)=((sum l:Nat):Int) %256:=by
 have:=J8 l;unfold Hh;rw[UInt8.toNat_ofNat_of_lt' (by show sum l%256<256;omega)];omega
theorem Ef(l:List UInt8):((Hj l).toNat:Int)=((sum l:Nat):Int)/256:=by
 have:=J8 l;unfold Hj;rw[UInt8.toNat_ofNat_of_lt' (by show sum l/256<256;omega)];omega
theorem NA(l:List UInt8)(c:UInt8):rk (l++ [c])=rk l++AA c:=by simp[rk]
theorem UC(c:UInt8):(AA c).length<=2:=by unfold AA;split<;>simp
theorem FA:∀l:List UInt8,(rk l).length<=2*l.length
 |[] =>by simp[rk]
 |c::l=>by
  have:=FA l;have h:=UC c;simp only[rk,eX,eY,eZ]at this⊢;omega
theorem py(l:List UInt8):(lU l).length=l.length+2:=by simp[lU]
theorem NB(c:UInt8):qJ c=true↔(c.toNat:Int)=126 \/(c.toNat:Int)=125 \/(c.toNat:Int)<32:=by
 unfold qJ;simp only[Bool.or_eq_true,beq_iff_eq,decide_eq_true_eq,UInt8.lt_iff_toNat_lt];have h1:c=126↔(c.toNat:Int)=126:=by
  rw[<-UInt8.toNat_inj];show c.toNat=126↔_;omega
 have h2:c=125↔(c.toNat:Int)=125:=by
  rw[<-UInt8.toNat_inj];show c.toNat=125↔_;omega
 rw[h1,h2];show(_ \/_) \/c.toNat<32↔_;omega
theorem WB(c:UInt8):bits .xor .u8 (c.toNat:Int) 32=((c^^^32).toNat:Int):=by
 have:=c.toNat_lt;have e:=u8_xor_nat c.toNat 32 eE eE;rw[UInt8.toNat_xor];exact e
end Go.Proofs.YtieklnlbljejdaaGreatDoor.Plain
