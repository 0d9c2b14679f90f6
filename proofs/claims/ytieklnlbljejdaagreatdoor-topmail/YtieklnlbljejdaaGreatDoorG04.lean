import Derived.Test.YtieklnlbljejdaaGreatDoorG01
import Derived.Test.YtieklnlbljejdaaGreatDoorG03
open Go.Value renaming int → ι, slice → σ, pointer → π, tuple → τ
open Go.IntKind renaming i64 → κ
open Go.Ending renaming returned → ρ
open Go.Obj renaming cells → γ
open Option renaming none → ν, some → μ
open Go renaming Addr → eA, Value → eD, DataW → fa, MemPlace → fF, World → eB, TypeId → eG
open Go.Proofs.Tryz renaming prog → fk
open Go.Instr renaming mapUpdate → fG, lookup → fI
open Go.Maps renaming atKey_put_other → fH, atKey_del_other → fK
open Prod.mk renaming injEq → fJ
open Go.Builtin renaming clear_ → fL
open Go.Value renaming ownBlock → eF, cells → fD
open Go.RowKit renaming intOf → ft
open ByteArray renaming empty → fM
set_option maxRecDepth 100000
set_option maxHeartbeats 4000000
namespace Go.Proofs.YtieklnlbljejdaaGreatDoor
open Go.RowKit St
open Go.Maps (Keyed)
open Go.ChangeMaps Go.MapKept
open Go.WideElems (Fit)
variable {B b cap m n n':Nat} {H:Type} {W w w':World} {a:Option Addr} {k:Int}
structure SV where
 own:Int
 seq:Int
 a:Option eA
 n:Nat
 cap:Nat
def SV.v(s:SV):eD:=.agg #[ι κ s.own,ι κ s.seq,σ s.a s.n s.cap]
def SV.zero:SV:=⟨0,0,ν,0,0⟩
def X5:eD->Option SV
 | .agg cs=>(match cs.toList with
   |[.int .i64 o,.int .i64 q,.slice a n c] =>some ⟨o,q,a,n,c⟩
   |_=>none)
 |_=>none
theorem QD {v:eD} {s:SV} (h:X5 v=μ s):v=s.v:=by
 unfold X5 at h;split at h
 ·rename_i cs
  split at h
  ·rename_i o q a n c e
   obtain rfl:=Option.some.inj h;have:cs= #[ι κ o,ι κ q,σ a n c] :=by
    apply db.1;simpa using e
   rw[this];rfl
  ·cases h
 ·cases h
def rR(v:eD):Option (fa SV×List fF):=(X5 v).map λs=>(.held s,[])
theorem xO(s:SV):rR s.v=μ (.held s,[]):=rfl
theorem vI {v:eD} {y:fa SV×List fF} (h:rR v=μ y):∃s,v=s.v/\y=(.held s,[]):=by
 unfold rR at h;obtain⟨s,hs,rfl⟩:=Option.map_eq_some_iff.1 h;exact⟨s,QD hs,rfl⟩
theorem tP:Keyed fk 3:=Go.Maps.int_keyed aJ
theorem Hy(w:eB):(zeroValue 40).run fk w=.ok SV.zero.v w:=gT
def rS(k:Int):Prop:= -9223372036854775808<=k/\k<=9223372036854775807
theorem BQ(h:rS k):keyOf fk 3 (.int .i64 k)=μ (.int .i64 k):=by
 refine Go.Maps.keyOf_int_mk aJ ?_;exact WalkArith.wf_i64 (by obtain⟨h1,h2⟩:=h;omega)
structure SMap(w:eB)(b n:Nat)(f:Int->Option SV):Prop where
 own:∃D:fa SV,w.ownsMap fk 3 rR b n D/\∀k,rS k->match f k with
  |none=>∀z,D.atKey (.int .i64 k) z=z
  |some s=>∀z,D.atKey (.int .i64 k) z=.held s
theorem SMap.made(w:eB):SMap (w.alloc (.map #[] 0)) w.heap.size 0 (λ_=>ν):=
 ⟨⟨.map [],World.ownsMap_made w _ _ _,λ_ _ _=>rfl⟩⟩
theorem SMap.lt {w:eB} {b n:Nat} {f:Int->Option SV} (h:SMap w b n f):b<w.heap.size:=by obtain⟨D,h1,_⟩:=h.own;exact h1.lt
theorem SMap.mono {w:eB} {b n m:Nat} {f:Int->Option SV} (h:SMap w b n f)(hm:n<=m):SMap w b m f:=by obtain⟨D,h1,h2⟩:=h.own;exact⟨⟨D,h1.mono hm,h2⟩⟩
theorem SMap.kept {w w':eB} {b n:Nat} {f:Int->Option SV} {row:Option Nat} (h:SMap w b n f)(hg:w.grownBy w' row)(jV:μ b≠row):SMap w' b n f:=by obtain⟨D,h1,h2⟩:=h.own;exact⟨⟨D,h1.kept hg jV,h2⟩⟩
theorem SMap.keep {f:Int->Option SV} (h:SMap w b n f)(hb:w'.heap[b]? =w.heap[b]?):SMap w' b n f:=by
 obtain⟨D,⟨es,clock,h1,h3⟩,h2⟩:=h.own;exact⟨⟨D,⟨es,clock,hb.trans h1,h3⟩,h2⟩⟩
theorem SMap.below {f:Int->Option SV} (h:SMap w b n f)(hb:eN w w'):SMap w' b n f:=h.keep (hb.block b h.lt)
theorem SMap.drew {w:eB} {b n:Nat} {f:Int->Option SV} (h:SMap w b n f):SMap w.drew b n f:=h.keep rfl
theorem SMap.alloc {w:eB} {b n:Nat} {f:Int->Option SV} (h:SMap w b n f)(o:Obj):SMap (w.alloc o) b n f:=h.below (iB _ _)
theorem FG {x:Int} (h:x≠k):(Lit.int .i64 x)≠ .int .i64 k:=λe=>h (by simpa using e)
theorem UK(k:Int)(h:rS k):WideAt.IsKeyLit (.int .i64 k):=tP.key (BQ h)
theorem SMap.store {w:eB} {b n:Nat} {f:Int->Option SV} (h:SMap w b n f)(hn:n<maxLen)(k:Int)(hk:rS k)(s:SV):
 ∃w',(fG 211 (.map (μ b)) (ι κ k) s.v).run fk w=.ok () w'/\SMap w' b (n+1) (λx=>if x=k then μ s else f x)/\w.mapTurned w' b:=by
 obtain⟨D,h1,h2⟩:=h.own;obtain⟨w',hr,ho,ht⟩:=h1.store tP bU hn (BQ hk) (xO s);refine⟨w',hr,⟨⟨_,ho,λx hx=> ?_⟩⟩,ht⟩;have hm:=h1.isMap;by_cases e:x=k
 ·subst e;simp only[if_true];exact λz=>Maps.atKey_put_same hm (UK x hk) _ z
 ·rw[ae e];have:=h2 x hx;cases hf:f x with
  |none=>rw[hf]at this;exact λz=>(fH (FG e) _ z).trans (this z)
  |some s'=>rw[hf]at this;exact λz=>(fH (FG e) _ z).trans (this z)
theorem SMap.look {f:Int->Option SV} (h:SMap w b n f)(k:Int)(hk:rS k):
 (fI 211 (.map (μ b)) (ι κ k) false).run fk w=.ok ((f k).getD SV.zero).v w:=by
 obtain⟨D,h1,h2⟩:=h.own;obtain⟨v,ps,hr,hv⟩:=h1.lookup tP bU (Hy w) (xO SV.zero) (BQ hk);rw[hr];obtain⟨s,rfl,e⟩:=vI hv;have hx:=h2 k hk;simp only[fJ]at e;cases hf:f k with
 |none=>
  rw[hf]at hx;rw[hx]at e;have:SV.zero=s:=by simpa using e.1
  rw[<-this];rfl
 |some s'=>
  rw[hf]at hx;rw[hx]at e;have:s'=s:=by simpa using e.1
  rw[this];rfl
theorem SMap.look_ok {w:eB} {b n:Nat} {f:Int->Option SV} (h:SMap w b n f)(k:Int)(hk:rS k):
 (fI 211 (.map (μ b)) (ι κ k) true).run fk w=.ok (τ #[((f k).getD SV.zero).v,.bool (f k).isSome]) w:=by
 obtain⟨D,h1,h2⟩:=h.own;obtain⟨v,ps,hr,hv⟩:=h1.look_ok tP bU (Hy w) (xO SV.zero) (BQ hk);rw[hr];obtain⟨s,rfl,e⟩:=vI hv;have hx:=h2 k hk;simp only[fJ]at e;cases hf:f k with
 |none=>
  rw[hf]at hx;rw[hx]at e;have:SV.zero=s:=by simpa using e.1
  rw[<-this,dR hx];rfl
 |some s'=>
  rw[hf]at hx;rw[hx]at e;have:s'=s:=by simpa using e.1
  rw[this,dV hx];rfl
theorem SMap.drop {w:eB} {b n:Nat} {f:Int->Option SV} (h:SMap w b n f)(k:Int)(hk:rS k)(ty:eG):
 ∃w',(Builtin.delete_ #[211,3] ty #[.map (μ b),ι κ k]).run fk w=.ok (τ #[]) w'/\SMap w' b n (λx=>if x=k then ν else f x)/\w.mapTurned w' b:=by
 obtain⟨D,h1,h2⟩:=h.own;obtain⟨w',hr,ho,ht⟩:=h1.drop tP bU (BQ hk) ty;refine⟨w',hr,⟨⟨_,ho,λx hx=> ?_⟩⟩,ht⟩;by_cases e:x=k
 ·subst e;simp only[if_true];exact λz=>Maps.atKey_del_same z
 ·rw[ae e];have:=h2 x hx;cases hf:f x with
  |none=>rw[hf]at this;exact λz=>(fK (FG e) z).trans (this z)
  |some s'=>rw[hf]at this;exact λz=>(fK (FG e) z).trans (this z)
theorem SMap.clear {f:Int->Option SV} (h:SMap w b n f)(ty:eG):
 ∃w',(fL #[211] ty #[.map (μ b)]).run fk w=.ok (τ #[]) w'/\SMap w' b n (λ_=>ν)/\w.mapTurned w' b:=by
 obtain⟨D,⟨es,clock,hb,F,hs,hD⟩,h2⟩:=h.own;refine⟨setBlock w b (.map #[] clock),?_,⟨⟨.map [],⟨#[],clock,heap_setBlock_same hb _,⟨iC,?_,iC⟩,iC,rfl⟩,λ_ _ _=>rfl⟩⟩,⟨es,clock,#[],clock,hb,rfl⟩⟩
 ·simp[fL,run_underlying Tryz.underlying211,MapKept.run_getObj_map hb,MapKept.run_setObj_map _ hb,Result.andThen,setBlock]
 ·exact stamped_empty clock
structure FM where
 bm:Nat
 g:Nat
 cap:Nat
 bs:List Nat
 no:Nat->Prop:=λ_=>False
def FM.sl(m:FM):eD:=σ (μ ⟨m.g,0,ν⟩) m.bs.length m.cap
def FM.row(m:FM):List eD:=m.bs.map λb=>Value.map (μ b)
structure FB(w:eB)(B:Nat)(m:FM)(n:Nat)(kn:Int->Option SV)(ow:Nat->Int->Option SV):Prop where
 nN:w.heap[B]? =μ (γ #[.map (μ m.bm),m.sl] 214 (0,0))
 row:Row w 1 m.sl m.bs.length m.row
 km:SMap w m.bm n kn
 om:∀i b,m.bs[i]? =μ b->SMap w b n (ow i)
 few:m.bs.length<=3
 nB:m.bm≠B/\m.g≠B/\m.bm≠m.g/\(∀b∈m.bs,b≠B/\b≠m.g/\b≠m.bm)
 nd:m.bs.Nodup
theorem FB.lt {m:FM} {kn:Int->Option SV} {ow:Nat->Int->Option SV} (h:FB w B m n kn ow):B<w.heap.size:=(aw.1 h.nN).1
theorem FB.c0 {m:FM} {kn:Int->Option SV} {ow:Nat->Int->Option SV} (h:FB w B m n kn ow):w.cell? ⟨B,0,ν⟩=μ (.map (μ m.bm)):=av w B 0 _ _ (0,0) h.nN
theorem FB.c1 {m:FM} {kn:Int->Option SV} {ow:Nat->Int->Option SV} (h:FB w B m n kn ow):w.cell? ⟨B,1,ν⟩=μ m.sl:=av w B 1 _ _ (0,0) h.nN
theorem FB.below {w w':eB} {B:Nat} {m:FM} {n:Nat} {kn:Int->Option SV} {ow:Nat->Int->Option SV} (h:FB w B m n kn ow)(hb:eN w w'):FB w' B m n kn ow:=
 ⟨(hb.block B h.lt).trans h.nN,h.row.below hb,h.km.below hb,λi b e=>(h.om i b e).below hb,h.few,h.nB,h.nd⟩
theorem FB.port {m:FM} {kn:Int->Option SV} {ow:Nat->Int->Option SV} (h:FB w B m n kn ow)(i:Nat)(b:Nat)(e:m.bs[i]? =μ b):w.cell? ⟨m.g,i,ν⟩=μ (.map (μ b)):=by
 refine Row.cell h.row i _ ?_;unfold FM.row;rw[cF,e];rfl
theorem A5(B:Nat)(m:FM)(n:Nat)(kn:Int->Option SV)(ow:Nat->Int->Option SV)(port:Int)(w:eB)(h:FB w B m n kn ow):
 Calls fk 176 #[π (μ ⟨B,0,ν⟩),ι κ port] w λe w'=>e=ρ (.bool (decide (0<=port)&&decide (port<(m.bs.length:Int))))/\w=w':=by
 have hl:=h.lt;have c1:w.cell? ⟨B,1,ν⟩=μ (σ (μ ⟨m.g,0,ν⟩) m.bs.length m.cap):=h.c1;have hf:=h.few;by_cases h0:0<=port
 ·by_cases h1:port<(m.bs.length:Int)
  ·have hv:(decide (0<=port)&&decide (port<(m.bs.length:Int)))=true:=by simp[h0,h1]
   rw[hv];clear hv h
   go_in
   go_wp2
   go_ret;exact⟨by first|rfl|(simp;omega),rfl⟩
  ·have hv:(decide (0<=port)&&decide (port<(m.bs.length:Int)))=false:=by simp[h1]
   rw[hv];clear hv h
   go_in
   go_wp2
   go_ret;exact⟨by first|rfl|(simp;omega),rfl⟩
 ·have hv:(decide (0<=port)&&decide (port<(m.bs.length:Int)))=false:=by simp[h0]
  rw[hv];clear hv h
  go_in
  go_wp2
  go_ret;exact⟨by first|rfl|(simp;omega),rfl⟩
def uC(aa7:Nat)(port own seq:Int)(es:List j2):Nat:=if 0<=port/\port<(aa7:Int)then pj own seq es else 1
theorem pV(B:Nat)(m:FM)(k:Nat)(kn:Int->Option SV)(ow:Nat->Int->Option SV)(port own seq:Int)(a:Option eA)(n cap:Nat)(es:List j2)(w:eB)(h:FB w B m k kn ow)(hn:n<=maxLen)(ho:jm w a n es):
 Calls fk 216 #[π (μ ⟨B,0,ν⟩),ι κ port,.agg #[ι κ own,ι κ seq,σ a n cap]] w λe w'=>e=ρ (jy (uC m.bs.length port own seq es))/\eN w w':=by
 have hk:=iB w (γ #[ι κ own,ι κ seq,σ a n cap] 40);have hh:=A5 B m k kn ow port _ (h.below hk);have hc:=yN own seq a n cap es _ hn (ho.below hk);have E1:Hid (jy 1=.iface 128 (ι κ 1)):=rfl;by_cases hp:0<=port/\port<(m.bs.length:Int)
 ·have hv:(decide (0<=port)&&decide (port<(m.bs.length:Int)))=true:=by simp[hp.1,hp.2]
  have hf:uC m.bs.length port own seq es=pj own seq es:=by rw[uC,ag hp]
  rw[hv]at hh;rw[hf];clear hv hf h
  go_in
  go_wp2_with(fail);refine hh.mono ?_;rintro e w1 ⟨rfl,rfl⟩;go_wp2_with(fail);refine hc.mono ?_;rintro e w2 ⟨rfl,k2⟩
  go_wp2
  go_ret;exact⟨rfl,iA hk k2⟩
 ·have hv:(decide (0<=port)&&decide (port<(m.bs.length:Int)))=false:=by
   simp only[Bool.and_eq_false_iff,decide_eq_false_iff_not];omega
  have hf:Hid (uC m.bs.length port own seq es=1):=by show _=_;rw[uC,ae hp]
  rw[hv]at hh;clear hv h
  go_in
  go_wp2_with(fail);refine hh.mono ?_;rintro e w1 ⟨rfl,rfl⟩;go_wp2_with(fail);rw[hf.out,E1.out];go_ret;exact⟨rfl,hk⟩
theorem Kf(B:Nat)(m:FM)(k:Nat)(kn:Int->Option SV)(ow:Nat->Int->Option SV)(own seq:Int)(a:Option eA)(n cap:Nat)(w:eB)(h:FB w B m k kn ow)(hr:rS own)(hk:kn own=ν):
 Calls fk 217 #[π (μ ⟨B,0,ν⟩),.agg #[ι κ own,ι κ seq,σ a n cap]] w λe w'=>e=ρ (ι κ 1)/\eN w w':=by
 have hz:=oT;have hb:=iB w (γ #[ι κ own,ι κ seq,σ a n cap] 40);have h1:=h.below hb;obtain⟨W1,ke⟩:=gH (w.alloc (γ #[ι κ own,ι κ seq,σ a n cap] 40));have x0:W1.cell? ⟨w.heap.size,0,ν⟩=μ (ι κ own):=by rw[<-ke];exact aq w #[ι κ own,ι κ seq,σ a n cap] 40 (0,0) 0
 rw[ke]at hb h1;have HW:Hid _:=ke;clear ke;have qN:(fI 211 (.map (μ m.bm)) (ι κ own) true).run fk W1.drew=.ok (τ #[.agg #[ι κ 0,ι κ 0,σ ν 0 0],.bool false]) W1.drew:=by
  have:=h1.km.drew.look_ok own hr;rw[hk]at this;exact this
 have afc:(fI 211 (.map (μ m.bm)) (ι κ own) true).run fk (W1.alloc (γ #[ι κ 0,ι κ 0,σ ν 0 0] 40)).drew=.ok (τ #[.agg #[ι κ 0,ι κ 0,σ ν 0 0],.bool false]) (W1.alloc (γ #[ι κ 0,ι κ 0,σ ν 0 0] 40)).drew:=by
  have:=(h1.km.alloc (γ #[ι κ 0,ι κ 0,σ ν 0 0] 40)).drew.look_ok own hr;rw[hk]at this;exact this
 have c0:=h1.c0;have hl:=h1.lt;have hx:w.heap.size<W1.heap.size:=af W1 _ x0;clear h h1 hk
 go_in
 go_wp2_with(fail);rw[HW.out]
 go_region
 all_goals
  go_wp2
  go_ret;exact⟨rfl,below_drewN (hb.alloc hb.size _) 1⟩
theorem Kg(B:Nat)(m:FM)(k:Nat)(kn:Int->Option SV)(ow:Nat->Int->Option SV)(own seq:Int)(a:Option eA)(n cap:Nat)(es:List j2)(t:SV)(fs:List j2)(w:eB)(h:FB w B m k kn ow)(hr:rS own)(hk:kn own=μ t)(ho:jm w a n es)(hn:n<=1000000)(ht:jm w t.a t.n fs):
 Calls fk 217 #[π (μ ⟨B,0,ν⟩),.agg #[ι κ own,ι κ seq,σ a n cap]] w λe w'=>e=ρ (ι κ (mU seq es t.seq fs))/\eN w w':=by
 obtain⟨tw,ts,ta,tn,tc⟩:=t;simp only at ht;have hz:=oT;have hb:=iB w (γ #[ι κ own,ι κ seq,σ a n cap] 40);have h1:=h.below hb;obtain⟨W1,ke⟩:=gH (w.alloc (γ #[ι κ own,ι κ seq,σ a n cap] 40));have pO:W1.heap[w.heap.size]? =μ (γ #[ι κ own,ι κ seq,σ a n cap] 40 (0,0)):=by rw[<-ke];exact aV w _
 rw[ke]at hb h1;have HW:Hid _:=ke;clear ke;have x0:W1.cell? ⟨w.heap.size,0,ν⟩=μ (ι κ own):=av W1 _ 0 _ _ (0,0) pO;have qN:(fI 211 (.map (μ m.bm)) (ι κ own) true).run fk W1.drew=.ok (τ #[.agg #[ι κ tw,ι κ ts,σ ta tn tc],.bool true]) W1.drew:=by
  have:=h1.km.drew.look_ok own hr;rw[hk]at this;exact this
 have afc:(fI 211 (.map (μ m.bm)) (ι κ own) true).run fk (W1.alloc (γ #[ι κ 0,ι κ 0,σ ν 0 0] 40)).drew=.ok (τ #[.agg #[ι κ tw,ι κ ts,σ ta tn tc],.bool true]) (W1.alloc (γ #[ι κ 0,ι κ 0,σ ν 0 0] 40)).drew:=by
  have:=(h1.km.alloc (γ #[ι κ 0,ι κ 0,σ ν 0 0] 40)).drew.look_ok own hr;rw[hk]at this;exact this
 have c0:=h1.c0;have hl:=h1.lt;have hx:w.heap.size<W1.heap.size:=af W1 _ x0;have mf:eN w ((W1.alloc (γ #[ι κ tw,ι κ ts,σ ta tn tc] 40)).drew):=below_drewN (hb.alloc hb.size _) 1;have rM:=En own seq tw ts a ta n tn cap tc es fs _ (ho.below mf) (ht.below mf) hn;have x1:W1.cell? ⟨w.heap.size,1,ν⟩=μ (ι κ seq):=av W1 _ 1 _ _ (0,0) pO;have x2:W1.cell? ⟨w.heap.size,2,ν⟩=μ (σ a n cap):=av W1 _ 2 _ _ (0,0) pO;clear h h1 hk ht ho pO
 go_in
 go_wp2_with(fail);rw[HW.out]
 go_region
 all_goals
  go_wp2_with(fail);refine rM.mono ?_;rintro e w2 ⟨rfl,k2⟩
  go_wp2
  go_ret;exact⟨rfl,iA mf k2⟩
structure jN(w w':eB)(m:FM):Prop where
 os:w'.os=w.os
 tape:w'.tape=w.tape
 output:w'.output=w.output
 size:w.heap.size<=w'.heap.size
 block:∀i,i<w.heap.size->i≠m.bm->i∉m.bs->w'.heap[i]? =w.heap[i]?
theorem jN.je(m:FM)(h:eN w w'):jN w w' m:=⟨h.os,h.tape,h.output,h.size,λi hi _ _=>h.block i hi⟩
theorem jN.trans {a b c:eB} {m:FM} (h:jN a b m)(k:jN b c m):jN a c m:=
 ⟨k.os.trans h.os,k.tape.trans h.tape,k.output.trans h.output,Nat.le_trans h.size k.size,λi hi h1 h2=>(k.block i (Nat.lt_of_lt_of_le hi h.size) h1 h2).trans (h.block i hi h1 h2)⟩
theorem jN.oU {m:FM} (h:w.mapTurned w' b)(hb:b=m.bm \/b∈m.bs):jN w w' m:=by
 have g:=h.grown;refine⟨g.os,g.tape,g.output,g.size,λi hi h1 h2=>g.block i hi (λe=> ?_)⟩;have:i=b:=by simpa using e
 subst this;rcases hb with hb|hb
 ·exact h1 hb
 ·exact h2 hb
theorem jN.below {a b:eB} {m:FM} (h:eN w a)(k:jN a b m)(h1:w.heap.size<=m.bm)(h2:∀x∈m.bs,w.heap.size<=x):eN w b:=
 ⟨k.os.trans h.os,k.tape.trans h.tape,k.output.trans h.output,Nat.le_trans h.size k.size,λi hi=>by
  rw[k.block i (Nat.lt_of_lt_of_le hi h.size) eE (λe=>by have:=h2 i e;omega)];exact h.block i hi⟩
theorem nC {x:Nat} (h:w.mapTurned w' b)(hx:x<w.heap.size)(jV:x≠b):w'.heap[x]? =w.heap[x]? :=h.grown.block x hx (λe=>jV (by simpa using e))
theorem FB.afd {m:FM} {kn kn':Int->Option SV} {ow:Nat->Int->Option SV} (h:FB w B m n kn ow)(ht:w.mapTurned w' m.bm)(hk:SMap w' m.bm n' kn')(hn:n<=n'):FB w' B m n' kn' ow:=by
 refine⟨(nC ht h.lt (λe=>h.nB.1 e.symm)).trans h.nN,h.row.keep ht.grown.size (λk sg=> ?_),hk,λi b e=> ?_,h.few,h.nB,h.nd⟩
 ·have hg:m.g=k:=by simpa[FM.sl,eF]using sg
  subst hg;exact nC ht (h.row.lt _ sg) (λe=>h.nB.2.2.1 e.symm)
 ·have hb:=h.nB.2.2.2 b (bC e);exact((h.om i b e).keep (nC ht (h.om i b e).lt hb.2.2)).mono hn
theorem FB.Kh {m:FM} {kn:Int->Option SV} {ow:Nat->Int->Option SV} {f:Int->Option SV} {i:Nat} (h:FB w B m n kn ow)(hi:m.bs[i]? =μ b)(ht:w.mapTurned w' b)(hk:SMap w' b n' f)(hn:n<=n'):FB w' B m n' kn (λj=>if j=i then f else ow j):=by
 have hb:=h.nB.2.2.2 b (bC hi);refine⟨(nC ht h.lt (λe=>hb.1 e.symm)).trans h.nN,h.row.keep ht.grown.size (λk sg=> ?_),(h.km.keep (nC ht h.km.lt (λe=>hb.2.2 e.symm))).mono hn,λj c e=> ?_,h.few,h.nB,h.nd⟩
 ·have hg:m.g=k:=by simpa[FM.sl,eF]using sg
  subst hg;exact nC ht (h.row.lt _ sg) (λe=>hb.2.1 e.symm)
 ·by_cases hj:j=i
  ·subst hj;rw[hi]at e;obtain rfl:=Option.some.inj e;simp only[if_true];exact hk
  ·rw[ae hj];have jV:c≠b:=λe1=>by
    subst e1;exact hj ((List.getElem?_inj (aH.1 e).1 h.nd).1 (e.trans hi.symm))
   exact((h.om j c e).keep (nC ht (h.om j c e).lt jV)).mono hn
def wv(f:Int->Option SV)(k:Int)(s:SV):Int->Option SV:=λx=>if x=k then μ s else f x
structure FH(w w':eB)(B:Nat)(m:FM)(n:Nat)(kn:Int->Option SV)(ow:Nat->Int->Option SV)(own seq:Int)(es:List j2)(s:SV):Prop where
 so:s.own=own
 ss:s.seq=seq
 sn:s.n=es.length
 so2:jm w' s.a s.n es
 nil:kM s.a s.cap
 new:∀j,eF (σ s.a s.n s.cap)=μ j->w.heap.size<=j/\j<w'.heap.size
 fb:FB w' B m (n+1+m.bs.length) (wv kn own s) (λi=>if i<m.bs.length then wv (ow i) own s else ow i)
 kept:jN w w' m
theorem jm.QE {os:List j2} {m:FM} (h:jm w a n os)(hk:jN w w' m)(hf:∀j,eF (σ a n cap)=μ j->j≠m.bm/\j∉m.bs):jm w' a n os:=by
 refine⟨h.1,?_⟩;rcases h.2 with h2|⟨b,off,rfl,h2⟩
 ·exact .inl h2
 ·refine .inr ⟨b,off,rfl,λj hj=> ?_⟩;obtain⟨c1,c2⟩:=h2 j hj;obtain⟨f1,f2⟩:=hf b rfl;have e:=hk.block b (af w _ c1) f1 f2;exact⟨(ai (a:=⟨b,off+j*2,ν⟩) e).trans c1,(ai (a:=⟨b,off+j*2+1,ν⟩) e).trans c2⟩
theorem Eo(B:Nat)(m:FM)(k:Nat)(kn:Int->Option SV)(ow:Nat->Int->Option SV)(own seq:Int)(a:Option eA)(n cap:Nat)(es:List j2)(w:eB)(h:FB w B m k kn ow)(hr:rS own)(ho:jm w a n es)(kj:kM a cap)(hn:n<=1000000)(hk:k<=1000000):
 Calls fk 118 #[π (μ ⟨B,0,ν⟩),.agg #[ι κ own,ι κ seq,σ a n cap]] w λe w'=>e=ρ (τ #[])/\∃s,FH w w' B m k kn ow own seq es s:=by
 have hb:=iB w (γ #[ι κ own,ι κ seq,σ a n cap] 40);have h1:=h.below hb;obtain⟨W1,ke⟩:=gH (w.alloc (γ #[ι κ own,ι κ seq,σ a n cap] 40));have pO:W1.heap[w.heap.size]? =μ (γ #[ι κ own,ι κ seq,σ a n cap] 40 (0,0)):=by rw[<-ke];exact aV w _
 rw[ke]at hb h1;have HW:Hid _:=ke;clear ke;have A6:=BP own seq a n cap es W1 hn kj (ho.below hb)
 go_in
 go_wp2_with(fail);rw[HW.out];refine A6.mono ?_;rintro e w2 ⟨⟨va,vc,rfl,vo,vn,vl,DM⟩,k2⟩;clear A6;have qE:=(k2.block _ (aw.1 pO).1).trans pO;have x0:w2.cell? ⟨w.heap.size,0,ν⟩=μ (ι κ own):=av w2 _ 0 _ _ (0,0) qE;have x1:w2.cell? ⟨w.heap.size,1,ν⟩=μ (ι κ seq):=av w2 _ 1 _ _ (0,0) qE;have x2:w2.cell? ⟨w.heap.size,2,ν⟩=μ (σ a n cap):=av w2 _ 2 _ _ (0,0) qE;have fx:=λj=>bw w2 w.heap.size j _ _ qE;have xl:w.heap.size<w2.heap.size:=af w2 _ x0
 go_upto_region 2 with fail
 obtain⟨W3,wh⟩:=gH (((w2.setCell ⟨w.heap.size,0,ν⟩ (ι κ own)).setCell ⟨w.heap.size,1,ν⟩ (ι κ seq)).setCell ⟨w.heap.size,2,ν⟩ (σ va es.length vc));have sg:=iA hb k2;have b3:eN w W3:=by rw[<-wh];exact((sg.setCell (Nat.le_refl _) _).setCell (Nat.le_refl _) _).setCell (Nat.le_refl _) _
 have xG:W3.heap[w.heap.size]? =μ (γ #[ι κ own,ι κ seq,σ va es.length vc] 40 (0,0)):=by
  rw[<-wh];have s1:=cD w2 w.heap.size #[ι κ own,ι κ seq,σ a n cap] (#[ι κ own,ι κ seq,σ a n cap].setIfInBounds 0 (ι κ own)) 40 (0,0) qE;rw[<-bF w2 w.heap.size 0 _ _ (0,0) _ qE]at s1;have s2:=cD _ w.heap.size _ ((#[ι κ own,ι κ seq,σ a n cap].setIfInBounds 0 (ι κ own)).setIfInBounds 1 (ι κ seq)) 40 (0,0) s1;rw[<-bF _ w.heap.size 1 _ _ (0,0) _ s1]at s2;have s3:=cD _ w.heap.size _ (((#[ι κ own,ι κ seq,σ a n cap].setIfInBounds 0 (ι κ own)).setIfInBounds 1 (ι κ seq)).setIfInBounds 2 (σ va es.length vc)) 40 (0,0) s2;rw[<-bF _ w.heap.size 2 _ _ (0,0) _ s2]at s3;exact s3
 have aa9:W1.heap.size=w.heap.size+1:=by have:=HW.out;rw[<-this];simp
 have vo3:jm W3 va es.length es:=by
  refine vo.kept (cap:=vc) (λj hj=> ?_);have:=(DM j hj).1;rw[<-wh,ak _ _ _ _ (by show j≠w.heap.size;omega),ak _ _ _ _ (by show j≠w.heap.size;omega),ak _ _ _ _ (by show j≠w.heap.size;omega)]
 have hs3:w2.heap.size=W3.heap.size:=by rw[<-wh];simp
 rw[wh];have FB3:=h.below b3;have Mt:eN w W3.drew:=below_drewN b3 1;have X6:=h.below Mt;obtain⟨W4,hr4,S4,T4⟩:=X6.km.store (by unfold maxLen;omega) own hr ⟨own,seq,va,es.length,vc⟩;have afg:(fG 211 (.map (μ m.bm)) (ι κ own) (.agg #[ι κ own,ι κ seq,σ va es.length vc])).run fk W3.drew=.ok () W4:=hr4;have FB4:=X6.afd T4 S4 (Nat.le_succ _);have c0:=FB3.c0;have lB:=FB3.lt;have y0:W3.cell? ⟨w.heap.size,0,ν⟩=μ (ι κ own):=av W3 _ 0 _ _ (0,0) xG;have y1:W3.cell? ⟨w.heap.size,1,ν⟩=μ (ι κ seq):=av W3 _ 1 _ _ (0,0) xG;have y2:W3.cell? ⟨w.heap.size,2,ν⟩=μ (σ va es.length vc):=av W3 _ 2 _ _ (0,0) xG;have yl:w.heap.size<W3.heap.size:=af W3 _ y0;clear x0 x1 x2 fx xl wh hr4 S4
 go_region
 have KM4:jN W3.drew W4 m:=jN.oU T4 (.inl rfl);have hbm:∀x,x=m.bm \/x∈m.bs->x<w.heap.size:=by
  intro x hx;rcases hx with rfl|hx
  ·exact h.km.lt
  ·obtain⟨i,hi⟩:=List.getElem?_of_mem hx;exact(h.om i x hi).lt
 have WC:∀V:eB,jN W3.drew V m->V.heap[w.heap.size]? =μ (γ #[ι κ own,ι κ seq,σ va es.length vc] 40 (0,0)):=λV hV=>
  (hV.block w.heap.size yl (λe=>by have:=hbm m.bm (.inl rfl);omega) (λe=>by have:=hbm _ (.inr e);omega)).trans xG
 obtain⟨s,hs⟩:∃s:SV,(⟨own,seq,va,es.length,vc⟩:SV)=s:=⟨_,rfl⟩
 have abd:FB W4 B m (k+1+0) (wv kn own s) (λi=>if i<0 then wv (ow i) own s else ow i):=by
  rw[<-hs];have e0:(λi=>if i<0 then wv (ow i) own ⟨own,seq,va,es.length,vc⟩else ow i)=ow:=by funext i;simp
  rw[e0];exact FB4
 have uo:=h.few;have c1:W4.cell? ⟨B,1,ν⟩=μ (σ (μ ⟨m.g,0,ν⟩) m.bs.length m.cap):=FB4.c1;have lB4:=FB4.lt;have HS:Hid _:=hs;have HX:Hid _:=WC;have H3:Hid (jm W3 va es.length es/\eN w W3/\w2.heap.size=W3.heap.size/\W1.heap.size=w.heap.size+1):=⟨vo3,b3,hs3,aa9⟩
 have Hbm:Hid _:=hbm;clear hs WC c0 lB y0 y1 y2 yl FB3 X6 FB4 afg T4 h1 qE pO xG b3 Mt hb k2 sg hbm vo3 hs3 aa9 vo
 go_wp2
 go_loopw [20] (λi wr=>∃j:Nat,j<=m.bs.length/\i=ι κ j/\FB wr B m (k+1+j) (wv kn own s) (λi=>if i<j then wv (ow i) own s else ow i)/\jN W3.drew wr m) (λi _=>m.bs.length-(ft i).toNat)
 case atStart=>exact⟨0,Nat.zero_le _,rfl,abd,KM4⟩
 case round=>
  clear abd KM4 c1 lB4;obtain⟨j,hj,rfl,hF,hM⟩:=hrel;by_cases kH:j<m.bs.length
  ·have nG:(j:Int)<(m.bs.length:Int):=eE;have hX:=HX.out wr hM;have z0:wr.cell? ⟨w.heap.size,0,ν⟩=μ (ι κ own):=av wr _ 0 _ _ (0,0) hX;have z1:wr.cell? ⟨w.heap.size,1,ν⟩=μ (ι κ seq):=av wr _ 1 _ _ (0,0) hX;have z2:wr.cell? ⟨w.heap.size,2,ν⟩=μ (σ va es.length vc):=av wr _ 2 _ _ (0,0) hX;have zl:w.heap.size<wr.heap.size:=af wr _ z0;have hbj:m.bs[j]? =μ m.bs[j] :=ay kH;have cp:=hF.port j _ hbj;have gl:m.g<wr.heap.size:=af wr _ cp;obtain⟨W5,FI,S5,T5⟩:=(hF.om j _ hbj).store (by unfold maxLen;omega) own hr s;have F5:=hF.Kh hbj T5 S5 (Nat.le_succ _);have M5:jN W3.drew W5 m:=hM.trans (jN.oU T5 (.inr (aE _)));have F5':FB W5 B m (k+1+(j+1)) (wv kn own s) (λi=>if i<j+1 then wv (ow i) own s else ow i):=by
    have e:(λi=>if i<j+1 then wv (ow i) own s else ow i)=(λi=>if i=j then(λx=>if x=own then μ s else(if j<j then wv (ow j) own s else ow j) x)else(if i<j then wv (ow i) own s else ow i)):=by
     funext i
     by_cases h1:i=j
     ·rw[h1,ag (Nat.lt_succ_self j),ag rfl,ae (Nat.lt_irrefl j)];rfl
     ·by_cases h2:i<j
      ·rw[ag eE,ae h1,ag h2]
      ·rw[ae eE,ae h1,ae h2]
    rw[e];exact F5
   have afh:(fG 211 (.map (μ m.bs[j])) (ι κ own) (.agg #[ι κ own,ι κ seq,σ va es.length vc])).run fk wr=.ok () W5:=by
    have:=FI;rw[<-HS.out]at this;exact this
   generalize m.bs[j] =bj at cp afh;clear FI S5 T5 F5 hF hM hbj hX
   go_wp2
   go_roundw
   case rel=>exact⟨j+1,eE,by go_num,F5',M5⟩
   case measure=>simp[ft];omega
  ·have Me:j=m.bs.length:=eE;subst Me;have HF:Hid (∃s,FH w wr B m k kn ow own seq es s):=by
    obtain⟨q1,q2,q3,q4⟩:=H3.out;have tQ:∀x,eF (σ va es.length vc)=μ x->x≠m.bm/\x∉m.bs:=λx hx=>by
     have h1:=(DM x hx).1;exact⟨λe=>by have:=Hbm.out m.bm (.inl rfl);omega,λe=>by have:=Hbm.out x (.inr e);omega⟩
    have o1:=(q1.drewN 1).QE (cap:=vc) hM tQ;have qI:=hM.size;have ake:W3.heap.size<=wr.heap.size:=qI;refine⟨s,?_,?_,?_,?_,?_,?_,hF,(jN.je m (below_drewN q2 1)).trans hM⟩
    ·rw[<-HS.out]
    ·rw[<-HS.out]
    ·rw[<-HS.out]
    ·rw[<-HS.out];exact o1
    ·rw[<-HS.out];exact vn
    ·rw[<-HS.out];intro x hx;have:=DM x hx;omega
   clear hF hM
   go_wp2
   first|go_end0|refine aj (ar rfl _ _ _) rfl ?_
   exact⟨rfl,HF.out⟩
open Go.ChangeShapes Go.WideShapes Go.ChangeAt
structure yO(w:eB)(a:Option eA)(n:Nat)(S:Nat->SV)(E:Nat->List j2):Prop where
 row:n=0 \/ ∃b off,a=μ ⟨b,off,ν⟩/\∀j,j<n->w.cell? ⟨b,off+j*3,ν⟩=μ (ι κ (S j).own)/\w.cell? ⟨b,off+j*3+1,ν⟩=μ (ι κ (S j).seq)/\w.cell? ⟨b,off+j*3+2,ν⟩=μ (σ (S j).a (S j).n (S j).cap)
 opt:∀j,j<n->jm w (S j).a (S j).n (E j)/\kM (S j).a (S j).cap/\(S j).n<=maxLen
theorem yO.below {w w':eB} {a:Option eA} {n:Nat} {S:Nat->SV} {E:Nat->List j2} (h:yO w a n S E)(hb:eN w w'):yO w' a n S E:=by
 refine⟨?_,λj hj=>⟨(h.opt j hj).1.below hb,(h.opt j hj).2⟩⟩;rcases h.row with h2|⟨b,off,rfl,h2⟩
 ·exact .inl h2
 ·refine .inr ⟨b,off,rfl,λj hj=> ?_⟩;obtain⟨c1,c2,c3⟩:=h2 j hj;have l:=af w _ c1;exact⟨(hb.cell (p:=⟨b,off+j*3,ν⟩) l).trans c1,(hb.cell (p:=⟨b,off+j*3+1,ν⟩) l).trans c2,(hb.cell (p:=⟨b,off+j*3+2,ν⟩) l).trans c3⟩
theorem Ki {enc:eG×eD->H} {v:eD} {y:fa H×List fF}
 (h2:DataW.trod enc fk W 0 (λ_=>true) true m 38 [v] =μ y):
 ∃(a:Option eA) (n cap:Nat) (os:List j2),v=σ a n cap/\jm W a n os/\kM a cap/\n<=maxLen:=by
 rcases dM cW Tryz.underlying123 gT rfl rfl gT gT h2 with⟨hcs,_⟩|⟨a,len,cap,m',n',V0,V1,D0,D1,P0,P1,hcs,_,hl,hm,Hp,_,hx⟩
 ·simp at hcs;subst hcs;exact⟨ν,0,0,[],rfl,⟨rfl,.inl rfl⟩,λ_=>rfl,eH⟩
 ·simp at hcs;subst hcs;simp at Hp;have each:∀i,i<len->W.cell? (a.add (i*2))=μ (ι κ (ft (V0 i)))/\W.cell? (a.add (i*2+1))=μ (ι κ (ft (V1 i))):=by
   intro i hi;obtain⟨q1,q2,q3,q4⟩:=hx i eE;obtain⟨k,f0,_,_⟩:=a6 aJ q3;obtain⟨n,f1,_,_⟩:=a6 aJ q4;simp at f0 f1;exact⟨by rw[q1,f0];rfl,by rw[q2,f1];rfl⟩
  refine⟨μ a,len,cap,(List.range len).map (λi=>(ft (V0 i),ft (V1 i))),rfl,⟨iC,?_⟩,λh=>by simp at h,eE⟩;by_cases h0:len=0
  ·exact .inl h0
  ·obtain⟨b,off,spot⟩:=a;have hc:=(each 0 eE).1;have BD:spot=ν:=by simpa[Addr.add]using da hc
   subst BD;refine .inr ⟨b,off,rfl,λj hj=> ?_⟩;have Hd:j<len:=by simpa using hj
   have hq:=each j Hd;rw[mR,mR]at hq;simpa[Nat.add_assoc]using hq
structure AV where
 kind:ByteArray
 a:Int
 b:Int
 c:Int
 d:Int
 s:ByteArray
 Mu:Int
 pid:Int
 po:Option eA
 pn:Nat
 BS:Nat
 x:SV
instance:Inhabited AV:=⟨⟨fM,0,0,0,0,fM,0,0,ν,0,0,SV.zero⟩⟩
def AV.at_(v:AV)(w:eB)(b o:Nat):Prop:=
 w.cell? ⟨b,o,ν⟩=μ (.string v.kind)/\w.cell? ⟨b,o+1,ν⟩=μ (ι κ v.a)/\w.cell? ⟨b,o+2,ν⟩=μ (ι κ v.b)/\w.cell? ⟨b,o+3,ν⟩=μ (ι κ v.c)/\w.cell? ⟨b,o+4,ν⟩=μ (ι κ v.d)/\w.cell? ⟨b,o+5,ν⟩=μ (.string v.s)/\
 w.cell? ⟨b,o+6,ν⟩=μ (ι κ v.Mu)/\w.cell? ⟨b,o+7,ν⟩=μ (ι κ v.pid)/\w.cell? ⟨b,o+8,ν⟩=μ (σ v.po v.pn v.BS)/\
 w.cell? ⟨b,o+9,ν⟩=μ (ι κ v.x.own)/\w.cell? ⟨b,o+10,ν⟩=μ (ι κ v.x.seq)/\w.cell? ⟨b,o+11,ν⟩=μ (σ v.x.a v.x.n v.x.cap)
structure BU(w:eB)(a:Option eA)(n:Nat)(V:Nat->AV)(E:Nat->List j2):Prop where
 row:n=0 \/ ∃b off,a=μ ⟨b,off,ν⟩/\∀j,j<n->(V j).at_ w b (off+j*12)
 opt:∀j,j<n->jm w (V j).x.a (V j).x.n (E j)/\kM (V j).x.a (V j).x.cap/\(V j).x.n<=maxLen/\(V j).pn<=maxLen
 pk:∀j,j<n->∃os:List j2,jm w (V j).po (V j).pn os/\kM (V j).po (V j).BS/\(V j).pn<=(V j).BS
theorem AV.at_.below {v:AV} {o:Nat} (h:v.at_ w b o)(hb:eN w w'):v.at_ w' b o:=by
 obtain⟨c0,c1,c2,c3,c4,c5,c6,c7,c8,c9,Qx,UF⟩:=h;have l:=af w _ c0;have k:∀i u,w.cell? ⟨b,i,ν⟩=μ u->w'.cell? ⟨b,i,ν⟩=μ u:=λi u hu=>(hb.cell (p:=⟨b,i,ν⟩) l).trans hu;exact⟨k _ _ c0,k _ _ c1,k _ _ c2,k _ _ c3,k _ _ c4,k _ _ c5,k _ _ c6,k _ _ c7,k _ _ c8,k _ _ c9,k _ _ Qx,k _ _ UF⟩
theorem BU.below {w w':eB} {a:Option eA} {n:Nat} {V:Nat->AV} {E:Nat->List j2} (h:BU w a n V E)(hb:eN w w'):BU w' a n V E:=by
 refine⟨?_,λj hj=>⟨(h.opt j hj).1.below hb,(h.opt j hj).2⟩,λj hj=>by obtain⟨os,o1,o2⟩:=h.pk j hj;exact⟨os,o1.below hb,o2⟩⟩;rcases h.row with h2|⟨b,off,rfl,h2⟩
 ·exact .inl h2
 ·exact .inr ⟨b,off,rfl,λj hj=>(h2 j hj).below hb⟩
theorem BV {enc:eG×eD->H} {t e:eG} {v:eD} {y:fa H×List fF} (ht:fk.underlying t=μ (.slice e))
 (h2:DataW.trod enc fk W 0 (λ_=>true) true m t [v] =μ y):∃(a:Option eA) (n cap:Nat),v=σ a n cap/\n<=maxLen/\n<=cap:=by
 rcases dy ht h2 with⟨hcs,_⟩|⟨a,len,cap,m',n',D,Pl,hcs,_,hl,hm,_,_,_⟩
 ·simp at hcs;subst hcs;exact⟨ν,0,0,rfl,eH,Nat.le_refl _⟩
 ·simp at hcs;subst hcs;exact⟨μ a,len,cap,rfl,eE,hl⟩
theorem NQ {enc:eG×eD->H} {d:fa H} {ps:List fF}
 (h:DataW.Trod enc fk W 0 (λ_=>true) true 23 (σ a n cap) d ps):
 ∃(V:Nat->AV) (E:Nat->List j2),BU W a n V E/\n<=maxLen:=by
 obtain⟨fuel,hf⟩:=h;rcases dy Tryz.underlying23 hf with⟨hcs,_⟩|⟨x,len,cp,m',n',D,Pl,hcs,_,hl,hm,Hp,_,hx⟩
 ·simp[fD]at hcs;obtain⟨rfl,rfl,rfl⟩:=hcs;exact⟨λ_=>default,λ_=>[],⟨.inl rfl,λj hj=>eE,λj hj=>eE⟩,eH⟩
 ·simp[fD]at hcs;obtain⟨rfl,rfl,rfl⟩:=hcs;simp at Hp;have ce:(fk).cellsOf 42=12:=gT;rw[ce]at hx;have each:∀i,i<n->∃q:AV×List j2,(∀b off,x=⟨b,off,ν⟩->q.1.at_ W b (off+i*12))/\(W.cell? (x.add (i*12))).isSome=true/\jm W q.1.x.a q.1.x.n q.2/\kM q.1.x.a q.1.x.cap/\q.1.x.n<=maxLen/\q.1.pn<=maxLen/\∃os:List j2,jm W q.1.po q.1.pn os/\kM q.1.po q.1.BS/\q.1.pn<=q.1.BS:=by
   intro i hi;obtain⟨cs',h1,h2⟩:=hx i eE;obtain⟨_,hlen,hcell⟩:=World.cells?_some h1;obtain⟨xs,k,hk,hxy,_,Nt,FJ⟩:=cX Tryz.underlying42 h2
   match xs,Nt,cs',hlen with
   |[y0,y1,y2,y3,y4,y5,y6,y7],_,[v0,v1,v2,v3,v4,v5,v6,v7,v8,v9,v10,v11],_=>
    have g0:=FJ 0 _ rfl;have g1:=FJ 1 _ rfl;have g2:=FJ 2 _ rfl;have g3:=FJ 3 _ rfl;have g4:=FJ 4 _ rfl;have g5:=FJ 5 _ rfl;have g6:=FJ 6 _ rfl;have g7:=FJ 7 _ rfl;have ci:(fk).cellsOf 3=1:=gT;have afi:(fk).cellsOf 9=1:=gT;have cp3:(fk).cellsOf 37=3:=gT;have cx3:(fk).cellsOf 40=3:=gT;have cse:(fk).cellsOf 38=1:=gT;have cso:(fk).cellsOf 35=1:=gT;simp[ci,afi,cp3,cx3]at g0 g1 g2 g3 g4 g5 g6 g7;obtain⟨s0,f0,_,_⟩:=dF a8 g0;obtain⟨i1,f1,_,_⟩:=a6 aJ g1;obtain⟨i2,f2,_,_⟩:=a6 aJ g2;obtain⟨i3,f3,_,_⟩:=a6 aJ g3;obtain⟨i4,f4,_,_⟩:=a6 aJ g4;obtain⟨s5,f5,_,_⟩:=dF a8 g5;obtain⟨xp,kp,_,_,_,afj,hfp⟩:=cX Tryz.underlying37 g6;obtain⟨xq,kq,_,_,_,afl,hfq⟩:=cX Tryz.underlying40 g7
    match xp,afj,xq,afl with
    |[p0,p1,p2],_,[z0,z1,z2],_=>
     have e0:=hfp 0 _ rfl;have e1:=hfp 1 _ rfl;have e2:=hfp 2 _ rfl;have e3:=hfq 0 _ rfl;have e4:=hfq 1 _ rfl;have e5:=hfq 2 _ rfl;simp[ci,cse,cso]at e0 e1 e2 e3 e4 e5;obtain⟨i6,f6,_,_⟩:=a6 aJ e0;obtain⟨i7,f7,_,_⟩:=a6 aJ e1;obtain⟨pa,pn,BS,f8,hpn,hpc⟩:=BV a9 e2;obtain⟨i9,f9,_,_⟩:=a6 aJ e3;obtain⟨i10,f10,_,_⟩:=a6 aJ e4;obtain⟨ea,en,ec,es,f11,eo,ez,em⟩:=Ki e5;simp at f0 f1 f2 f3 f4 f5 f6 f7 f9 f10;subst f0 f1 f2 f3 f4 f5 f6 f7 f8 f9 f10 f11;obtain⟨pos,po1,po2,_⟩:=NH (a:=pa) (n:=pn) (cap:=BS) (W:=W) ⟨_,e2⟩;have qD:=hcell 0 eE;rw[Go.Deep.add_add]at qD;refine⟨(⟨s0,i1,i2,i3,i4,s5,i6,i7,pa,pn,BS,⟨i9,i10,ea,en,ec⟩⟩,es),λb off he=> ?_,by rw[show i*12+0=i*12 by omega]at qD;rw[qD];rfl,eo,ez,em,hpn,pos,po1,po2,hpc⟩;subst he;have c:=λj (hj:j<12)=>hcell j hj;simp only[mR]at c;have r:∀j,off+i*12+j=off+(i*12)+j:=λj=>rfl;exact⟨c 0 eE,c 1 eE,c 2 eE,c 3 eE,c 4 eE,c 5 eE,c 6 eE,c 7 eE,c 8 eE,c 9 eE,c 10 eE,c 11 eE⟩
  obtain⟨q,hq⟩:=Go.Deep.choose_lt each;refine⟨λi=>(q i).1,λi=>(q i).2,⟨?_,λj hj=>⟨(hq j hj).2.2.1,(hq j hj).2.2.2.1,(hq j hj).2.2.2.2.1,(hq j hj).2.2.2.2.2.1⟩,λj hj=>(hq j hj).2.2.2.2.2.2⟩,eE⟩;by_cases h0:n=0
  ·exact .inl h0
  ·obtain⟨b,off,spot⟩:=x;obtain⟨u,hu⟩:=Option.isSome_iff_exists.1 (hq 0 eE).2.1;have BD:spot=ν:=by simpa[Addr.add]using da hu
   subst BD;exact .inr ⟨b,off,rfl,λj hj=>(hq j hj).1 b off rfl⟩
end Go.Proofs.YtieklnlbljejdaaGreatDoor
