import Derived.Test.YtieklnlbljejdaaGreatDoorQ12
open Go.Value renaming int → ι, slice → σ, pointer → π, tuple → τ, nilIface → η
open Go.IntKind renaming i64 → κ
open Go.Ending renaming returned → ρ
open Go.Obj renaming cells → γ
open Option renaming none → ν, some → μ
open Go renaming World → dR, Value → dT, Calls → eT
open Go.Proofs.Tryz renaming prog → eU
open List renaming take → gG, setIfInBounds_toArray → gk, set_cons_zero → gp, set_cons_succ → gq
open Go.Instr renaming index → gH
open Go.Builtin renaming append_ → fA
open Go.Region renaming wanted → eG
open Go.RowKit renaming intOf → eV
open Go.Act renaming put → gj
set_option maxRecDepth 100000
set_option maxHeartbeats 8000000
open Go.Proofs.Tryz
namespace Go.Proofs.YtieklnlbljejdaaGreatDoor
open Go.RowKit St
namespace Rt
variable {b c d g i k m:Nat} {t u v:Value} {w w' x:World} {y:Yt}
theorem J2(a:Addr)(n cap:Nat)(w:dR):(binOp .eql 140 (σ (μ a) n cap) (σ ν 0 0)).run eU w=.ok (.bool false) w:=gL
theorem WO(w:dR):(binOp .eql 140 (σ ν 0 0) (σ ν 0 0)).run eU w=.ok (.bool true) w:=gL
structure Ge(w w':dR)(v:dT)(l:List UInt8):Prop where
 row:Row w' 1 v l.length (iH l)
 own:∀k,v.ownBlock=μ k->w.heap.size<=k
 below:eh w w'
theorem Bc(a:Addr)(cap:Nat)(w:dR):
 eT eU 201 #[σ (μ a) 0 cap] w λe w'=>∃(v:dT),e=ρ v/\Ge w w' v [] :=by
 have hq:=J2
 go_in
 go_wp2
 go_ret;exact⟨_,rfl,⟨Row.made w 1 _ #[] (0,0) 0 0 [] rfl rfl (Nat.le_refl _) dX (.inl rfl) gO,λj Z=>kj (Nat.le_refl _) Z,gN _ _⟩⟩
theorem MA(w:dR):
 eT eU 201 #[σ ν 0 0] w λe w'=>∃(v:dT),e=ρ v/\Ge w w' v [] :=by
 have hq:=WO
 go_in
 go_wp2
 go_ret;exact⟨_,rfl,⟨Row.nil w 1,λj Z=>mP Z,au _ _⟩⟩
theorem P4(l:List UInt8):∀u∈iH l,u.oneCell'=true:=by
 intro u Z;unfold iH at Z;obtain⟨b,_,rfl⟩:=bH.1 Z;rfl
theorem J3(b off n cap:Nat)(l:List UInt8)(w:dR)(hn:n<=1000000)(A:0<n)(hl:l.length=n)(hc:∀j u,(iH l)[j]? =μ u->w.cell? ⟨b,off+j,ν⟩=μ u):
 eT eU 201 #[σ (μ ⟨b,off,ν⟩) n cap] w λe w'=>∃(v:dT),e=ρ v/\Ge w w' v l:=by
 obtain⟨i0,hi,od,M,J⟩:=aY Td;have hq:=J2;have X:eh w (w.alloc (γ #[] 5)):=gN _ _;have D:Row (w.alloc (γ #[] 5)) 1 (σ (μ ⟨w.heap.size,0,ν⟩) 0 0) 0 [] :=Row.made w 1 _ #[] (0,0) 0 0 [] rfl rfl (Nat.le_refl _) dX (.inl rfl) gO;have Q:∀j u,(iH l)[j]? =μ u->(w.alloc (γ #[] 5)).cell? ((⟨b,off,ν⟩:Addr).add j)=μ u:=λj u H=>by
  rw[mG];have T:=hc j u H;exact(ai (a:=⟨b,off+j,ν⟩) (X.block b (af _ _ T))).trans T
 have Y:(iH l).length=n*1:=by rw[qo,hl,Nat.mul_one]
 go_in
 go_wp2_with(at_builtin;go_must(refine iB _ rfl (.tmp 5) (.tmp 6) 140 rfl 5 i0 (.int .u8 0) 1 1 underlying140 hi od M J rfl dX (σ (μ ⟨w.heap.size,0,ν⟩) 0 0) 0 [] rfl D _ n cap (iH l) rfl Y A Q (P4 l) (by unfold maxLen;omega) dU ?_));intro g1 BG w1 h V U;have j7:=lA X V (λj Z=>kj (Nat.le_refl _) Z);have G:=nt (B:=w.heap.size) U dU (λj Z=>kj (Nat.le_refl _) Z);clear V U
 go_wp2
 go_ret;refine⟨_,rfl,⟨?_,λj Z=>kj G Z,j7⟩⟩;rw[hl];exact h
theorem Row.front {a:Option Addr} {cp:Nat} {l:List UInt8} (h:Row w 1 (σ a l.length cp) l.length (iH l))(k:Nat)(hk:k<=l.length):
 (convert 140 9 (σ a k cp)).run eU w=.ok (.string ⟨(l.take k).toArray⟩) w:=by
 have Y:(l.take k).length=k:=by rw[List.length_take];omega
 have X:Row w 1 (σ a k cp) k (iH (l.take k)):=by
  refine⟨by rw[qo,Y,Nat.mul_one],?_⟩;rcases h.2 with⟨e,e0⟩|⟨g,cap,e,Q,X,U,M,T⟩
  ·obtain⟨rfl,_,rfl⟩:=bG e;exact .inl ⟨by rw[show k=0 by omega],dU⟩
  ·obtain⟨rfl,_,rfl⟩:=bG e;refine .inr ⟨g,cp,rfl,Q,dU,U,λj u Z=>M j u ?_,T⟩;have V:j<(iH (l.take k)).length:=(aI.1 Z).1;rw[qo,Y]at V;unfold iH at Z⊢;rw[bU,List.getElem?_take]at Z;rw[ag V]at Z;rw[bU];exact Z
 exact Row.back X 140 9 5 underlying140 underlying5 underlying9
theorem P5(g o d:Nat)(c:pT)(ov:Nat->dT)(many:Int)(w:dR)(hd:d<2)(hC:pP w g o 7 (BS c ov))(hR:Row w 1 (ov d) (c.on d).length (iH (c.on d)))(hg:(ov d).ownBlock≠μ g)(hl:(c.on d).length<=2000):
 eT eU 158 #[π (μ ⟨g,o,ν⟩),ι κ (d:Int),ι κ many] w λe w'=>e=ρ (.string ⟨((c.on d).take (min many.toNat (c.on d).length)).toArray⟩)/\∃v',Rc w w' g o d {c with on:=jK c.on d ((c.on d).drop (min many.toNat (c.on d).length))} ov v':=by
 have T:w.cell? ⟨g,o+5+d,ν⟩=μ (ov d):=by rw[Nat.add_assoc,hC.cell (5+d) dU,Ms c ov d hd]
 have f5:w.frozen? ⟨g,o+5+d,ν⟩=false:=by rw[Nat.add_assoc];exact hC.fz (5+d) dU
 have gl:=hC.lt dX;have j3:(d:Int)<2:=dU;have hd0:(0:Int)<=(d:Int):=dU;have HC:Hid _:=hC;have HG:Hid _:=hg;obtain⟨k,hk⟩:=fW (min many.toNat (c.on d).length);obtain⟨a,cp,hv⟩:=Row.shape hR;have Vg:k<=(c.on d).length:=dU;have J:max (0:Int) (min many ((c.on d).length:Nat))=(k:Int):=dU;have JE:=hR;rw[hv]at JE T;have uI:=Row.front JE k Vg;have X:((c.on d).drop k).length=(c.on d).length-k:=dw;rw[hk];have HV:Hid _:=hv;have HR:Hid _:=JE;obtain⟨l,hle⟩:=fW (c.on d);rw[hle]at J uI Vg hl X T HR⊢;have HL:Hid _:=hle;obtain⟨n,hn⟩:=fW (l.length);have HN:Hid _:=hn;rw[hn]at J Vg hl X T;clear hC hR hg hv hle JE hn;have jY:∀(W w1:dR) (v1:dT) (L:List UInt8),eh w W->Ge W w1 v1 L->∃M Q,v1=σ M L.length Q/\w1.cell? ⟨g,o+5+d,ν⟩=w.cell? ⟨g,o+5+d,ν⟩/\w1.frozen? ⟨g,o+5+d,ν⟩=false/\g<w1.heap.size:=by
  intro W w1 v1 L hb hf;obtain⟨M,Q,e⟩:=Row.shape hf.row;have b2:=fY hb hf.below;exact⟨M,Q,e,ai (a:=⟨g,o+5+d,ν⟩) (b2.block g gl),(aJ (a:=⟨g,o+5+d,ν⟩) (b2.block g gl)).trans f5,Nat.lt_of_lt_of_le gl b2.size⟩
 have G:Hid _:=jY;have Nu:∀(W w1:dR) (v1:dT) (L:List UInt8),L=l.drop k->eh w W->Ge W w1 v1 L->Rc w (w1.setCell ⟨g,o+5+d,ν⟩ v1) g o d {c with on:=jK c.on d (l.drop k)} ov v1:=by
  intro W w1 v1 L hL hb hf;have b2:=fY hb hf.below;refine Rc.turn hd HC.out HG.out v1 (jK c.on d (l.drop k)) b2.os b2.tape b2.output b2.size (λx hx _=>b2.block x hx) ?_ (λx hx=>.inr (Nat.le_trans hb.size (hf.own x hx)));rw[iu,<-hL];exact hf.row
 have D:Hid _:=Nu;clear jY Nu;rcases HR.out.2 with⟨e,h⟩|⟨H,cap2,e,Jk,rA,Lb,hcell,BD⟩
 ·obtain⟨rfl,_,rfl⟩:=bG e;have S7:n=0:=by have:=HN.out;omega
  subst S7;obtain rfl:k=0:=dU;have Z:=MA w.drew;have wZ:l=[] :=aH HN.out;have hld:([] :List UInt8)=l.drop 0:=by rw[wZ];rfl
  have yo:gG 0 l=[] :=rfl;rw[yo]at uI⊢;have HLD:Hid _:=hld;clear e h J hld hk;by_cases hm:many<=0
  ·go_in
   go_wp2
   go_region_with(first|(go_at_call 201;refine Z.mono ?_;rintro e w1 ⟨v1,rfl,hf⟩;have V:Hid _:=D.out _ _ _ _ HLD.out (iP w) hf;obtain⟨M,Q,rfl,Y,z5,A⟩:=G.out _ _ _ _ (iP w) hf;rw[T]at Y))
   all_goals
    clear Z hf Y z5
    go_wp2
    go_ret;exact⟨rfl,_,V.out⟩
  ·have xA:(0:Int)<=many:=dU
   go_in
   go_wp2
   go_region_with(first|(go_at_call 201;refine Z.mono ?_;rintro e w1 ⟨v1,rfl,hf⟩;have V:Hid _:=D.out _ _ _ _ HLD.out (iP w) hf;obtain⟨M,Q,rfl,Y,z5,A⟩:=G.out _ _ _ _ (iP w) hf;rw[T]at Y))
   all_goals
    clear Z hf Y z5
    go_wp2
    go_ret;exact⟨rfl,_,V.out⟩
 ·obtain⟨rfl,_,rfl⟩:=bG e;have hkc:(k:Int)<=(cp:Int):=by have:=HN.out;omega
  have ano:(n:Int)<=(cp:Int):=by have:=HN.out;omega
  have Jh:(0:Int)<=(k:Int):=dU;have Cg:(k:Int)<=(n:Int):=dU;have Z:eT eU 201 #[σ (if cp=k then μ ⟨H,0,ν⟩else μ ⟨H,k,ν⟩) (n-k) (cp-k)] w.drew λe w'=>∃(v:dT),e=ρ v/\Ge w.drew w' v (l.drop k):=by
   by_cases hz:k=n
   ·have e1:n-k=0:=dU;have e2:l.drop k=[] :=aZ (by have:=HN.out;omega);rw[e1,e2];by_cases rK:cp=k
    ·rw[ag rK];exact Bc _ _ _
    ·rw[ae rK];exact Bc _ _ _
   ·rw[ae dU];refine J3 H k (n-k) (cp-k) (l.drop k) w.drew dU dU X (λj u hu=> ?_);refine hcell (k+j) u ?_;unfold iH at hu⊢;rw[bU,db]at hu;rw[bU];exact hu
  clear e rA Lb hcell BD hk;by_cases hm:many<=0
  ·obtain rfl:k=0:=dU;have yo:gG 0 l=[] :=rfl;rw[yo]at uI⊢;have h:(if cp=0 then μ (⟨H,0,ν⟩:Addr)else μ ⟨H,0,ν⟩)=μ ⟨H,0,ν⟩:=by split<;>rfl
   rw[Nat.sub_zero,Nat.sub_zero,h]at Z;clear J hkc Jh Cg h
   go_in
   go_wp2
   go_region_with(first|(go_at_call 201;refine Z.mono ?_;rintro e w1 ⟨v1,rfl,hf⟩;have V:Hid _:=D.out _ _ _ _ rfl (iP w) hf;obtain⟨M,Q,rfl,Y,z5,A⟩:=G.out _ _ _ _ (iP w) hf;rw[T]at Y))
   all_goals
    clear Z hf Y z5
    go_wp2
    go_ret;exact⟨rfl,_,V.out⟩
  ·by_cases S7:n=0
   ·subst S7;obtain rfl:k=0:=dU;have yo:gG 0 l=[] :=rfl;rw[yo]at uI⊢;have h:(if cp=0 then μ (⟨H,0,ν⟩:Addr)else μ ⟨H,0,ν⟩)=μ ⟨H,0,ν⟩:=by split<;>rfl
    rw[Nat.sub_zero,Nat.sub_zero,h]at Z;have xA:(0:Int)<=many:=dU;clear J hkc Jh Cg h
    go_in
    go_wp2
    go_region_with(first|(go_at_call 201;refine Z.mono ?_;rintro e w1 ⟨v1,rfl,hf⟩;have V:Hid _:=D.out _ _ _ _ rfl (iP w) hf;obtain⟨M,Q,rfl,Y,z5,A⟩:=G.out _ _ _ _ (iP w) hf;rw[T]at Y))
    all_goals
     clear Z hf Y z5
     go_wp2
     go_ret;exact⟨rfl,_,V.out⟩
   by_cases rK:cp=k
   ·have yv:k=n:=dU;subst yv;rw[ag rK,Nat.sub_self]at Z;subst rK;rw[Nat.sub_self]at Z;have ZA:¬(cp:Int)<=0:=dU;by_cases hmn:many<=(cp:Int)
    ·obtain rfl:many=(cp:Int):=dU;clear J
     go_in
     go_wp2
     go_region_with(first|(go_at_call 201;refine Z.mono ?_;rintro e w1 ⟨v1,rfl,hf⟩;have V:Hid _:=D.out _ _ _ _ rfl (iP w) hf;obtain⟨M,Q,rfl,Y,z5,A⟩:=G.out _ _ _ _ (iP w) hf;rw[T]at Y))
     all_goals
      clear Z hf Y z5
      go_wp2
      go_ret;have U:=V.out
     simp only[X,Nat.sub_self]at U;exact⟨rfl,_,U⟩
    ·clear J
     go_in
     go_wp2
     go_region_with(first|(go_at_call 201;refine Z.mono ?_;rintro e w1 ⟨v1,rfl,hf⟩;have V:Hid _:=D.out _ _ _ _ rfl (iP w) hf;obtain⟨M,Q,rfl,Y,z5,A⟩:=G.out _ _ _ _ (iP w) hf;rw[T]at Y))
     all_goals
      clear Z hf Y z5
      go_wp2
      go_ret;have U:=V.out
     simp only[X,Nat.sub_self]at U;exact⟨rfl,_,U⟩
   ·rw[ae rK]at Z;have ZA:¬(n:Int)<=0:=dU;by_cases hmn:many<=(n:Int)
    ·obtain rfl:many=(k:Int):=dU;clear J
     go_in
     go_wp2
     go_region_with(first|(go_at_call 201;refine Z.mono ?_;rintro e w1 ⟨v1,rfl,hf⟩;have V:Hid _:=D.out _ _ _ _ rfl (iP w) hf;obtain⟨M,Q,rfl,Y,z5,A⟩:=G.out _ _ _ _ (iP w) hf;rw[T]at Y))
     all_goals
      clear Z hf Y z5
      go_wp2
      go_ret;have U:=V.out
     simp only[X]at U;exact⟨rfl,_,U⟩
    ·obtain rfl:k=n:=dU;rw[Nat.sub_self]at Z;clear J
     go_in
     go_wp2
     go_region_with(first|(go_at_call 201;refine Z.mono ?_;rintro e w1 ⟨v1,rfl,hf⟩;have V:Hid _:=D.out _ _ _ _ rfl (iP w) hf;obtain⟨M,Q,rfl,Y,z5,A⟩:=G.out _ _ _ _ (iP w) hf;rw[T]at Y))
     all_goals
      clear Z hf Y z5
      go_wp2
      go_ret;have U:=V.out
     simp only[X,Nat.sub_self]at U;exact⟨rfl,_,U⟩
theorem ju.Bf {n:iI} (h:ju w y n)(Z:y.all n.n k):k<w.heap.size:=by
 rcases Z with e|⟨j,Y,e⟩
 ·exact h.lt (.inl e)
 ·exact h.xV Y e
theorem ju.cbW {n:iI} {cb:pT} {v':dT} (h:ju w y n)(hc:c<n.nc)(hd:d<2)(M:y.gC=μ g)(Z:Rc w w' g (c*7) d cb (y.ov c) v')(J:cb.e=(n.C c).e)(Q:∀x,x≠d->cb.on x=(n.C c).on x)(hl:(cb.on d).length<=2000):iy w w' y (n.kX c cb) n.n:=by
 have T:∀x,x<2->x≠d->∀k,(y.ov c x).ownBlock=μ k->v'.ownBlock≠μ k:=by
  intro x hx U k e e';rcases Z.own k e' with Y|Y
  ·have:=h.inj (.on c x) (.on c d) k e Y;injection this with _ X
   exact U X
  ·have:=h.tL (l:=.on c x) e;omega
 refine h.NQ hc M cb (jK (y.ov c) d v') Z.size Z.os Z.tape Z.output (λk V H X=>Z.block k V H (X d hd)) Z.cell Z.fz Z.wC (λx hx=> ?_) (λx hx=> ?_) J (λx k hx e=> ?_) (λk e=> ?_)
 ·by_cases e:x=d
  ·subst e;rw[iu];exact Z.row
  ·rw[iq _ _ e,Q x e];refine(h.ob c x hc hx).keep Z.size (λk V=>Z.block k ((h.ob c x hc hx).lt k V) (λY=> ?_) (λY=> ?_))
   ·exact h.vL (l:=.on c x) (l':=.C) V M (by intro e;cases e) Y
   ·have:=h.inj (.on c x) (.on c d) k V Y;injection this with _ X
    exact e X
 ·by_cases e:x=d
  ·subst e;exact hl
  ·rw[Q x e];exact h.ol c x hc hx
 ·by_cases ex:x=d
  ·subst ex;rw[iu]at e;exact Z.own k e
  ·rw[iq _ _ ex]at e;exact .inl e
 ·have G:d=0 \/d=1:=dU;rcases G with rfl|rfl
  ·rw[iu]at e;rw[iq _ _ dX];exact λY=>T 1 dU dX k Y e
  ·rw[iq _ _ dX]at e;rw[iu];exact T 0 dU dX k e
theorem ju.adP {n:iI} (h:ju w y n)(Z:y.gC=μ g):(y.ov c d).ownBlock≠μ g:=λe=>h.vL (l:=.on c d) (l':=.C) e Z (by intro e;cases e) rfl
theorem T7(y:Yt)(n:iI)(c d g:Nat)(s:ByteArray)(w:dR)(h:ju w y n)(hc:c<n.nc)(hd:d<2)(Z:y.gC=μ g)(hs:s.size<=1000000000):
 eT eU 161 #[π (μ ⟨g,c*7,ν⟩),ι κ (d:Int),.string s] w λe w'=>e=ρ (τ #[])/\iy w w' y (n.kX c ((n.C c).put d s.data.toList)) n.n:=by
 refine(TI g (c*7) d (n.C c) (y.ov c) s w hd (h.rc g Z c hc) (h.ob c d hc hd) (h.adP Z) (h.ol c d hc hd) hs).mono ?_;rintro e w1 ⟨rfl,v',Y⟩;refine⟨rfl,h.cbW hc hd Z Y ?_ (λx hx=> ?_) ?_⟩
 ·unfold pT.put;split<;>rfl
 ·unfold pT.put;split
  ·exact iq _ _ hx
  ·rfl
 ·unfold pT.put;split
  ·rename_i hx
   show(jK (n.C c).on d _ d).length<=2000;rw[iu,az];exact hx.2
  ·exact h.ol c d hc hd
theorem T8(y:Yt)(n:iI)(i p:Nat)(w:dR)(h:ju w y n)(hi:i<n.n)(hp:p<3):
 eT eU 29 #[π (μ ⟨(y.z i).R,0,ν⟩),ι κ (p:Int)] w λe w'=>e=ρ (τ #[.string ⟨((n.R i).P p).out.toArray⟩,η])/\iy w w' y (n.jq i ((n.R i).out p)) n.n:=by
 have Y:=(h.rn i hi).1;refine(TQ (y.z i) (n.R i) p w (h.rt i hi) dU).mono ?_;rintro e w1 ⟨rfl,Z⟩;rw[Y]at Z;exact⟨rfl,h.Aa hi Z (h.rn i hi)⟩
def iI.oA(y:iI)(q d:Nat):iI:=if d=0 then y.jQ q else if d=1 then(y.jQ q).kD q 0 else y.jQ (q+1)
theorem Bg(c:pT)(o:Nat->dT):BS c o 0=ι κ (((c.e 0).1:Int)+1)/\BS c o 1=ι κ ((c.e 0).2:Int)/\BS c o 2=ι κ (((c.e 1).1:Int)+1)/\BS c o 3=ι κ ((c.e 1).2:Int)/\BS c o 4=.bool c.iR:=⟨rfl,rfl,rfl,rfl,rfl⟩
theorem aay(y:iI)(q d x:Nat):((y.oA q d).C x).e=(y.C x).e:=by
 unfold iI.oA;split
 ·exact((jU y q).2.2.2.2 x).1
 ·split
  ·exact((mD _ q 0).2.2.2.2 x).1.trans ((jU y q).2.2.2.2 x).1
  ·exact((jU y (q+1)).2.2.2.2 x).1
theorem aaz(y:iI)(q d:Nat):(y.oA q d).n=y.n/\(y.oA q d).nc=y.nc:=by
 unfold iI.oA;split
 ·exact⟨(jU y q).1,(jU y q).2.1⟩
 ·split
  ·exact⟨(jU y q).1,(jU y q).2.1⟩
  ·exact⟨(jU y (q+1)).1,(jU y (q+1)).2.1⟩
theorem P6(y:iI)(q d:Nat)(hd:d<2):y.oA q (d+1)=(y.oA q d).kD q d:=by
 have:d=0 \/d=1:=dU;rcases this with rfl|rfl<;>rfl
theorem jT.oA {y:iI} {D k:Nat} (h:jT y D k)(Z:D<=1000000000000000)(q d:Nat)(Y:q<y.nc):jT (y.oA q d) D k:=by
 unfold iI.oA;split
 ·exact h.jQ Z q dU
 ·split
  ·exact(h.jQ Z q dU).kD Z (by rw[(jU y q).2.1];exact Y) dU
  ·exact h.jQ Z (q+1) dU
theorem MB(w:dR)(y:Yt)(n:iI)(D k q d g m:Nat)(J:jT n D k)(j:D<=1000000000000000)(hk:k<=100000)(U:q<n.nc)(hd:d<2)(hg:y.gC=μ g)(hm:n.n=m)(i p:Nat)(zD:(n.C q).e d=(i,p))(W0 Z:dR)(hW:iy w W0 y (n.oA q d) m)(hb:eh W0 Z)(E:Nat)(u v:dT)(hE:W0.heap.size<=E)(hc:Z.cell? ⟨E,0,ν⟩=μ u/\Z.cell? ⟨E,1,ν⟩=μ v):
 eT eU 157 #[π (μ ⟨y.N,0,ν⟩),.agg #[ι κ ((i:Int)+1),ι κ (p:Int)]] Z λe w1=>∃R,e=ρ (π (μ ⟨R,0,ν⟩))/\(w1.cell? ⟨E,0,ν⟩=μ u/\w1.cell? ⟨E,1,ν⟩=μ v)/\
  eT eU 29 #[π (μ ⟨R,0,ν⟩),ι κ (p:Int)] w1 λe V=>∃s:ByteArray,e=ρ (τ #[.string s,η])/\(V.cell? ⟨E,0,ν⟩=μ u/\V.cell? ⟨E,1,ν⟩=μ v)/\
   ∀X,eh V X->eT eU 161 #[π (μ ⟨g,q*7,ν⟩),ι κ (d:Int),.string s] X λe T=>e=ρ (τ #[])/\iy w T y (n.oA q (d+1)) m:=by
 subst hm;obtain⟨hi,H⟩:=J.en q d U hd;rw[zD]at hi H;obtain⟨gn,gc⟩:=aaz n q d;obtain⟨Q,R0,s1,xA,yq⟩:=hW.ex;have R1:=R0.below hb;have Y:E<Z.heap.size:=af _ _ hc.1;have M:¬Q.all n.n E:=λe=>by
  have:=R0.Bf (k:=E) (by rw[gn];exact e);omega
 rw[<-s1.N];refine(Mv Q _ i p Z R1 (by rw[gn];exact hi)).mono ?_;rintro e w1 ⟨rfl,b1⟩;refine⟨_,rfl,⟨(ai (a:=⟨E,0,ν⟩) (b1.block E Y)).trans hc.1,(ai (a:=⟨E,1,ν⟩) (b1.block E Y)).trans hc.2⟩,?_⟩;have A:E<w1.heap.size:=Nat.lt_of_lt_of_le Y b1.size;have R2:=R1.below b1;refine(T8 Q _ i p w1 R2 (by rw[gn];exact hi) H).mono ?_;rintro e V ⟨rfl,h⟩;have sM:=h.kept.block E A (by rw[gn];exact M);refine⟨_,rfl,⟨(ai (a:=⟨E,0,ν⟩) (sM.trans (b1.block E Y))).trans hc.1,(ai (a:=⟨E,1,ν⟩) (sM.trans (b1.block E Y))).trans hc.2⟩,λX b3=> ?_⟩;have X9:=h.below rfl b3;rw[gn]at X9;have hF:=(J.oA j q d U).fits j (i:=i) (by rw[gn];exact hi);have qX:((((n.oA q d).R i).P p).out).length<=6000*k:=hF.out p (by rw[((J.oA j q d U).rn i (by rw[gn];exact hi)).1];exact H);have h4:eT eU 161 #[π (μ ⟨g,q*7,ν⟩),ι κ (d:Int),.string ⟨(((n.oA q d).R i).P p).out.toArray⟩] X λe T=>e=ρ (τ #[])/\iy w1 T Q (n.oA q (d+1)) n.n:=by
  refine X9.call λy2 R3 s2=> ?_;have AH:y2.gC=μ g:=by rw[s2.gC,s1.gC];exact hg
  have hcc:q<(n.oA q d).nc:=by rw[gc];exact U
  have G:=T7 y2 _ q d g ⟨(((n.oA q d).R i).P p).out.toArray⟩ X R3 hcc hd AH (by show Array.size _<=_;simp;omega);have e1:n.oA q (d+1)=((n.oA q d).jq i (((n.oA q d).R i).out p)).kX q (((n.oA q d).C q).put d ((((n.oA q d).R i).P p).out)):=by
   rw[P6 n q d hd];unfold iI.kD;rw[aay,zD]
  rw[e1];have e2:((n.oA q d).jq i (((n.oA q d).R i).out p)).n=n.n:=gn;rw[e2]at G;have e3:(⟨(((n.oA q d).R i).P p).out.toArray⟩:ByteArray).data.toList=(((n.oA q d).R i).P p).out:=gO;rw[e3]at G;exact G
 refine h4.mono ?_;rintro e T ⟨rfl,NW⟩;exact⟨rfl,iy.qf hW.kept s1 xA yq (iy.first (fY hb b1) NW)⟩
theorem aaA(a b c d:Int)(w:dR):(gH 193 (.agg #[ι κ a,ι κ b,ι κ c,ι κ d]) (ι κ 0)).run eU w=.ok (.agg #[ι κ a,ι κ b]) w:=gL
theorem aaB(a b c d:Int)(w:dR):(gH 193 (.agg #[ι κ a,ι κ b,ι κ c,ι κ d]) (ι κ 1)).run eU w=.ok (.agg #[ι κ c,ι κ d]) w:=gL
section
variable {P:Program}
theorem oO(w:dR)(t ty e:TypeId)(i:TypeInfo)(Y:P.underlying t=μ (.slice e))(hi:P.info? e=μ i)(base ao:Option Addr)(n cap c:Nat)(Z:n<=cap):
 (fA #[t,t] ty #[σ base n cap,σ ao 0 c]).run P w=.ok (σ base n cap) w:=by
 cases base<;>cases ao<;>simp[fA,run_underlying Y,sizeOf,typeInfo,hi,Builtin.lenOf,Z,Builtin.firstCells,loadCells,loadCellsFrom,storeCells]
theorem tN {ops:Array Oper} {o:Oper} {a:Act} {K:Act->dR->Prop} {Q:Exit->Act->dR->Prop} {E:Prop}
 (G:o.guard=ν) (s x:Operand) (t:TypeId) (ho:o.op=.call {callee:=.builtin .append,args:= #[s,x],argTypes:= #[t,t] })
 (e:TypeId) (i:TypeInfo) (z:dT) (size bytes:Nat) (X:P.underlying t=μ (.slice e)) (hi:P.info? e=μ i) (hz:i.zero=μ z)
 (qW:i.size=size) (zA:i.bytes=bytes) (La:z.cells.size=size) (qX:0<size)
 (v:dT) (n:Nat) (xs:List dT) (hs:a.eval s=v) (Y:Row w size v n xs)
 (v2:dT) (m:Nat) (news:List dT) (hx:a.eval x=v2) (V:Row w size v2 m news) (h1:∀u∈news,u.oneCell'=true)
 (T:n+m<=maxLen) (uY:(n+m)*bytes<=140737488355328)
 (h:∀v' w',Row w' size v' (n+m) (xs++news)->w.grownBy w' v.ownBlock->(v'.ownBlock=v.ownBlock \/ ∃k,v'.ownBlock=μ k/\w.heap.size<=k)->K (a.put o.dst v') w'):
 if eG o (yielded ops a.tmps)=true then Oper.wp P o a w K Q else E:=by
 have hw:eG o (yielded ops a.tmps)=true:=by simp[eG,G]
 rw[ag hw];have key:∃v' w',(fA #[t,t] o.type #[v,v2]).run P w=.ok v' w'/\Row w' size v' (n+m) (xs++news)/\w.grownBy w' v.ownBlock/\(v'.ownBlock=v.ownBlock \/ ∃k,v'.ownBlock=μ k/\w.heap.size<=k):=by
  by_cases A:0<m
  ·rcases V.2 with⟨_,e2⟩|⟨g,cap,rfl,M,Z,J,hcell,_⟩
   ·omega
   ·exact rF (P:=P) w t o.type e i z size bytes X hi hz qW zA La qX v n xs Y ⟨g,0,ν⟩ m cap news V.1 A (λj u D=>by rw[add_plain];exact hcell j u D) h1 T uY
  ·have U:m=0:=dU;subst U;have j5:news=[] :=aH (by rw[V.1];simp);subst j5;have g0:w.grownBy w v.ownBlock:=⟨rfl,rfl,rfl,Nat.le_refl _,λ_ _ _=>rfl⟩
   rcases V.2 with⟨rfl,_⟩|⟨g2,cap2,rfl,_⟩
   ·rcases Y.2 with⟨rfl,rfl⟩|⟨g,cap,rfl,M,Z,J,hcell,BD⟩
    ·exact⟨_,w,oO w t o.type e i X hi ν ν 0 0 0 (Nat.le_refl _),by simpa using Y,g0,.inl rfl⟩
    ·exact⟨_,w,oO w t o.type e i X hi _ ν n cap 0 Z,by simpa using Y,g0,.inl rfl⟩
   ·rcases Y.2 with⟨rfl,rfl⟩|⟨g,cap,rfl,M,Z,J,hcell,BD⟩
    ·exact⟨_,w,oO w t o.type e i X hi ν _ 0 0 cap2 (Nat.le_refl _),by simpa using Y,g0,.inl rfl⟩
    ·exact⟨_,w,oO w t o.type e i X hi _ _ n cap cap2 Z,by simpa using Y,g0,.inl rfl⟩
 obtain⟨v',w',hr,H,h3,h4⟩:=key;unfold Oper.wp execOp;simp only[ho,resolve,invoke,builtin,Sem.run_bind,Sem.run_pure,Result.andThen_ok,List.map_toArray,List.map_cons,List.map_nil,hs,hx,hr];exact h v' w' H h3 h4
end
theorem T9(a b:List yn):qS (a++b)=qS a++qS b:=by simp[qS]
theorem J4(l:List yn):∀u∈qS l,u.oneCell'=true:=by
 intro u Z;unfold qS at Z;obtain⟨t,_,Y⟩:=aV.1 Z;exact NT _ _ _ u Y
theorem P7(w:dR)(y:Yt)(M:iI)(m j:Nat)(W:dR)(hW:iy w W y M m)(hn:M.n=m)(V:j<m):∃R iv,W.cell? ⟨y.gR,j,ν⟩=μ (π (μ ⟨R,0,ν⟩))/\(∀U,eh W U->U.cell? ⟨y.gI,j,ν⟩=μ iv/\U.cell? ⟨y.N,1,ν⟩=μ (σ (μ ⟨y.gI,0,ν⟩) m y.xT)/\y.gI<U.heap.size)/\iv.ownBlock≠μ y.gI/\iv.ownBlock≠μ y.N/\y.N≠y.gI/\
 ∀U,eh W U->eT eU 32 #[π (μ ⟨R,0,ν⟩)] U λe w'=>∃v,e=ρ v/\Row w' 3 v (M.R j).jZ.length (qS (M.R j).jZ)/\Row w' 3 iv (M.jZ j).length (qS (M.jZ j))/\w'.cell? ⟨y.gI,j,ν⟩=μ iv/\w'.frozen? ⟨y.gI,j,ν⟩=false/\w'.cell? ⟨y.N,1,ν⟩=μ (σ (μ ⟨y.gI,0,ν⟩) m y.xT)/\
  ∀x1 v',Row x1 3 v' ((M.jZ j).length+(M.R j).jZ.length) (qS (M.jZ j)++qS (M.R j).jZ)->w'.grownBy x1 iv.ownBlock->(v'.ownBlock=iv.ownBlock \/ ∃k,v'.ownBlock=μ k/\w'.heap.size<=k)->iy w (x1.setCell ⟨y.gI,j,ν⟩ v') y (M.xj j) m:=by
 subst hn;obtain⟨Z,G,s1,xA,yq⟩:=hW.ex;refine⟨(Z.z j).R,Z.iv j,?_,λU hb=> ?_,λe=> ?_,λe=> ?_,λe=> ?_,λU hb=> ?_⟩
 ·rw[<-s1.gR];exact G.ptr V
 ·have X:=G.below hb;rw[<-s1.gI,<-s1.N,<-s1.xT];exact⟨X.WG V,X.k1,X.aai⟩
 ·rw[<-s1.gI]at e;exact G.vL (l:=.ib j) (l':=.I) e rfl (by intro e;cases e) rfl
 ·rw[<-s1.N]at e;exact G.vL (l:=.ib j) (l':=.N) e rfl (by intro e;cases e) rfl
 ·rw[<-s1.gI,<-s1.N]at e;exact G.vL (l:=.N) (l':=.I) rfl rfl (by intro e;cases e) e
 have X:=G.below hb;have h3:=(X.rn j V).1;refine(PY (Z.z j) (M.R j) U (X.rt j V)).mono ?_;rintro e w1 ⟨rfl,hr,oB⟩;have hw:iw U w1 (Z.z j) {M.R j with jZ:=[] } 3:=(congrArg (λt=>iw U w1 (Z.z j) ({M.R j with jZ:=[] }:iE) t) h3).mp oB;have ji:∀k,Z.own k->w1.heap[k]? =U.heap[k]? :=λk T=>by
  have hf:=X.NN V T;exact hw.kept.block k (X.lt (.inl T)) (λe=>hf (.inl e)) (λe=>hf (.inr (.inl e))) (λe=>hf (.inr (.inr e)))
 have hN:=X.Aa V hw (X.rn j V);have Q:=ji Z.gI ⟨.I,rfl⟩;refine⟨_,rfl,hr,(X.ib j V).keep hw.kept.size (λk T=>ji k ⟨.ib j,T⟩),?_,?_,?_,λx1 v' iQ H h=> ?_⟩
 ·rw[<-s1.gI];exact(ai (a:=⟨Z.gI,j,ν⟩) Q).trans (X.WG V)
 ·rw[<-s1.gI];have:=X.ri.fz j V;rw[Nat.zero_add]at this;exact(aJ (a:=⟨Z.gI,j,ν⟩) Q).trans this
 ·rw[<-s1.N,<-s1.gI,<-s1.xT];exact(ai (a:=⟨Z.N,1,ν⟩) (ji Z.N ⟨.N,rfl⟩)).trans X.k1
 have sL:iy U (x1.setCell ⟨Z.gI,j,ν⟩ v') Z (M.xj j) M.n:=by
  refine hN.step λy2 A D=> ?_;have Ra:y2.iv j=Z.iv j:=by
   have Y:=A.WG (i:=j) V;rw[D.gI,(ai (a:=⟨Z.gI,j,ν⟩) Q).trans (X.WG V)]at Y;exact(Option.some.inj Y).symm
  have jm:(Z.iv j).ownBlock≠μ Z.gI:=λe=>X.vL (l:=.ib j) (l':=.I) e rfl (by intro e;cases e) rfl;have hvg:v'.ownBlock≠μ Z.gI:=λe=>by
   rcases h with Y|⟨k,Y,J⟩
   ·exact jm (by rw[<-Y];exact e)
   ·rw[e]at Y;have vp:=Option.some.inj Y;have h4:Z.gI<w1.heap.size:=by rw[<-D.gI];exact A.aai
    omega
  have hx:x1.heap[Z.gI]? =w1.heap[Z.gI]? :=H.block Z.gI (by rw[<-D.gI];exact A.aai) (λe=>jm e.symm);have qp:=A.box (i:=j) (w':=x1.setCell ⟨Z.gI,j,ν⟩ v') V v' (M.jZ j++(M.R j).jZ) (by simpa using H.size) H.os H.tape H.output (λk T Y J=> ?_) ?_ ?_ (λk T=> ?_)
  ·exact qp
  ·rw[D.gI]at Y;rw[Ra]at J;rw[aq _ _ _ k Y];exact H.block k T (λe=>J e.symm)
  ·rw[D.gI];have Y:=A.ri;rw[D.gI]at Y;have J:=Y.keep hx;have h3:=J.set j V v';rw[Nat.zero_add]at h3;refine h3.congr λx hx=> ?_;by_cases e:x=j
   ·subst e;rw[iu];unfold r9;simp
   ·rw[iq _ _ e];unfold r9;simp[e]
  ·rw[T9,az];exact iQ.keep gO (λk T=>aq _ _ _ k (λe=>hvg (by rw[T,e])))
  ·rcases h with Y|⟨k',Y,J⟩
   ·left;rw[Ra,<-Y];exact T
   ·right;rw[T]at Y;have:=Option.some.inj Y;omega
 rw[s1.gI]at sL;exact iy.qf hW.kept s1 xA yq (iy.first hb sL)
theorem nX {j:Nat} (h:x.cell? ⟨b,k,ν⟩=μ u)(Z:b≠g):(x.setCell ⟨g,j,ν⟩ v).cell? ⟨b,k,ν⟩=μ u:=by
 rw[aU _ _ _ _ (λe=>Z (congrArg Addr.block e).symm)];exact h
theorem rS(y:Yt)(n:iI)(D k:Nat)(w:dR)(h:ju w y n)(iF:jT n D k)(hD:D<=1000000000)(hk:k<=100000):
 eT eU 111 #[π (μ ⟨y.N,0,ν⟩)] w λe w'=>e=ρ (τ #[])/\iy w w' y n.gather n.n:=by
 have c3:=h.k3;obtain⟨a,cp,uI,J5⟩:=h.Yo;rw[uI]at c3;have cl:=h.wU;have c9:=h.c9;have n6:=h.n6;obtain⟨nc,rA⟩:=fW (n.nc);obtain⟨m,hm⟩:=fW (n.n);have H0:Hid (iy w w y (n.jQ 0) m):=by
  show iy _ _ _ _ _;rw[<-hm];exact iy.refl h
 have HK3:Hid (∀q W,iy w W y (n.jQ q) m->W.cell? ⟨y.N,3,ν⟩=μ (σ a nc cp)/\y.N<W.heap.size):=by
  intro q W hw;have h1:=hw.k3;rw[(jU n q).2.1,uI,rA]at h1;exact⟨h1,hw.lt⟩
 have HGC:Hid (∀c,c<nc->∃g,y.gC=μ g/\a=μ ⟨g,0,ν⟩):=by
  show∀c,_->_;rw[<-rA];exact J5
 have adQ:Hid (∀q W g,q<nc->y.gC=μ g->iy w W y (n.jQ q) m->W.cell? ⟨g,q*7,ν⟩=μ (ι κ ((((n.C q).e 0).1:Int)+1))/\W.cell? ⟨g,q*7+1,ν⟩=μ (ι κ (((n.C q).e 0).2:Int))/\W.cell? ⟨g,q*7+2,ν⟩=μ (ι κ ((((n.C q).e 1).1:Int)+1))/\W.cell? ⟨g,q*7+2+1,ν⟩=μ (ι κ (((n.C q).e 1).2:Int))/\g<W.heap.size):=by
  intro q W g hq hg hw;obtain⟨ov,hC⟩:=hw.NR (c:=q) (by rw[(jU n q).2.1,rA];exact hq) hg;have e1:=((jU n q).2.2.2.2 q).1;have h0:=hC.cell 0 dX;have h1:=hC.cell 1 dX;have h2:=hC.cell 2 dX;have h3:=hC.cell 3 dX;rw[(Bg _ _).1,e1]at h0;rw[(Bg _ _).2.1,e1]at h1;rw[(Bg _ _).2.2.1,e1]at h2;rw[(Bg _ _).2.2.2.1,e1]at h3;exact⟨h0,h1,h2,h3,hC.lt dX⟩
 have Hu:Hid (∀(q d g i p:Nat) (W0:dR),q<nc->d<2->y.gC=μ g->(n.C q).e d=(i,p)->iy w W0 y (n.oA q d) m->
  eT eU 157 #[π (μ ⟨y.N,0,ν⟩),.agg #[ι κ ((i:Int)+1),ι κ (p:Int)]] (W0.alloc (γ #[ι κ ((i:Int)+1),ι κ (p:Int)] 192)).drew λe w1=>∃R,e=ρ (π (μ ⟨R,0,ν⟩))/\(w1.cell? ⟨W0.heap.size,0,ν⟩=μ (ι κ ((i:Int)+1))/\w1.cell? ⟨W0.heap.size,1,ν⟩=μ (ι κ (p:Int)))/\
  eT eU 29 #[π (μ ⟨R,0,ν⟩),ι κ (p:Int)] w1 λe w2=>∃s:ByteArray,e=ρ (τ #[.string s,η])/\(w2.cell? ⟨W0.heap.size,0,ν⟩=μ (ι κ ((i:Int)+1))/\w2.cell? ⟨W0.heap.size,1,ν⟩=μ (ι κ (p:Int)))/\
   ∀w3,eh w2 w3->eT eU 161 #[π (μ ⟨g,q*7,ν⟩),ι κ (d:Int),.string s] w3 λe w4=>e=ρ (τ #[])/\iy w w4 y (n.oA q (d+1)) m):=by
  intro q d g i p W0 hq hd hg zD hw;have hb:=jt (gN W0 (γ #[ι κ ((i:Int)+1),ι κ (p:Int)] 192));have hB:jc (W0.alloc (γ #[ι κ ((i:Int)+1),ι κ (p:Int)] 192)).drew W0.heap.size #[ι κ ((i:Int)+1),ι κ (p:Int)] 192:=(jc.new W0 _ _).drew;exact MB w y n D k q d g m iF dU hk (by rw[rA];exact hq) hd hg hm i p zD W0 _ hw hb W0.heap.size _ _ (Nat.le_refl _) ⟨hB.cell 0,hB.cell 1⟩
 rw[rA]at c3 c9;rw[hm]at n6⊢;have Sj:Hid _:=iF;have HNC:Hid _:=rA;have HM:Hid _:=hm;clear h iF J5 uI rA hm
 go_in
 go_wp2
 go_loopw [15] (λx wr=>∃q:Nat,q<=nc/\x=ι κ q/\iy w wr y (n.jQ q) m) (λx _=>nc-(eV x).toNat)
 case atStart=>exact⟨0,Nat.zero_le _,rfl,H0.out⟩
 case round=>
  obtain⟨q,hq,rfl,rb⟩:=hrel;obtain⟨V,rfl⟩:∃V,V=wr:=⟨_,rfl⟩
  by_cases ka:q<nc
  ·have m8:(q:Int)<(nc:Int):=dU;have hq0:(0:Int)<=(q:Int):=dU;obtain⟨g,hg,rfl⟩:=HGC.out q ka;obtain⟨d3,dl⟩:=HK3.out q V rb;obtain⟨e0,e1,e2,e3,gl⟩:=adQ.out q V g ka hg rb;obtain⟨i0,p0,J6⟩:∃i0 p0,(n.C q).e 0=(i0,p0):=⟨_,_,rfl⟩
   obtain⟨i1,A,J7⟩:∃i1 A,(n.C q).e 1=(i1,A):=⟨_,_,rfl⟩
   rw[J6]at e0 e1;rw[J7]at e2 e3;have HD0:Hid _:=rb;have ais:Hid _:=J6;have ait:Hid _:=J7;have HG:Hid _:=hg;clear rb J6 J7 hg
   go_wp2
   go_loopw [28] (λx wr=>(x=ι κ 0/\iy w wr y (n.oA q 0) m) \/(x=ι κ 1/\iy w wr y (n.oA q 1) m) \/(x=ι κ 2/\iy w wr y (n.oA q 2) m)) (λx _=>2-(eV x).toNat)
   case atStart=>exact .inl ⟨rfl,HD0.out⟩
   case round=>
    rcases hrel with⟨rfl,Cr⟩|⟨rfl,Cr⟩|⟨rfl,Cr⟩
    ·have hix:=aaA ((i0:Int)+1) (p0:Int) ((i1:Int)+1) (A:Int);have hE:=Hu.out q 0 g i0 p0 wr ka dX HG.out ais.out Cr;obtain⟨W1,j0⟩:=fW (wr.alloc (γ #[ι κ ((i0:Int)+1),ι κ (p0:Int)] 192));obtain⟨E,tC⟩:=fW (wr.heap.size);have Q:W1.drew.cell? ⟨E,0,ν⟩=μ (ι κ ((i0:Int)+1))/\W1.drew.cell? ⟨E,1,ν⟩=μ (ι κ (p0:Int)):=by
      have hB:jc (wr.alloc (γ #[ι κ ((i0:Int)+1),ι κ (p0:Int)] 192)).drew wr.heap.size #[ι κ ((i0:Int)+1),ι κ (p0:Int)] 192:=(jc.new wr _ _).drew;rw[j0,tC]at hB;exact⟨hB.cell 0,hB.cell 1⟩
     have El:E<W1.drew.heap.size:=af _ _ Q.1;rw[j0,tC]at hE;have P8:Hid _:=j0;have TG:Hid _:=tC;clear Cr j0 tC;go_wp2_with(fail)
     try rw[P8.out]
     try rw[TG.out]
     go_region_held3(λx=>x.cell? ⟨E,0,ν⟩=μ (ι κ ((i0:Int)+1))/\x.cell? ⟨E,1,ν⟩=μ (ι κ (p0:Int)))
      (first|assumption|exact Q|exact X|exact J)
      (first
       |(go_at_call 157;refine hE.mono ?_;rintro e w1 ⟨R,rfl,X,hO⟩)
       |(go_at_call 29;refine hO.mono ?_;rintro e w2 ⟨sx,rfl,J,hP⟩))
     all_goals
      have hp:=hP _ (au _ _);clear hE hO hP Q X J El;go_wp2_with(fail);refine hp.mono ?_;rintro e w4 ⟨rfl,NW⟩;have JX:Hid _:=NW;clear hp NW
      go_wp2
      go_roundw
      case rel=>exact .inr (.inl ⟨by go_num,JX.out⟩)
      case measure=>simp[eV]
    ·have hix:=aaB ((i0:Int)+1) (p0:Int) ((i1:Int)+1) (A:Int);have hE:=Hu.out q 1 g i1 A wr ka dX HG.out ait.out Cr;obtain⟨W1,j0⟩:=fW (wr.alloc (γ #[ι κ ((i1:Int)+1),ι κ (A:Int)] 192));obtain⟨E,tC⟩:=fW (wr.heap.size);have Q:W1.drew.cell? ⟨E,0,ν⟩=μ (ι κ ((i1:Int)+1))/\W1.drew.cell? ⟨E,1,ν⟩=μ (ι κ (A:Int)):=by
      have hB:jc (wr.alloc (γ #[ι κ ((i1:Int)+1),ι κ (A:Int)] 192)).drew wr.heap.size #[ι κ ((i1:Int)+1),ι κ (A:Int)] 192:=(jc.new wr _ _).drew;rw[j0,tC]at hB;exact⟨hB.cell 0,hB.cell 1⟩
     have El:E<W1.drew.heap.size:=af _ _ Q.1;rw[j0,tC]at hE;have P8:Hid _:=j0;have TG:Hid _:=tC;clear Cr j0 tC;go_wp2_with(fail)
     try rw[P8.out]
     try rw[TG.out]
     go_region_held3(λx=>x.cell? ⟨E,0,ν⟩=μ (ι κ ((i1:Int)+1))/\x.cell? ⟨E,1,ν⟩=μ (ι κ (A:Int)))
      (first|assumption|exact Q|exact X|exact J)
      (first
       |(go_at_call 157;refine hE.mono ?_;rintro e w1 ⟨R,rfl,X,hO⟩)
       |(go_at_call 29;refine hO.mono ?_;rintro e w2 ⟨sx,rfl,J,hP⟩))
     all_goals
      have hp:=hP _ (au _ _);clear hE hO hP Q X J El;go_wp2_with(fail);refine hp.mono ?_;rintro e w4 ⟨rfl,NW⟩;have JX:Hid _:=NW;clear hp NW
      go_wp2
      go_roundw
      case rel=>exact .inr (.inr ⟨by go_num,JX.out⟩)
      case measure=>simp[eV]
    ·have HQ:Hid _:=Cr;clear Cr
     go_wp2
     go_roundw
     case rel=>exact⟨q+1,dU,by go_num,HQ.out⟩
     case measure=>simp[eV];omega
  ·have yt:¬(q:Int)<(nc:Int):=dU;obtain rfl:q=nc:=dU;have HI0:Hid _:=rb;have k0:=rb.k0;have kl:=rb.lt;rw[(jU n q).1]at k0;have k0':V.cell? ⟨y.N,0,ν⟩=μ (σ (μ ⟨y.gR,0,ν⟩) m y.sT):=by rw[<-HM.out];exact k0
   obtain⟨i0,hi,od,mK,mL⟩:=aY NS;have HE:Hid (n.gather=(n.jQ q).lW m):=by
    show _=_;unfold iI.gather;rw[HNC.out,HM.out]
   have HN2:Hid ((n.jQ q).n=m):=by show _=_;rw[(jU n q).1,HM.out]
   have HK:Hid (∀j,j<m->(((n.jQ q).lW j).jZ j).length<=2000000000/\((((n.jQ q).lW j).R j).jZ).length<=2000000000):=by
    intro j hj;have h1:=(Sj.out.jQ dU q (by rw[HNC.out];exact Nat.le_refl _)).lW j;have h2:=h1.ib j (by rw[(nE (n.jQ q) j).1,HN2.out];exact hj);have h3:=(h1.fit j (by rw[(nE (n.jQ q) j).1,HN2.out];exact hj)).1;omega
   clear rb k0 Sj HNC adQ Hu HK3 HGC
   go_wp2
   go_loopw [54] (λx wr=>∃j:Nat,j<=m/\x=ι κ j/\iy w wr y ((n.jQ q).lW j) m) (λx _=>m-(eV x).toNat)
   case atStart=>exact⟨0,Nat.zero_le _,rfl,HI0.out⟩
   case round=>
    obtain⟨j,hj,rfl,hwj⟩:=hrel;by_cases hjl:j<m
    ·have aiv:(j:Int)<(m:Int):=dU;have xQ:(0:Int)<=(j:Int):=dU;have hnM:((n.jQ q).lW j).n=m:=by rw[(nE (n.jQ q) j).1,HN2.out]
     obtain⟨l1,l2⟩:=HK.out j hjl;have HS:Hid ((n.jQ q).lW (j+1)=((n.jQ q).lW j).xj j):=rfl;obtain⟨R,iv,r0,qp,adU,adV,hNI,WQ⟩:=P7 w y _ m j wr hwj hnM hjl;have CT:Hid ((n.jQ q).lW (j+1)=((n.jQ q).lW j).xj j):=rfl;have MC:∀x,iy w x y (((n.jQ q).lW j).xj j) m=iy w x y ((n.jQ q).lW (j+1)) m:=λx=>rfl;obtain⟨M,hM⟩:=fW ((n.jQ q).lW j);rw[hM]at l1 l2 WQ MC;simp only[MC]at WQ;have hIn:=WQ wr.drew (iP wr);obtain⟨c1,Q,gIl⟩:=qp wr.drew (iP wr);have rl:=af _ _ r0;have WR:Hid _:=adU;have adW:Hid _:=adV;have HNI:Hid _:=hNI;have Nl:=af _ _ Q;generalize y.N=YN at*;generalize y.gI=T at*;generalize y.xT=cI at*;clear hwj hM qp WQ MC HS CT adU adV hNI;go_wp2_with(fail);refine cg (S:=λx=>x.cell? ⟨YN,1,ν⟩=μ (σ (μ ⟨T,0,ν⟩) m cI)) gL Q (λk8=> ?_);refine jf 0 (μ 59) rfl rfl gL gL gL (λ_ _ _ h=>h) (by rfl) (v:= ?_) ?_ iX ?_
     rotate_left
     ·intro H Z
      (try dsimp only at Z)
      go_simp
      try with_reducible rfl
     simp only[gj,gk,gp,gq];refine jf 1 (μ 60) rfl rfl gL gL gL (λ_ _ _ h=>h) (by rfl) (v:= ?_) ?_ iX ?_
     rotate_left
     ·intro H Z
      (try dsimp only at Z)
      go_simp
      try with_reducible rfl
     simp only[gj,gk,gp,gq];refine jf 2 (μ 61) rfl rfl gL gL gL (λ_ _ _ h=>h) (by rfl) (v:= ?_) ?_ iX ?_
     rotate_left
     ·intro H Z
      (try dsimp only at Z)
      go_simp
      try with_reducible rfl
     simp only[gj,gk,gp,gq];refine jf 3 (μ 62) rfl rfl gL gL gL (λ_ _ _ h=>h) (by rfl) (v:= ?_) ?_ iX ?_
     rotate_left
     ·intro H Z
      (try dsimp only at Z)
      go_simp
      try with_reducible rfl
     simp only[gj,gk,gp,gq];refine jf 4 (μ 63) rfl rfl gL gL gL (λ_ _ _ h=>h) (by rfl) (v:= ?_) ?_ iX ?_
     rotate_left
     ·intro H Z
      (try dsimp only at Z)
      go_simp
      try with_reducible rfl
     simp only[gj,gk,gp,gq];refine jf 5 (μ 64) rfl rfl gL gL gL (λ_ _ _ h=>h) (by rfl) (v:= ?_) ?_ iX ?_
     rotate_left
     ·intro H Z
      (try dsimp only at Z)
      go_simp
      try with_reducible rfl
     simp only[gj,gk,gp,gq];refine jf 6 (μ 65) rfl rfl gL gL gL (λ_ _ _ h=>h) (by rfl) (v:= ?_) ?_ iX ?_
     rotate_left
     ·intro H Z
      (try dsimp only at Z)
      go_simp
      try with_reducible rfl
     simp only[gj,gk,gp,gq];refine jf 7 (μ 66) rfl rfl gL gL gL (λ_ _ _ h=>h) (by rfl) (v:= ?_) ?_ iX ?_
     rotate_left
     ·intro H Z
      (try dsimp only at Z)
      go_simp
      try with_reducible rfl
     simp only[gj,gk,gp,gq];refine jf 8 (μ 67) rfl rfl gL gL gL (λ_ _ _ h=>h) (by rfl) (v:= ?_) ?_ iX ?_
     rotate_left
     ·intro H Z
      (try dsimp only at Z)
      go_simp
      try with_reducible rfl
     simp only[gj,gk,gp,gq];refine jf 9 (μ 68) rfl rfl gL gL gL (λ_ _ _ h=>h) (by rfl) (v:= ?_) ?_ iX ?_
     rotate_left
     ·intro H Z
      (try dsimp only at Z)
      go_simp
      try with_reducible rfl
     simp only[gj,gk,gp,gq];refine jf 10 (μ 69) rfl rfl gL gL gL (λ_ _ _ h=>h) (by rfl) (v:= ?_) ?_ iX ?_
     rotate_left
     ·intro H Z
      (try dsimp only at Z)
      go_simp
      try with_reducible rfl
     simp only[gj,gk,gp,gq];refine jf 12 (μ 71) rfl rfl gL gL gL (λ_ _ _ h=>h) (by rfl) (v:= ?_) ?_ iX ?_
     rotate_left
     ·intro H Z
      (try dsimp only at Z)
      go_simp
      try with_reducible rfl
     simp only[gj,gk,gp,gq];refine aN (rs:=[11,13]) gL gO ?_;refine aF (o:=_) rfl (λK Y=> ?_) (aF (o:=_) rfl (λK Y=> ?_) aM)
     ·go_simp
      (try go_wp2_with(fail))
      refine Y.out _ _ (by exact Q) (λk8=> ?_);clear Y K;refine aN (rs:=[13]) gL gO ?_;refine aF (o:=_) rfl (λK Y=> ?_) aM
      go_simp
      refine hIn.mono ?_;rintro e w1 ⟨v1,rfl,iQ,Ra,b1,z1,X,sL⟩
      (try go_wp2_with(fail))
      refine Y.out _ _ (by exact X) (λk8=> ?_);clear Y K;have U:=af _ _ b1;refine aN (rs:=[14]) gL gO ?_;refine aF (o:=_) rfl (λK Y=> ?_) aM;refine tN (by rfl) (.tmp 70) (.tmp 72) 53 (by rfl) 106 i0 (.agg #[ι κ 0,ι κ 0,.string ⟨#[]⟩]) 3 32 underlying53 hi od mK mL (by rfl) dX iv (M.jZ j).length (qS (M.jZ j)) (by rfl) Ra v1 (M.R j).jZ.length (qS (M.R j).jZ) (by rfl) iQ (J4 _) (by unfold maxLen;omega) dU ?_;intro v2 x1 kQ G jv;have J:x1.cell? ⟨YN,1,ν⟩=μ (σ (μ ⟨T,0,ν⟩) m cI):=(ai (a:=⟨YN,1,ν⟩) (G.block YN (af _ _ X) (λe=>adW.out e.symm))).trans X;have b2:x1.cell? ⟨T,j,ν⟩=μ iv:=(ai (a:=⟨T,j,ν⟩) (G.block T U (λe=>WR.out e.symm))).trans b1;have z2:x1.frozen? ⟨T,j,ν⟩=false:=(aJ (a:=⟨T,j,ν⟩) (G.block T U (λe=>WR.out e.symm))).trans z1;have gl2:=af _ _ b2;obtain⟨a2,cp2,rfl⟩:=Row.shape kQ;refine Y.out _ _ (by exact J) (λk8=> ?_);clear Y K;refine jf 15 (μ 74) rfl rfl gL gL gL (λ_ _ _ h=>h) (by rfl) (v:= ?_) ?_ iX ?_
      rotate_left
      ·intro H Z
       (try dsimp only at Z)
       go_simp
       try with_reducible rfl
      simp only[gj,gk];refine aN (rs:=[16]) gL gO ?_;refine aF (o:=_) rfl (λK Y=> ?_) aM
      go_simp
      (try go_wp2_with(fail))
      refine Y.out _ _ (by exact nX J HNI.out) (λk8=> ?_);clear Y K;refine cK gL ?_ _;have HF:Hid _:=sL x1 _ kQ G jv;clear hIn iQ Ra b1 z1 Q X J b2 z2 sL kQ G jv U gl2
      go_wp2
      go_roundw
      case rel=>exact⟨j+1,dU,by go_num,HF.out⟩
      case measure=>simp[eV];omega
     ·go_simp
      refine hIn.mono ?_;rintro e w1 ⟨v1,rfl,iQ,Ra,b1,z1,X,sL⟩
      (try go_wp2_with(fail))
      refine Y.out _ _ (by exact X) (λk8=> ?_);clear Y K;have U:=af _ _ b1;refine aN (rs:=[11]) gL gO ?_;refine aF (o:=_) rfl (λK Y=> ?_) aM
      go_simp
      (try go_wp2_with(fail))
      refine Y.out _ _ (by exact X) (λk8=> ?_);clear Y K;refine aN (rs:=[14]) gL gO ?_;refine aF (o:=_) rfl (λK Y=> ?_) aM;refine tN (by rfl) (.tmp 70) (.tmp 72) 53 (by rfl) 106 i0 (.agg #[ι κ 0,ι κ 0,.string ⟨#[]⟩]) 3 32 underlying53 hi od mK mL (by rfl) dX iv (M.jZ j).length (qS (M.jZ j)) (by rfl) Ra v1 (M.R j).jZ.length (qS (M.R j).jZ) (by rfl) iQ (J4 _) (by unfold maxLen;omega) dU ?_;intro v2 x1 kQ G jv;have J:x1.cell? ⟨YN,1,ν⟩=μ (σ (μ ⟨T,0,ν⟩) m cI):=(ai (a:=⟨YN,1,ν⟩) (G.block YN (af _ _ X) (λe=>adW.out e.symm))).trans X;have b2:x1.cell? ⟨T,j,ν⟩=μ iv:=(ai (a:=⟨T,j,ν⟩) (G.block T U (λe=>WR.out e.symm))).trans b1;have z2:x1.frozen? ⟨T,j,ν⟩=false:=(aJ (a:=⟨T,j,ν⟩) (G.block T U (λe=>WR.out e.symm))).trans z1;have gl2:=af _ _ b2;obtain⟨a2,cp2,rfl⟩:=Row.shape kQ;refine Y.out _ _ (by exact J) (λk8=> ?_);clear Y K;refine jf 15 (μ 74) rfl rfl gL gL gL (λ_ _ _ h=>h) (by rfl) (v:= ?_) ?_ iX ?_
      rotate_left
      ·intro H Z
       (try dsimp only at Z)
       go_simp
       try with_reducible rfl
      simp only[gj,gk];refine aN (rs:=[16]) gL gO ?_;refine aF (o:=_) rfl (λK Y=> ?_) aM
      go_simp
      (try go_wp2_with(fail))
      refine Y.out _ _ (by exact nX J HNI.out) (λk8=> ?_);clear Y K;refine cK gL ?_ _;have HF:Hid _:=sL x1 _ kQ G jv;clear hIn iQ Ra b1 z1 Q X J b2 z2 sL kQ G jv U gl2
      go_wp2
      go_roundw
      case rel=>exact⟨j+1,dU,by go_num,HF.out⟩
      case measure=>simp[eV];omega
    ·have hjm:¬(j:Int)<(m:Int):=dU;obtain rfl:j=m:=dU;have HW:Hid (iy w wr y n.gather j):=by
      show iy _ _ _ _ _;rw[HE.out];exact hwj
     clear hwj
     go_wp2
     first|go_end0|refine iC rfl rfl ?_
     exact⟨rfl,HW.out⟩
theorem ju.Ct {n:iI} {r:iE} (h:ju w y n)(hi:i<n.n)(X:iw w w' (y.z i) r (n.R i).n)(Z:r.n=(n.R i).n/\r.id=(n.R i).id):iy w w' y (n.jq i r) n.n:=by
 obtain⟨Y,V⟩:=h.rn i hi;rw[Y]at X;exact h.Aa hi X ⟨Z.1.trans Y,Z.2.trans V⟩
theorem P9(y:Yt)(n:iI)(D k i:Nat)(w:dR)(h:ju w y n)(V:iV w)(Y:jT n D k)(hD:D<=1000000000)(U:k<=90000)(hi:i<n.n):
 eT eU 25 #[π (μ ⟨(y.z i).R,0,ν⟩)] w λe w'=>e=ρ (τ #[])/\iy w w' y (n.jq i (n.R i).tick) n.n:=by
 refine(PU (y.z i) (n.R i) k w (h.rt i hi) V (Y.ok i hi) (Y.fits dU hi) U).mono ?_;rintro e w1 ⟨rfl,X⟩;have Z:=jx.iN (n.R i) (n.R i).n;exact⟨rfl,h.Ct hi X ⟨Z.n,Z.id⟩⟩
theorem Qa(y:Yt)(n:iI)(D k i:Nat)(t:Int)(tx:ByteArray)(w:dR)(h:ju w y n)(Y:jT n D k)(hD:D<=1000000000)(hk:k<=90000)(hi:i<n.n):
 eT eU 27 #[π (μ ⟨(y.z i).R,0,ν⟩),ι κ t,.string tx] w λe w'=>e=ρ (jb (j2 (n.R i) t tx.data.toList).2)/\iy w w' y (n.jq i (j2 (n.R i) t tx.data.toList).1) n.n:=by
 refine(PW (y.z i) (n.R i) k t tx w (h.rt i hi) (Y.ok i hi) (Y.fits dU hi) dU).mono ?_;rintro e w1 ⟨rfl,X⟩;have Z:=jx.j2 (n.R i) t tx.data.toList;exact⟨rfl,h.Ct hi X ⟨Z.n,Z.id⟩⟩
theorem Ak(h:k<m)(hm:m<=6):IntKind.i64.wrap ((k:Int)+1-1)=(k:Int):=by
 have:(k:Int)+1-1=k:=dU;rw[this];exact aP _ ⟨dU,dU⟩
theorem DV(y:Yt)(n:iI)(D:Nat)(i:Int)(w:dR)(h:ju w y n)(X:iV w)(Y:jT n D 0)(hD:D<=900000000):
 eT eU 56 #[π (μ ⟨y.N,0,ν⟩),ι κ i] w λe w'=>e=ρ (jb (n.tick i).2)/\iy w w' y (n.tick i).1 n.n:=by
 have hh:=qu y n i w h;rcases xX i n.n with⟨A,hi⟩|⟨k,Z,rfl⟩
 ·have V:n.tick i=(n,6):=by unfold iI.tick;rw[ag hi]
  rw[V];rw[A]at hh;have U:Hid _:=iy.refl h;clear h Y X
  go_in
  go_wp2_with(fail);refine hh.mono ?_;rintro e w1 ⟨rfl,rfl⟩;clear hh
  go_wp2
  go_ret;exact⟨rfl,U.out⟩
 ·rw[yW Z]at hh;have V:n.tick ((k:Int)+1)=((n.jq k (n.R k).tick).gather,0):=by
   unfold iI.tick;have e1:((k:Int)+1-1).toNat=k:=dU;rw[ae dU,e1]
  rw[V];have c0:=h.k0;have cl:=h.wU;have d0:=h.ptr Z;have dl:=h.PD;have n6:=h.n6;have hw:=Ak Z n6;have kB:(k:Int)<(n.n:Int):=dU;have KU:(0:Int)<=(k:Int):=dU;have J:=P9 y n D 0 k w h X Y dU dU Z;have T:=Y.iT dU Z;have G:Hid (∀W,iy w W y (n.jq k (n.R k).tick) n.n->eT eU 111 #[π (μ ⟨y.N,0,ν⟩)] W λe w'=>e=ρ (τ #[])/\iy w w' y (n.jq k (n.R k).tick).gather n.n):=by
   intro W hW;refine hW.call λy1 R1 s1=> ?_;rw[<-s1.N];exact rS y1 _ D _ W R1 T dU dU
  have j:jb 0=η:=rfl;rw[j];clear h Y X T
  go_in
  go_wp2_with(fail);refine hh.mono ?_;rintro e w1 ⟨rfl,rfl⟩;clear hh;go_wp2_with(fail);refine J.mono ?_;rintro e w1 ⟨rfl,H⟩;have Q:=G.out _ H;clear J H;go_wp2_with(fail);refine Q.mono ?_;rintro e w2 ⟨rfl,M⟩;have U:Hid _:=M;clear Q M
  go_wp2
  go_ret;exact⟨rfl,U.out⟩
theorem Ua(y:Yt)(n:iI)(D:Nat)(i t:Int)(tx:ByteArray)(w:dR)(h:ju w y n)(V:jT n D 0)(hD:D<=900000000):
 eT eU 53 #[π (μ ⟨y.N,0,ν⟩),ι κ i,ι κ t,.string tx] w λe w'=>e=ρ (jb (n.send i t tx.data.toList).2)/\iy w w' y (n.send i t tx.data.toList).1 n.n:=by
 have hh:=qu y n i w h;rcases xX i n.n with⟨hn,hi⟩|⟨k,M,rfl⟩
 ·have U:n.send i t tx.data.toList=(n,6):=by unfold iI.send;rw[ag hi]
  rw[U];rw[hn]at hh;have Q:Hid _:=iy.refl h;clear h V
  go_in
  go_wp2_with(fail);refine hh.mono ?_;rintro e w1 ⟨rfl,rfl⟩;clear hh
  go_wp2
  go_ret;exact⟨rfl,Q.out⟩
 ·rw[yW M]at hh;have e1:((k:Int)+1-1).toNat=k:=dU;have c0:=h.k0;have cl:=h.wU;have d0:=h.ptr M;have dl:=h.PD;have n6:=h.n6;have hw:=Ak M n6;have kB:(k:Int)<(n.n:Int):=dU;have KU:(0:Int)<=(k:Int):=dU;have Z:=Qa y n D 0 k t tx w h V dU dU M;have J:=V.T6 dU M t tx.data.toList;obtain⟨q,T⟩:=fW (j2 (n.R k) t tx.data.toList);have U:n.send ((k:Int)+1) t tx.data.toList=if q.2≠0 then(n,q.2)else((n.jq k q.1).gather,0):=by
   unfold iI.send;rw[ae dU,e1,T]
  rw[U];rw[T]at Z J;have A:Hid (∀W,iy w W y (n.jq k q.1) n.n->eT eU 111 #[π (μ ⟨y.N,0,ν⟩)] W λe w'=>e=ρ (τ #[])/\iy w w' y (n.jq k q.1).gather n.n):=by
   intro W hW;refine hW.call λy1 R1 s1=> ?_;rw[<-s1.N];exact rS y1 _ _ _ W R1 J dU dU
  have G:q.2≠0->q.1=n.R k:=λH=>by
   rw[<-T]at H⊢;unfold Rt.j2 at H⊢;split at H
   ·rename_i hc;rw[ag hc]
   ·exact absurd rfl H
  have uJ:n.jq k (n.R k)=n:=by
   unfold iI.jq;rw[vG]
  by_cases Y:q.2=0
  ·rw[ae (by simp[Y])];rw[Y]at Z;have e0:jb 0=η:=rfl;rw[e0]at Z⊢;clear h V J G U T Y
   go_in
   go_wp2_with(fail);refine hh.mono ?_;rintro e w1 ⟨rfl,rfl⟩;clear hh;go_wp2_with(fail);refine Z.mono ?_;rintro e w1 ⟨rfl,X⟩;have j:=A.out _ X;clear Z X;go_wp2_with(fail);refine j.mono ?_;rintro e w2 ⟨rfl,uV⟩;have Q:Hid _:=uV;clear j uV
   go_wp2
   go_ret;exact⟨rfl,Q.out⟩
  ·rw[ag Y];rw[G Y,uJ]at Z;have ee:jb q.2=.iface 128 (ι κ (q.2:Int)):=by simp only[jb];rw[ae Y]
   rw[ee]at Z⊢;clear h V J G U T A Y
   go_in
   go_wp2_with(fail);refine hh.mono ?_;rintro e w1 ⟨rfl,rfl⟩;clear hh;go_wp2_with(fail);refine Z.mono ?_;rintro e w1 ⟨rfl,X⟩;have Q:Hid _:=X;clear Z X
   go_wp2
   go_ret;exact⟨rfl,Q.out⟩
theorem iy.Ys {W:dR} {y1:Yt} {n:iI} {R:Nat} (T:ju W y1 n)(s1:y.same y1)(hi:i<n.n)(hc:W.cell? ⟨y.gR,i,ν⟩=μ (π (μ ⟨R,0,ν⟩))):(y1.z i).R=R:=by
 have Z:=T.ptr hi;rw[s1.gR,hc]at Z;have Y:=Option.some.inj Z;injection Y with U
 injection U with V
 injection V with X
 exact X.symm
def za(W3:dR)(y:Yt)(n n1:iI)(i R:Nat)(b:Bool)(W:dR):Prop:=iy W3 W y (if b=true then n1 else n) n.n/\W.cell? ⟨y.gR,i,ν⟩=μ (π (μ ⟨R,0,ν⟩))
theorem za.below {W3:dR} {y:Yt} {n n1:iI} {i R:Nat} {b:Bool} {W W':dR} (h:za W3 y n n1 i R b W)(Z:n1.n=n.n)(hb:eh W W'):za W3 y n n1 i R b W':=by
 refine⟨h.1.below (by cases b<;>simp[Z]) hb,?_⟩;exact(ai (a:=⟨y.gR,i,ν⟩) (hb.block y.gR (af _ _ h.2))).trans h.2
theorem Qb(V:dR)(y:Yt)(n n1:iI)(i p R:Nat)(b:Bool)(W:dR)(U:n1.n=n.n)(hi:i<n.n)(Z:za V y n n1 i R b W):
 eT eU 157 #[π (μ ⟨y.N,0,ν⟩),.agg #[ι κ ((i:Int)+1),ι κ (p:Int)]] W λe w'=>e=ρ (π (μ ⟨R,0,ν⟩))/\za V y n n1 i R b w':=by
 obtain⟨T,Y,s1,xA,yq⟩:=Z.1.ex;have X:(if b=true then n1 else n).n=n.n:=by cases b<;>simp[U]
 have Q:=iy.Ys Y s1 (by rw[X];exact hi) Z.2;rw[<-s1.N];refine(Mv T _ i p W Y (by rw[X];exact hi)).mono ?_;rintro e w1 ⟨rfl,b1⟩;exact⟨by rw[Q],Z.below U b1⟩
theorem J8(U:dR)(y:Yt)(n:iI)(D c d g i R:Nat)(many:Int)(W:dR)(A:jT n D 0)(hc:c<n.nc)(hd:d<2)(G:y.gC=μ g)(n1:iI)(J:n.kX c {n.C c with on:=jK (n.C c).on d (((n.C c).on d).drop (min many.toNat ((n.C c).on d).length))}=n1)(h:za U y n n1 i R false W):
 eT eU 158 #[π (μ ⟨g,c*7,ν⟩),ι κ (d:Int),ι κ many] W λe w'=>e=ρ (.string ⟨(((n.C c).on d).take (min many.toNat ((n.C c).on d).length)).toArray⟩)/\za U y n n1 i R true w':=by
 obtain⟨Y,T⟩:=h;have Y:iy U W y n n.n:=Y;obtain⟨X,Z,s1,j,H⟩:=Y.ex;have V:X.gC=μ g:=by rw[s1.gC];exact G
 refine(P5 g (c*7) d (n.C c) (X.ov c) many W hd (Z.rc g V c hc) (Z.ob c d hc hd) (Z.adP V) (Z.ol c d hc hd)).mono ?_;rintro e w1 ⟨rfl,v',Q⟩;have M:=Z.cbW hc hd V Q rfl (λx hx=>iq _ _ hx) (by
  show(jK (n.C c).on d _ d).length<=2000;rw[iu,dw];have:=A.ol c d hc hd;omega)
 rw[J]at M;refine⟨rfl,iy.qf Y.kept s1 j H M,?_⟩;rw[<-s1.gR]at T⊢;refine(ai (a:=⟨X.gR,i,ν⟩) (Q.block X.gR Z.PD (λe=> ?_) (λe=> ?_))).trans T
 ·exact Z.vL (l:=.R) (l':=.C) rfl V (by intro e;cases e) e
 ·exact Z.vL (l:=.on c d) (l':=.R) e rfl (by intro e;cases e) rfl
theorem J9(U:dR)(y:Yt)(n:iI)(D c d i p R q:Nat)(W:dR)(X:jT n D 0)(hD:D<=900000000)(h3:ju U y n)(hT:iV U)(hc:c<n.nc)(hd:d<2)(G:(n.C c).e (1-d)=(i,p))(n1:iI)(M:n.kX c {n.C c with on:=jK (n.C c).on d (((n.C c).on d).drop q)}=n1)(hW:za U y n n1 i R true W):
 eT eU 23 #[π (μ ⟨R,0,ν⟩),ι κ (p:Int),.string ⟨(((n.C c).on d).take q).toArray⟩] W λe w'=>e=ρ η/\iy U w' y (n.jg c d q) n.n:=by
 obtain⟨T,h2⟩:=hW;have T:iy U W y n1 n.n:=T;have hi:=(X.en c (1-d) hc dU)
 rw[G]at hi;have Q:n1.n=n.n:=by rw[<-M];rfl
 have Y:n1.R=n.R:=by rw[<-M];rfl
 have J:=T.tab h3 rfl hT;obtain⟨y1,H,s1,xA,yq⟩:=T.ex;have hR:=iy.Ys H s1 (by rw[Q];exact hi.1) h2;rw[<-hR];have hl:=X.ol c d hc hd;have qX:(⟨(((n.C c).on d).take q).toArray⟩:ByteArray).size<=2000:=by
  show Array.size _<=_;simp;omega
 have Z:=H.rt i (by rw[Q];exact hi.1);have VD:=X.fits dU (i:=i) hi.1;rw[Y]at Z;refine(TN _ (y1.z i) (n.R i) p 0 W Z J (X.ok i hi.1) VD dU (by rw[(X.rn i hi.1).1];exact hi.2)).mono ?_;rintro e w1 ⟨rfl,h⟩;have e1:(⟨(((n.C c).on d).take q).toArray⟩:ByteArray).data.toList=((n.C c).on d).take q:=gO;rw[e1]at h;have j:=jx.recv (n.R i) p (((n.C c).on d).take q);have uG:i<n1.n:=by rw[Q];exact hi.1
 have V:iy W w1 y1 (n1.jq i ((n.R i).recv p (((n.C c).on d).take q))) n1.n:=by
  have A:(n.R i)=n1.R i:=by rw[Y]
  refine H.Ct uG ?_ ?_
  ·rw[<-A];exact h
  ·rw[<-A];exact⟨j.n,j.id⟩
 rw[Q]at V;refine⟨rfl,iy.qf T.kept s1 xA yq ?_⟩;have e3:n.jg c d q=n1.jq i ((n.R i).recv p (((n.C c).on d).take q)):=by
  unfold iI.jg;rw[G,M]
 rw[e3];exact V
theorem Bh {p q r:Addr} {o:Obj} (h:w.cell? p=μ u/\w.cell? q=μ v/\w.cell? r=μ t):(w.alloc o).cell? p=μ u/\(w.alloc o).cell? q=μ v/\(w.alloc o).cell? r=μ t:=⟨lV h.1,lV h.2.1,lV h.2.2⟩
theorem MD {l:Nat} {a1 a2:dT} (h:x.cell? ⟨b,k,ν⟩=μ u/\x.cell? ⟨c,l,ν⟩=μ v/\x.cell? ⟨d,m,ν⟩=μ t)(hb:b≠g)(hc:c≠g)(hd:d≠g):
 ((x.setCell ⟨g,0,ν⟩ a1).setCell ⟨g,1,ν⟩ a2).cell? ⟨b,k,ν⟩=μ u/\((x.setCell ⟨g,0,ν⟩ a1).setCell ⟨g,1,ν⟩ a2).cell? ⟨c,l,ν⟩=μ v/\((x.setCell ⟨g,0,ν⟩ a1).setCell ⟨g,1,ν⟩ a2).cell? ⟨d,m,ν⟩=μ t:=
 ⟨nX (nX h.1 hb) hb,nX (nX h.2.1 hc) hc,nX (nX h.2.2 hd) hd⟩
theorem WS(c:pT)(o:Nat->dT)(x:Nat)(hx:x<2):BS c o (x*2)=ι κ (((c.e x).1:Int)+1)/\BS c o (x*2+1)=ι κ ((c.e x).2:Int):=by
 have:x=0 \/x=1:=dU;rcases this with rfl|rfl<;>exact⟨rfl,rfl⟩
theorem Bi(y:Yt)(n:iI)(D:Nat)(i d many:Int)(w:dR)(h:ju w y n)(hT:iV w)(iF:jT n D 0)(hD:D<=900000000):
 eT eU 101 #[π (μ ⟨y.N,0,ν⟩),ι κ i,ι κ d,ι κ many] w λe w'=>e=ρ (jb (n.deliver i d many).2)/\iy w w' y (n.deliver i d many).1 n.n:=by
 have hh:=DI y n i d w h;rcases Mu i d n.nc with⟨hn,hi⟩|⟨c,k,hc,hk,rfl,rfl⟩
 ·have hE:n.deliver i d many=(n,6):=by unfold iI.deliver;rw[ag hi]
  rw[hE];rw[hn]at hh;have HW:Hid _:=iy.refl h;clear h iF hT
  go_in
  go_wp2_with(fail);refine hh.mono ?_;rintro e w1 ⟨rfl,rfl⟩;clear hh
  go_wp2
  go_ret;exact⟨rfl,HW.out⟩
 ·rw[JV hc hk]at hh;obtain⟨q,hq⟩:=fW (min many.toNat ((n.C c).on k).length);have hE:n.deliver (c:Int) (k:Int) many=((n.jg c k q).gather,0):=by
   unfold iI.deliver;rw[ae dU,Int.toNat_natCast,Int.toNat_natCast,hq]
  rw[hE];have e0:jb 0=η:=rfl;rw[e0];obtain⟨a,cp,uI,J5⟩:=h.Yo;obtain⟨g,hg,rfl⟩:=J5 c hc;have kK:=iF.jg (D:=D) (k:=0) (c:=c) (d:=k) (q:=q) dU hc hk;have hG:Hid (∀W,iy w W y (n.jg c k q) n.n->eT eU 111 #[π (μ ⟨y.N,0,ν⟩)] W λe w'=>e=ρ (τ #[])/\iy w w' y (n.jg c k q).gather n.n):=by
   intro W V;refine V.call λy1 R1 s1=> ?_;rw[<-s1.N];exact rS y1 _ _ _ W R1 kK dU dU
  obtain⟨x,hx⟩:=fW (1-k);have BZ:x<2:=dU;have H:=λW=>PE k hk W;rw[hx]at H;obtain⟨j,p,Q⟩:∃j p,(n.C c).e x=(j,p):=⟨_,_,rfl⟩
  have HF:Hid (∀W,eh w W->W.cell? ⟨y.N,3,ν⟩=μ (σ (μ ⟨g,0,ν⟩) n.nc cp)/\W.cell? ⟨g,c*7+x*2,ν⟩=μ (ι κ ((j:Int)+1))/\W.cell? ⟨g,c*7+x*2+1,ν⟩=μ (ι κ (p:Int))):=by
   intro W hb;have R1:=h.below hb;have h3:=R1.k3;rw[uI]at h3;have h4:=(R1.rc g hg c hc).cell (x*2) dU;have h5:=(R1.rc g hg c hc).cell (x*2+1) dU;obtain⟨g1,g2⟩:=WS (n.C c) (y.ov c) x BZ;rw[g1,Q]at h4;rw[g2,Q]at h5;exact⟨h3,h4,h5⟩
  have HH:Hid _:=h;have HT:Hid _:=hT;have Sj:Hid _:=iF;have HG:Hid _:=hg;have HJP:Hid _:=Q;have HX:Hid _:=hx;have HQ:Hid _:=hq;have c9:=h.c9;have jN:(c:Int)<(n.nc:Int):=dU;have qD:(0:Int)<=(c:Int):=dU;have uQ:(x:Int)<2:=dU;have hx0:(0:Int)<=(x:Int):=dU;obtain⟨nc,rA⟩:=fW (n.nc);rw[rA]at HF jN c9;obtain⟨J,hYN⟩:=fW (y.N);rw[hYN]at HF hh⊢;have M:Hid _:=hYN;have HC:Hid _:=hc;clear h iF hT uI J5 kK hE Q rA hq hYN hc hg;have U:=HF.out w.drew (iP w);have gl:g<w.drew.heap.size:=af _ _ U.2.1;have Nl:J<w.drew.heap.size:=af _ _ U.1;have gne:g≠w.heap.size:=by have:g<w.heap.size:=gl;omega
  have Nne:J≠w.heap.size:=by have:J<w.heap.size:=Nl;omega
  go_in
  go_wp2_with(fail);refine hh.mono ?_;rintro e w1 ⟨rfl,rfl⟩;clear hh
  go_wp2
  go_cut [9] (λv Z=>∃Y:Nat,v=π (μ ⟨Y,0,ν⟩)/\Z.cell? ⟨Y,0,ν⟩=μ (ι κ ((j:Int)+1))/\Z.cell? ⟨Y,1,ν⟩=μ (ι κ (p:Int))/\eh w Z/\w.heap.size<=Y)
  case first=>
   go_region_held3(λx'=>x'.cell? ⟨J,3,ν⟩=μ (σ (μ ⟨g,0,ν⟩) nc cp)/\x'.cell? ⟨g,c*7+x*2,ν⟩=μ (ι κ ((j:Int)+1))/\x'.cell? ⟨g,c*7+x*2+1,ν⟩=μ (ι κ (p:Int)))
    (first|assumption|exact U|exact Bh U|exact MD (Bh U) Nne gne gne)
    (first|(go_at_call 156;refine(H _).mono ?_;rintro e w1 ⟨rfl,rfl⟩))
   all_goals
    go_wp2_with(fail)
    go_meet
    have hB:jc (w.alloc (γ #[ι κ ((j:Int)+1),ι κ (p:Int)] 192)).drew w.heap.size #[ι κ ((j:Int)+1),ι κ (p:Int)] 192:=(jc.new w _ _).drew;exact⟨_,rfl,hB.cell 0,hB.cell 1,jt (gN _ _),Nat.le_refl _⟩
  case rest=>
   obtain⟨Y,rfl,y0,y1,qO,hY⟩:=hcut
   rename dR=>Z
   have R3:=HH.out.below qO;have hT3:iV Z:=iV.below (w:=w) HT.out qO;have Yl:=af _ _ y0;have hYn:¬y.all n.n Y:=λe=>by
    have:=HH.out.Bf e;omega
   obtain⟨n1,l9⟩:=fW (n.kX c {n.C c with on:=jK (n.C c).on k (((n.C c).on k).drop q)});have BO:n1.n=n.n:=by rw[<-l9];rfl
   have adX:n1.nc=n.nc:=by rw[<-l9];rfl
   have KO:j<n.n:=by have:=(Sj.out.en c x HC.out BZ).1;rw[HJP.out]at this;exact this
   have adY:(n.C c).e (1-k)=(j,p):=by rw[HX.out];exact HJP.out
   have hF3:=HF.out;have FW:∀(W:dR) (n':iI),n'.nc=n.nc->iy Z W y n' n.n->W.cell? ⟨Y,0,ν⟩=μ (ι κ ((j:Int)+1))/\W.cell? ⟨Y,1,ν⟩=μ (ι κ (p:Int))/\W.cell? ⟨J,3,ν⟩=μ (σ (μ ⟨g,0,ν⟩) nc cp):=by
    intro W n' Z6 V;have uk:=V.kept.block Y Yl hYn;refine⟨(ai (a:=⟨Y,0,ν⟩) uk).trans y0,(ai (a:=⟨Y,1,ν⟩) uk).trans y1,?_⟩;have h3:=(hF3 Z qO).1;have k3:=R3.k3;rw[M.out,h3]at k3;have k4:=V.k3;rw[Z6,<-Option.some.inj k3,M.out]at k4;exact k4
   have A:∀(b:Bool) (W:dR),za Z y n n1 j (y.z j).R b W->W.cell? ⟨Y,0,ν⟩=μ (ι κ ((j:Int)+1))/\W.cell? ⟨Y,1,ν⟩=μ (ι κ (p:Int))/\W.cell? ⟨J,3,ν⟩=μ (σ (μ ⟨g,0,ν⟩) nc cp):=by
    intro b W V;refine FW W _ ?_ V.1;cases b
    ·rfl
    ·exact adX
   have hat:=λ(b:Bool) (W:dR) (V:za Z y n n1 j (y.z j).R b W)=>Qb Z y n n1 j p (y.z j).R b W BO KO V;have yo:=λ(W:dR) (V:za Z y n n1 j (y.z j).R false W)=>J8 Z y n D c k g j (y.z j).R many W Sj.out HC.out hk HG.out n1 (by rw[HQ.out];exact l9) V;have X:∀(W:dR),za Z y n n1 j (y.z j).R true W->eT eU 23 #[π (μ ⟨(y.z j).R,0,ν⟩),ι κ (p:Int),.string ⟨(((n.C c).on k).take q).toArray⟩] W λe w'=>e=ρ η/\iy Z w' y (n.jg c k q) n.n/\(w'.cell? ⟨Y,0,ν⟩=μ (ι κ ((j:Int)+1))/\w'.cell? ⟨Y,1,ν⟩=μ (ι κ (p:Int))/\w'.cell? ⟨J,3,ν⟩=μ (σ (μ ⟨g,0,ν⟩) nc cp)):=by
    intro W V;refine(J9 Z y n D c k j p (y.z j).R q W Sj.out hD R3 hT3 HC.out hk adY n1 l9 V).mono ?_;rintro e w' ⟨rfl,hw⟩;exact⟨rfl,hw,FW w' (n.jg c k q) rfl hw⟩
   rw[HQ.out]at yo;have t0:za Z y n n1 j (y.z j).R false Z.drew:=⟨iy.still R3 (iP Z),(ai (a:=⟨y.gR,j,ν⟩) rfl).trans (R3.ptr KO)⟩
   have U:=A _ _ t0;have KX:Hid _:=qO;generalize (y.z j).R=RR at hat yo X t0 A;generalize (⟨(((n.C c).on k).take q).toArray⟩:ByteArray)=sx at yo X;obtain⟨T,Yu⟩:=fW (za Z y n n1 j RR);obtain⟨T2,adZ⟩:∃T2:dR->Prop,(λw'=>iy Z w' y (n.jg c k q) n.n)=T2:=⟨_,rfl⟩
   have G:∀x,iy Z x y (n.jg c k q) n.n=T2 x:=λx=>bY adZ x;have HT2:Hid _:=G;simp only[G]at X;rw[Yu]at hat yo X t0 A;rw[M.out]at hat;have Yl2:Y<Z.drew.heap.size:=Yl;have cl2:=af _ _ U.2.2;clear FW l9 BO adX hF3 R3 hT3 hYn Yu adZ G adY y0 y1 qO U H;have U:=A _ _ t0
   go_wp2
   go_region_held3(λx'=>x'.cell? ⟨Y,0,ν⟩=μ (ι κ ((j:Int)+1))/\x'.cell? ⟨Y,1,ν⟩=μ (ι κ (p:Int))/\x'.cell? ⟨J,3,ν⟩=μ (σ (μ ⟨g,0,ν⟩) nc cp))
    (first|assumption|exact U|exact F1|exact F2|exact F3)
    (first
     |(go_at_call 157;refine(hat _ _ iX).mono ?_;rintro e w1 ⟨rfl,t1⟩;have F1:=A _ _ t1)
     |(go_at_call 158;refine(yo _ iX).mono ?_;rintro e w2 ⟨rfl,t2⟩;have F2:=A _ _ t2)
     |(go_at_call 23;refine(X _ iX).mono ?_;rintro e w3 ⟨rfl,t3,F3⟩))
   all_goals
    have wP:=t3;rw[<-HT2.out]at wP;have ke:=hG.out _ (iy.first KX.out wP);rw[M.out]at ke;clear wP hat yo X t0 t1 t2 t3 A U F1 F2 F3;go_wp2_with(fail);refine ke.mono ?_;rintro e w4 ⟨rfl,NW⟩;have HW:Hid _:=NW;clear ke NW
    go_wp2
    go_ret;exact⟨rfl,HW.out⟩
