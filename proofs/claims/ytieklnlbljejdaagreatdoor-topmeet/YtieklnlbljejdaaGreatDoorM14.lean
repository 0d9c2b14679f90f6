import Derived.Test.YtieklnlbljejdaaGreatDoorM13
open Go.Value renaming int → ι, slice → σ, pointer → π, tuple → τ, nilIface → η
open Go.IntKind renaming i64 → κ
open Go.Ending renaming returned → ρ
open Go.Obj renaming cells → γ
open Option renaming none → ν, some → μ
open Go renaming World → dY, Value → dZ, Calls → eW
open Go.Proofs.Tryz renaming prog → eX
open List renaming take → gQ, setIfInBounds_toArray → gG, set_cons_zero → gH, set_cons_succ → gJ
open Go.Instr renaming index → gS
open Go.Builtin renaming append_ → fH
open Go.Region renaming wanted → eP
open Go.RowKit renaming intOf → eY
open Go.Act renaming put → gF
set_option maxRecDepth 100000
set_option maxHeartbeats 8000000
open Go.Proofs.Tryz
namespace Go.Proofs.YtieklnlbljejdaaGreatDoor
open Go.RowKit St
namespace Rt
variable {b c d g i k m:Nat} {t u v:Value} {w w' x:World} {y:Yt}
theorem Ln(a:Addr)(n cap:Nat)(w:dY):(binOp .eql 140 (σ (μ a) n cap) (σ ν 0 0)).run eX w=.ok (.bool false) w:=gq
theorem YS(w:dY):(binOp .eql 140 (σ ν 0 0) (σ ν 0 0)).run eX w=.ok (.bool true) w:=gq
structure Hy(w w':dY)(v:dZ)(l:List UInt8):Prop where
 row:Row w' 1 v l.length (iO l)
 own:∀k,v.ownBlock=μ k->w.heap.size<=k
 below:eE w w'
theorem Cb(a:Addr)(cap:Nat)(w:dY):
 eW eX 201 #[σ (μ a) 0 cap] w λe w'=>∃(v:dZ),e=ρ v/\Hy w w' v [] :=by
 have hq:=Ln
 go_in
 go_wp2
 go_ret;exact⟨_,rfl,⟨Row.made w 1 _ #[] (0,0) 0 0 [] rfl rfl (Nat.le_refl _) eA (.inl rfl) gY,λj Z=>kF (Nat.le_refl _) Z,gW _ _⟩⟩
theorem N4(w:dY):
 eW eX 201 #[σ ν 0 0] w λe w'=>∃(v:dZ),e=ρ v/\Hy w w' v [] :=by
 have hq:=YS
 go_in
 go_wp2
 go_ret;exact⟨_,rfl,⟨Row.nil w 1,λj Z=>mY Z,av _ _⟩⟩
theorem RK(l:List UInt8):∀u∈iO l,u.oneCell'=true:=by
 intro u Z;unfold iO at Z;obtain⟨b,_,rfl⟩:=bJ.1 Z;rfl
theorem Lp(b off n cap:Nat)(l:List UInt8)(w:dY)(hn:n<=1000000)(G:0<n)(hl:l.length=n)(hc:∀j u,(iO l)[j]? =μ u->w.cell? ⟨b,off+j,ν⟩=μ u):
 eW eX 201 #[σ (μ ⟨b,off,ν⟩) n cap] w λe w'=>∃(v:dZ),e=ρ v/\Hy w w' v l:=by
 obtain⟨i0,hi,E,H,h⟩:=aY U4;have hq:=Ln;have X:eE w (w.alloc (γ #[] 5)):=gW _ _;have D:Row (w.alloc (γ #[] 5)) 1 (σ (μ ⟨w.heap.size,0,ν⟩) 0 0) 0 [] :=Row.made w 1 _ #[] (0,0) 0 0 [] rfl rfl (Nat.le_refl _) eA (.inl rfl) gY;have S:∀j u,(iO l)[j]? =μ u->(w.alloc (γ #[] 5)).cell? ((⟨b,off,ν⟩:Addr).add j)=μ u:=λj u M=>by
  rw[m9];have T:=hc j u M;exact(aj (a:=⟨b,off+j,ν⟩) (X.block b (ag _ _ T))).trans T
 have Y:(iO l).length=n*1:=by rw[qQ,hl,Nat.mul_one]
 go_in
 go_wp2_with(at_builtin;go_must(refine iG _ rfl (.tmp 5) (.tmp 6) 140 rfl 5 i0 (.int .u8 0) 1 1 underlying140 hi E H h rfl eA (σ (μ ⟨w.heap.size,0,ν⟩) 0 0) 0 [] rfl D _ n cap (iO l) rfl Y G S (RK l) (by unfold maxLen;omega) eh ?_));intro g1 CC w1 Q V U;have A:=lV X V (λj Z=>kF (Nat.le_refl _) Z);have J:=nU (B:=w.heap.size) U eh (λj Z=>kF (Nat.le_refl _) Z);clear V U
 go_wp2
 go_ret;refine⟨_,rfl,⟨?_,λj Z=>kF J Z,A⟩⟩;rw[hl];exact Q
theorem Row.front {a:Option Addr} {cp:Nat} {l:List UInt8} (h:Row w 1 (σ a l.length cp) l.length (iO l))(k:Nat)(hk:k<=l.length):
 (convert 140 9 (σ a k cp)).run eX w=.ok (.string ⟨(l.take k).toArray⟩) w:=by
 have X:(l.take k).length=k:=by rw[List.length_take];omega
 have Y:Row w 1 (σ a k cp) k (iO (l.take k)):=by
  refine⟨by rw[qQ,X,Nat.mul_one],?_⟩;rcases h.2 with⟨e,e0⟩|⟨g,cap,e,S,Y,T,U,Q⟩
  ·obtain⟨rfl,_,rfl⟩:=bQ e;exact .inl ⟨by rw[show k=0 by omega],eh⟩
  ·obtain⟨rfl,_,rfl⟩:=bQ e;refine .inr ⟨g,cp,rfl,S,eh,T,λj u Z=>U j u ?_,Q⟩;have V:j<(iO (l.take k)).length:=(aL.1 Z).1;rw[qQ,X]at V;unfold iO at Z⊢;rw[cF,List.getElem?_take]at Z;rw[ai V]at Z;rw[cF];exact Z
 exact Row.back Y 140 9 5 underlying140 underlying5 underlying9
theorem RL(g o d:Nat)(c:qA)(ov:Nat->dZ)(many:Int)(w:dY)(hd:d<2)(hC:qp w g o 7 (CU c ov))(hR:Row w 1 (ov d) (c.on d).length (iO (c.on d)))(hg:(ov d).ownBlock≠μ g)(hl:(c.on d).length<=2000):
 eW eX 158 #[π (μ ⟨g,o,ν⟩),ι κ (d:Int),ι κ many] w λe w'=>e=ρ (.string ⟨((c.on d).take (min many.toNat (c.on d).length)).toArray⟩)/\∃v',Ti w w' g o d {c with on:=jU c.on d ((c.on d).drop (min many.toNat (c.on d).length))} ov v':=by
 have S:w.cell? ⟨g,o+5+d,ν⟩=μ (ov d):=by rw[Nat.add_assoc,hC.cell (5+d) eh,Vo c ov d hd]
 have f5:w.frozen? ⟨g,o+5+d,ν⟩=false:=by rw[Nat.add_assoc];exact hC.fz (5+d) eh
 have gl:=hC.lt eA;have kf:(d:Int)<2:=eh;have hd0:(0:Int)<=(d:Int):=eh;have HC:Hid _:=hC;have HG:Hid _:=hg;obtain⟨k,hk⟩:=gg (min many.toNat (c.on d).length);obtain⟨a,cp,hv⟩:=Row.shape hR;have WZ:k<=(c.on d).length:=eh;have H:max (0:Int) (min many ((c.on d).length:Nat))=(k:Int):=eh;have KP:=hR;rw[hv]at KP S;have vS:=Row.front KP k WZ;have U:((c.on d).drop k).length=(c.on d).length-k:=dH;rw[hk];have HV:Hid _:=hv;have HR:Hid _:=KP;obtain⟨l,E⟩:=gg (c.on d);rw[E]at H vS WZ hl U S HR⊢;have HL:Hid _:=E;obtain⟨n,hn⟩:=gg (l.length);have HN:Hid _:=hn;rw[hn]at H WZ hl U S;clear hC hR hg hv E KP hn;have ki:∀(W w1:dY) (v1:dZ) (L:List UInt8),eE w W->Hy W w1 v1 L->∃T M,v1=σ T L.length M/\w1.cell? ⟨g,o+5+d,ν⟩=w.cell? ⟨g,o+5+d,ν⟩/\w1.frozen? ⟨g,o+5+d,ν⟩=false/\g<w1.heap.size:=by
  intro W w1 v1 L hb hf;obtain⟨T,M,e⟩:=Row.shape hf.row;have b2:=gk hb hf.below;exact⟨T,M,e,aj (a:=⟨g,o+5+d,ν⟩) (b2.block g gl),(aM (a:=⟨g,o+5+d,ν⟩) (b2.block g gl)).trans f5,Nat.lt_of_lt_of_le gl b2.size⟩
 have G:Hid _:=ki;have O0:∀(W w1:dY) (v1:dZ) (L:List UInt8),L=l.drop k->eE w W->Hy W w1 v1 L->Ti w (w1.setCell ⟨g,o+5+d,ν⟩ v1) g o d {c with on:=jU c.on d (l.drop k)} ov v1:=by
  intro W w1 v1 L hL hb hf;have b2:=gk hb hf.below;refine Ti.turn hd HC.out HG.out v1 (jU c.on d (l.drop k)) b2.os b2.tape b2.output b2.size (λx hx _=>b2.block x hx) ?_ (λx hx=>.inr (Nat.le_trans hb.size (hf.own x hx)));rw[iE,<-hL];exact hf.row
 have X:Hid _:=O0;clear ki O0;rcases HR.out.2 with⟨e,D⟩|⟨J,cap2,e,OT,tX,FY,hcell,CA⟩
 ·obtain⟨rfl,_,rfl⟩:=bQ e;have UQ:n=0:=by have:=HN.out;omega
  subst UQ;obtain rfl:k=0:=eh;have Z:=N4 w.drew;have vN:l=[] :=aI HN.out;have hld:([] :List UInt8)=l.drop 0:=by rw[vN];rfl
  have zb:gQ 0 l=[] :=rfl;rw[zb]at vS⊢;have HLD:Hid _:=hld;clear e D H hld hk;by_cases hm:many<=0
  ·go_in
   go_wp2
   go_region_with(first|(go_at_call 201;refine Z.mono ?_;rintro e w1 ⟨v1,rfl,hf⟩;have V:Hid _:=X.out _ _ _ _ HLD.out (iZ w) hf;obtain⟨T,M,rfl,Y,z5,A⟩:=G.out _ _ _ _ (iZ w) hf;rw[S]at Y))
   all_goals
    clear Z hf Y z5
    go_wp2
    go_ret;exact⟨rfl,_,V.out⟩
  ·have vM:(0:Int)<=many:=eh
   go_in
   go_wp2
   go_region_with(first|(go_at_call 201;refine Z.mono ?_;rintro e w1 ⟨v1,rfl,hf⟩;have V:Hid _:=X.out _ _ _ _ HLD.out (iZ w) hf;obtain⟨T,M,rfl,Y,z5,A⟩:=G.out _ _ _ _ (iZ w) hf;rw[S]at Y))
   all_goals
    clear Z hf Y z5
    go_wp2
    go_ret;exact⟨rfl,_,V.out⟩
 ·obtain⟨rfl,_,rfl⟩:=bQ e;have hkc:(k:Int)<=(cp:Int):=by have:=HN.out;omega
  have apX:(n:Int)<=(cp:Int):=by have:=HN.out;omega
  have G6:(0:Int)<=(k:Int):=eh;have AK:(k:Int)<=(n:Int):=eh;have Z:eW eX 201 #[σ (if cp=k then μ ⟨J,0,ν⟩else μ ⟨J,k,ν⟩) (n-k) (cp-k)] w.drew λe w'=>∃(v:dZ),e=ρ v/\Hy w.drew w' v (l.drop k):=by
   by_cases hz:k=n
   ·have e1:n-k=0:=eh;have e2:l.drop k=[] :=a9 (by have:=HN.out;omega);rw[e1,e2];by_cases h:cp=k
    ·rw[ai h];exact Cb _ _ _
    ·rw[af h];exact Cb _ _ _
   ·rw[af eh];refine Lp J k (n-k) (cp-k) (l.drop k) w.drew eh eh U (λj u hu=> ?_);refine hcell (k+j) u ?_;unfold iO at hu⊢;rw[cF,dr]at hu;rw[cF];exact hu
  clear e tX FY hcell CA hk;by_cases hm:many<=0
  ·obtain rfl:k=0:=eh;have zb:gQ 0 l=[] :=rfl;rw[zb]at vS⊢;have D:(if cp=0 then μ (⟨J,0,ν⟩:Addr)else μ ⟨J,0,ν⟩)=μ ⟨J,0,ν⟩:=by split<;>rfl
   rw[Nat.sub_zero,Nat.sub_zero,D]at Z;clear H hkc G6 AK D
   go_in
   go_wp2
   go_region_with(first|(go_at_call 201;refine Z.mono ?_;rintro e w1 ⟨v1,rfl,hf⟩;have V:Hid _:=X.out _ _ _ _ rfl (iZ w) hf;obtain⟨T,M,rfl,Y,z5,A⟩:=G.out _ _ _ _ (iZ w) hf;rw[S]at Y))
   all_goals
    clear Z hf Y z5
    go_wp2
    go_ret;exact⟨rfl,_,V.out⟩
  ·by_cases UQ:n=0
   ·subst UQ;obtain rfl:k=0:=eh;have zb:gQ 0 l=[] :=rfl;rw[zb]at vS⊢;have D:(if cp=0 then μ (⟨J,0,ν⟩:Addr)else μ ⟨J,0,ν⟩)=μ ⟨J,0,ν⟩:=by split<;>rfl
    rw[Nat.sub_zero,Nat.sub_zero,D]at Z;have vM:(0:Int)<=many:=eh;clear H hkc G6 AK D
    go_in
    go_wp2
    go_region_with(first|(go_at_call 201;refine Z.mono ?_;rintro e w1 ⟨v1,rfl,hf⟩;have V:Hid _:=X.out _ _ _ _ rfl (iZ w) hf;obtain⟨T,M,rfl,Y,z5,A⟩:=G.out _ _ _ _ (iZ w) hf;rw[S]at Y))
    all_goals
     clear Z hf Y z5
     go_wp2
     go_ret;exact⟨rfl,_,V.out⟩
   by_cases h:cp=k
   ·have ze:k=n:=eh;subst ze;rw[ai h,Nat.sub_self]at Z;subst h;rw[Nat.sub_self]at Z;have hp0:¬(cp:Int)<=0:=eh;by_cases hmn:many<=(cp:Int)
    ·obtain rfl:many=(cp:Int):=eh;clear H
     go_in
     go_wp2
     go_region_with(first|(go_at_call 201;refine Z.mono ?_;rintro e w1 ⟨v1,rfl,hf⟩;have V:Hid _:=X.out _ _ _ _ rfl (iZ w) hf;obtain⟨T,M,rfl,Y,z5,A⟩:=G.out _ _ _ _ (iZ w) hf;rw[S]at Y))
     all_goals
      clear Z hf Y z5
      go_wp2
      go_ret;have Q:=V.out
     simp only[U,Nat.sub_self]at Q;exact⟨rfl,_,Q⟩
    ·clear H
     go_in
     go_wp2
     go_region_with(first|(go_at_call 201;refine Z.mono ?_;rintro e w1 ⟨v1,rfl,hf⟩;have V:Hid _:=X.out _ _ _ _ rfl (iZ w) hf;obtain⟨T,M,rfl,Y,z5,A⟩:=G.out _ _ _ _ (iZ w) hf;rw[S]at Y))
     all_goals
      clear Z hf Y z5
      go_wp2
      go_ret;have Q:=V.out
     simp only[U,Nat.sub_self]at Q;exact⟨rfl,_,Q⟩
   ·rw[af h]at Z;have hp0:¬(n:Int)<=0:=eh;by_cases hmn:many<=(n:Int)
    ·obtain rfl:many=(k:Int):=eh;clear H
     go_in
     go_wp2
     go_region_with(first|(go_at_call 201;refine Z.mono ?_;rintro e w1 ⟨v1,rfl,hf⟩;have V:Hid _:=X.out _ _ _ _ rfl (iZ w) hf;obtain⟨T,M,rfl,Y,z5,A⟩:=G.out _ _ _ _ (iZ w) hf;rw[S]at Y))
     all_goals
      clear Z hf Y z5
      go_wp2
      go_ret;have Q:=V.out
     simp only[U]at Q;exact⟨rfl,_,Q⟩
    ·obtain rfl:k=n:=eh;rw[Nat.sub_self]at Z;clear H
     go_in
     go_wp2
     go_region_with(first|(go_at_call 201;refine Z.mono ?_;rintro e w1 ⟨v1,rfl,hf⟩;have V:Hid _:=X.out _ _ _ _ rfl (iZ w) hf;obtain⟨T,M,rfl,Y,z5,A⟩:=G.out _ _ _ _ (iZ w) hf;rw[S]at Y))
     all_goals
      clear Z hf Y z5
      go_wp2
      go_ret;have Q:=V.out
     simp only[U,Nat.sub_self]at Q;exact⟨rfl,_,Q⟩
theorem jG.Cc {n:iP} (h:jG w y n)(Z:y.all n.n k):k<w.heap.size:=by
 rcases Z with e|⟨j,Y,e⟩
 ·exact h.lt (.inl e)
 ·exact h.yK Y e
theorem jG.cbW {n:iP} {cb:qA} {v':dZ} (h:jG w y n)(hc:c<n.nc)(hd:d<2)(S:y.gC=μ g)(Z:Ti w w' g (c*7) d cb (y.ov c) v')(J:cb.e=(n.C c).e)(Q:∀x,x≠d->cb.on x=(n.C c).on x)(hl:(cb.on d).length<=2000):iF w w' y (n.lq c cb) n.n:=by
 have T:∀x,x<2->x≠d->∀k,(y.ov c x).ownBlock=μ k->v'.ownBlock≠μ k:=by
  intro x hx U k e e';rcases Z.own k e' with Y|Y
  ·have:=h.inj (.on c x) (.on c d) k e Y;injection this with _ X
   exact U X
  ·have:=h.vr (l:=.on c x) e;omega
 refine h.Pv hc S cb (jU (y.ov c) d v') Z.size Z.os Z.tape Z.output (λk V M X=>Z.block k V M (X d hd)) Z.cell Z.fz Z.xm (λx hx=> ?_) (λx hx=> ?_) J (λx k hx e=> ?_) (λk e=> ?_)
 ·by_cases e:x=d
  ·subst e;rw[iE];exact Z.row
  ·rw[iC _ _ e,Q x e];refine(h.ob c x hc hx).keep Z.size (λk V=>Z.block k ((h.ob c x hc hx).lt k V) (λY=> ?_) (λY=> ?_))
   ·exact h.wB (l:=.on c x) (l':=.C) V S (by intro e;cases e) Y
   ·have:=h.inj (.on c x) (.on c d) k V Y;injection this with _ X
    exact e X
 ·by_cases e:x=d
  ·subst e;exact hl
  ·rw[Q x e];exact h.ol c x hc hx
 ·by_cases ex:x=d
  ·subst ex;rw[iE]at e;exact Z.own k e
  ·rw[iC _ _ ex]at e;exact .inl e
 ·have H:d=0 \/d=1:=eh;rcases H with rfl|rfl
  ·rw[iE]at e;rw[iC _ _ eA];exact λY=>T 1 eh eA k Y e
  ·rw[iC _ _ eA]at e;rw[iE];exact T 0 eh eA k e
theorem jG.af9 {n:iP} (h:jG w y n)(Z:y.gC=μ g):(y.ov c d).ownBlock≠μ g:=λe=>h.wB (l:=.on c d) (l':=.C) e Z (by intro e;cases e) rfl
theorem VG(y:Yt)(n:iP)(c d g:Nat)(s:ByteArray)(w:dY)(h:jG w y n)(hc:c<n.nc)(hd:d<2)(Z:y.gC=μ g)(hs:s.size<=1000000000):
 eW eX 161 #[π (μ ⟨g,c*7,ν⟩),ι κ (d:Int),.string s] w λe w'=>e=ρ (τ #[])/\iF w w' y (n.lq c ((n.C c).put d s.data.toList)) n.n:=by
 refine(Vp g (c*7) d (n.C c) (y.ov c) s w hd (h.rc g Z c hc) (h.ob c d hc hd) (h.af9 Z) (h.ol c d hc hd) hs).mono ?_;rintro e w1 ⟨rfl,v',Y⟩;refine⟨rfl,h.cbW hc hd Z Y ?_ (λx hx=> ?_) ?_⟩
 ·unfold qA.put;split<;>rfl
 ·unfold qA.put;split
  ·exact iC _ _ hx
  ·rfl
 ·unfold qA.put;split
  ·rename_i hx
   show(jU (n.C c).on d _ d).length<=2000;rw[iE,aA];exact hx.2
  ·exact h.ol c d hc hd
theorem VH(y:Yt)(n:iP)(i p:Nat)(w:dY)(h:jG w y n)(hi:i<n.n)(hp:p<3):
 eW eX 29 #[π (μ ⟨(y.z i).R,0,ν⟩),ι κ (p:Int)] w λe w'=>e=ρ (τ #[.string ⟨((n.R i).P p).out.toArray⟩,η])/\iF w w' y (n.jB i ((n.R i).out p)) n.n:=by
 have Y:=(h.rn i hi).1;refine(Vx (y.z i) (n.R i) p w (h.rt i hi) eh).mono ?_;rintro e w1 ⟨rfl,Z⟩;rw[Y]at Z;exact⟨rfl,h.EA hi Z (h.rn i hi)⟩
def iP.oW(y:iP)(q d:Nat):iP:=if d=0 then y.j2 q else if d=1 then(y.j2 q).kZ q 0 else y.j2 (q+1)
theorem Cd(c:qA)(o:Nat->dZ):CU c o 0=ι κ (((c.e 0).1:Int)+1)/\CU c o 1=ι κ ((c.e 0).2:Int)/\CU c o 2=ι κ (((c.e 1).1:Int)+1)/\CU c o 3=ι κ ((c.e 1).2:Int)/\CU c o 4=.bool c.iQ:=⟨rfl,rfl,rfl,rfl,rfl⟩
theorem acG(y:iP)(q d x:Nat):((y.oW q d).C x).e=(y.C x).e:=by
 unfold iP.oW;split
 ·exact((j4 y q).2.2.2.2 x).1
 ·split
  ·exact((mW _ q 0).2.2.2.2 x).1.trans ((j4 y q).2.2.2.2 x).1
  ·exact((j4 y (q+1)).2.2.2.2 x).1
theorem acH(y:iP)(q d:Nat):(y.oW q d).n=y.n/\(y.oW q d).nc=y.nc:=by
 unfold iP.oW;split
 ·exact⟨(j4 y q).1,(j4 y q).2.1⟩
 ·split
  ·exact⟨(j4 y q).1,(j4 y q).2.1⟩
  ·exact⟨(j4 y (q+1)).1,(j4 y (q+1)).2.1⟩
theorem RM(y:iP)(q d:Nat)(hd:d<2):y.oW q (d+1)=(y.oW q d).kZ q d:=by
 have:d=0 \/d=1:=eh;rcases this with rfl|rfl<;>rfl
theorem j3.oW {y:iP} {D k:Nat} (h:j3 y D k)(Z:D<=1000000000000000)(q d:Nat)(Y:q<y.nc):j3 (y.oW q d) D k:=by
 unfold iP.oW;split
 ·exact h.j2 Z q eh
 ·split
  ·exact(h.j2 Z q eh).kZ Z (by rw[(j4 y q).2.1];exact Y) eh
  ·exact h.j2 Z (q+1) eh
theorem N5(w:dY)(y:Yt)(n:iP)(D k q d g m:Nat)(A:j3 n D k)(G:D<=1000000000000000)(hk:k<=100000)(S:q<n.nc)(hd:d<2)(hg:y.gC=μ g)(hm:n.n=m)(i p:Nat)(h:(n.C q).e d=(i,p))(M Z:dY)(hW:iF w M y (n.oW q d) m)(hb:eE M Z)(E:Nat)(u v:dZ)(hE:M.heap.size<=E)(hc:Z.cell? ⟨E,0,ν⟩=μ u/\Z.cell? ⟨E,1,ν⟩=μ v):
 eW eX 157 #[π (μ ⟨y.N,0,ν⟩),.agg #[ι κ ((i:Int)+1),ι κ (p:Int)]] Z λe w1=>∃R,e=ρ (π (μ ⟨R,0,ν⟩))/\(w1.cell? ⟨E,0,ν⟩=μ u/\w1.cell? ⟨E,1,ν⟩=μ v)/\
  eW eX 29 #[π (μ ⟨R,0,ν⟩),ι κ (p:Int)] w1 λe V=>∃s:ByteArray,e=ρ (τ #[.string s,η])/\(V.cell? ⟨E,0,ν⟩=μ u/\V.cell? ⟨E,1,ν⟩=μ v)/\
   ∀Y,eE V Y->eW eX 161 #[π (μ ⟨g,q*7,ν⟩),ι κ (d:Int),.string s] Y λe U=>e=ρ (τ #[])/\iF w U y (n.oW q (d+1)) m:=by
 subst hm;obtain⟨hi,H⟩:=A.en q d S hd;rw[h]at hi H;obtain⟨gn,gc⟩:=acH n q d;obtain⟨T,R0,s1,vM,zc⟩:=hW.ex;have R1:=R0.below hb;have X:E<Z.heap.size:=ag _ _ hc.1;have j:¬T.all n.n E:=λe=>by
  have:=R0.Cc (k:=E) (by rw[gn];exact e);omega
 rw[<-s1.N];refine(NY T _ i p Z R1 (by rw[gn];exact hi)).mono ?_;rintro e w1 ⟨rfl,b1⟩;refine⟨_,rfl,⟨(aj (a:=⟨E,0,ν⟩) (b1.block E X)).trans hc.1,(aj (a:=⟨E,1,ν⟩) (b1.block E X)).trans hc.2⟩,?_⟩;have Q:E<w1.heap.size:=Nat.lt_of_lt_of_le X b1.size;have R2:=R1.below b1;refine(VH T _ i p w1 R2 (by rw[gn];exact hi) H).mono ?_;rintro e V ⟨rfl,vH⟩;have rJ:=vH.kept.block E Q (by rw[gn];exact j);refine⟨_,rfl,⟨(aj (a:=⟨E,0,ν⟩) (rJ.trans (b1.block E X))).trans hc.1,(aj (a:=⟨E,1,ν⟩) (rJ.trans (b1.block E X))).trans hc.2⟩,λY b3=> ?_⟩;have ZN:=vH.below rfl b3;rw[gn]at ZN;have hF:=(A.oW G q d S).fits G (i:=i) (by rw[gn];exact hi);have rQ:((((n.oW q d).R i).P p).out).length<=6000*k:=hF.out p (by rw[((A.oW G q d S).rn i (by rw[gn];exact hi)).1];exact H);have h4:eW eX 161 #[π (μ ⟨g,q*7,ν⟩),ι κ (d:Int),.string ⟨(((n.oW q d).R i).P p).out.toArray⟩] Y λe U=>e=ρ (τ #[])/\iF w1 U T (n.oW q (d+1)) n.n:=by
  refine ZN.call λy2 R3 s2=> ?_;have BF:y2.gC=μ g:=by rw[s2.gC,s1.gC];exact hg
  have hcc:q<(n.oW q d).nc:=by rw[gc];exact S
  have J:=VG y2 _ q d g ⟨(((n.oW q d).R i).P p).out.toArray⟩ Y R3 hcc hd BF (by show Array.size _<=_;simp;omega);have e1:n.oW q (d+1)=((n.oW q d).jB i (((n.oW q d).R i).out p)).lq q (((n.oW q d).C q).put d ((((n.oW q d).R i).P p).out)):=by
   rw[RM n q d hd];unfold iP.kZ;rw[acG,h]
  rw[e1];have e2:((n.oW q d).jB i (((n.oW q d).R i).out p)).n=n.n:=gn;rw[e2]at J;have e3:(⟨(((n.oW q d).R i).P p).out.toArray⟩:ByteArray).data.toList=(((n.oW q d).R i).P p).out:=gY;rw[e3]at J;exact J
 refine h4.mono ?_;rintro e U ⟨rfl,PB⟩;exact⟨rfl,iF.qK hW.kept s1 vM zc (iF.first (gk hb b1) PB)⟩
theorem acI(a b c d:Int)(w:dY):(gS 193 (.agg #[ι κ a,ι κ b,ι κ c,ι κ d]) (ι κ 0)).run eX w=.ok (.agg #[ι κ a,ι κ b]) w:=gq
theorem acJ(a b c d:Int)(w:dY):(gS 193 (.agg #[ι κ a,ι κ b,ι κ c,ι κ d]) (ι κ 1)).run eX w=.ok (.agg #[ι κ c,ι κ d]) w:=gq
section
variable {P:Program}
theorem py(w:dY)(t ty e:TypeId)(i:TypeInfo)(Y:P.underlying t=μ (.slice e))(hi:P.info? e=μ i)(base ao:Option Addr)(n cap c:Nat)(Z:n<=cap):
 (fH #[t,t] ty #[σ base n cap,σ ao 0 c]).run P w=.ok (σ base n cap) w:=by
 cases base<;>cases ao<;>simp[fH,run_underlying Y,sizeOf,typeInfo,hi,Builtin.lenOf,Z,Builtin.firstCells,loadCells,loadCellsFrom,storeCells]
theorem uu {ops:Array Oper} {o:Oper} {a:Act} {K:Act->dY->Prop} {Q:Exit->Act->dY->Prop} {E:Prop}
 (J6:o.guard=ν) (s x:Operand) (t:TypeId) (ho:o.op=.call {callee:=.builtin .append,args:= #[s,x],argTypes:= #[t,t] })
 (e:TypeId) (i:TypeInfo) (z:dZ) (size bytes:Nat) (X:P.underlying t=μ (.slice e)) (hi:P.info? e=μ i) (hz:i.zero=μ z)
 (rP:i.size=size) (H:i.bytes=bytes) (MC:z.cells.size=size) (rQ:0<size)
 (v:dZ) (n:Nat) (xs:List dZ) (hs:a.eval s=v) (Y:Row w size v n xs)
 (v2:dZ) (m:Nat) (news:List dZ) (hx:a.eval x=v2) (V:Row w size v2 m news) (h1:∀u∈news,u.oneCell'=true)
 (U:n+m<=maxLen) (J:(n+m)*bytes<=140737488355328)
 (h:∀v' w',Row w' size v' (n+m) (xs++news)->w.grownBy w' v.ownBlock->(v'.ownBlock=v.ownBlock \/ ∃k,v'.ownBlock=μ k/\w.heap.size<=k)->K (a.put o.dst v') w'):
 if eP o (yielded ops a.tmps)=true then Oper.wp P o a w K Q else E:=by
 have hw:eP o (yielded ops a.tmps)=true:=by simp[eP,J6]
 rw[ai hw];have key:∃v' w',(fH #[t,t] o.type #[v,v2]).run P w=.ok v' w'/\Row w' size v' (n+m) (xs++news)/\w.grownBy w' v.ownBlock/\(v'.ownBlock=v.ownBlock \/ ∃k,v'.ownBlock=μ k/\w.heap.size<=k):=by
  by_cases hm:0<m
  ·rcases V.2 with⟨_,e2⟩|⟨g,cap,rfl,S,Z,M,hcell,_⟩
   ·omega
   ·exact si (P:=P) w t o.type e i z size bytes X hi hz rP H MC rQ v n xs Y ⟨g,0,ν⟩ m cap news V.1 hm (λj u hu=>by rw[add_plain];exact hcell j u hu) h1 U J
  ·have T:m=0:=eh;subst T;have kh:news=[] :=aI (by rw[V.1];simp);subst kh;have g0:w.grownBy w v.ownBlock:=⟨rfl,rfl,rfl,Nat.le_refl _,λ_ _ _=>rfl⟩
   rcases V.2 with⟨rfl,_⟩|⟨g2,cap2,rfl,_⟩
   ·rcases Y.2 with⟨rfl,rfl⟩|⟨g,cap,rfl,S,Z,M,hcell,CA⟩
    ·exact⟨_,w,py w t o.type e i X hi ν ν 0 0 0 (Nat.le_refl _),by simpa using Y,g0,.inl rfl⟩
    ·exact⟨_,w,py w t o.type e i X hi _ ν n cap 0 Z,by simpa using Y,g0,.inl rfl⟩
   ·rcases Y.2 with⟨rfl,rfl⟩|⟨g,cap,rfl,S,Z,M,hcell,CA⟩
    ·exact⟨_,w,py w t o.type e i X hi ν _ 0 0 cap2 (Nat.le_refl _),by simpa using Y,g0,.inl rfl⟩
    ·exact⟨_,w,py w t o.type e i X hi _ _ n cap cap2 Z,by simpa using Y,g0,.inl rfl⟩
 obtain⟨v',w',G,h2,A,D⟩:=key;unfold Oper.wp execOp;simp only[ho,resolve,invoke,builtin,Sem.run_bind,Sem.run_pure,Result.andThen_ok,List.map_toArray,List.map_cons,List.map_nil,hs,hx,G];exact h v' w' h2 A D
end
theorem VI(a b:List za):rM (a++b)=rM a++rM b:=by simp[rM]
theorem Lq(l:List za):∀u∈rM l,u.oneCell'=true:=by
 intro u Z;unfold rM at Z;obtain⟨t,_,Y⟩:=aT.1 Z;exact Py _ _ _ u Y
theorem RN(w:dY)(y:Yt)(M:iP)(m j:Nat)(W:dY)(hW:iF w W y M m)(hn:M.n=m)(U:j<m):∃R iv,W.cell? ⟨y.gR,j,ν⟩=μ (π (μ ⟨R,0,ν⟩))/\(∀V,eE W V->V.cell? ⟨y.gI,j,ν⟩=μ iv/\V.cell? ⟨y.N,1,ν⟩=μ (σ (μ ⟨y.gI,0,ν⟩) m y.yI)/\y.gI<V.heap.size)/\iv.ownBlock≠μ y.gI/\iv.ownBlock≠μ y.N/\y.N≠y.gI/\
 ∀V,eE W V->eW eX 32 #[π (μ ⟨R,0,ν⟩)] V λe w'=>∃v,e=ρ v/\Row w' 3 v (M.R j).j8.length (rM (M.R j).j8)/\Row w' 3 iv (M.j8 j).length (rM (M.j8 j))/\w'.cell? ⟨y.gI,j,ν⟩=μ iv/\w'.frozen? ⟨y.gI,j,ν⟩=false/\w'.cell? ⟨y.N,1,ν⟩=μ (σ (μ ⟨y.gI,0,ν⟩) m y.yI)/\
  ∀x1 v',Row x1 3 v' ((M.j8 j).length+(M.R j).j8.length) (rM (M.j8 j)++rM (M.R j).j8)->w'.grownBy x1 iv.ownBlock->(v'.ownBlock=iv.ownBlock \/ ∃k,v'.ownBlock=μ k/\w'.heap.size<=k)->iF w (x1.setCell ⟨y.gI,j,ν⟩ v') y (M.xY j) m:=by
 subst hn;obtain⟨Z,Q,s1,vM,zc⟩:=hW.ex;refine⟨(Z.z j).R,Z.iv j,?_,λV hb=> ?_,λe=> ?_,λe=> ?_,λe=> ?_,λV hb=> ?_⟩
 ·rw[<-s1.gR];exact Q.ptr U
 ·have X:=Q.below hb;rw[<-s1.gI,<-s1.N,<-s1.yI];exact⟨X.YK U,X.k1,X.acp⟩
 ·rw[<-s1.gI]at e;exact Q.wB (l:=.ib j) (l':=.I) e rfl (by intro e;cases e) rfl
 ·rw[<-s1.N]at e;exact Q.wB (l:=.ib j) (l':=.N) e rfl (by intro e;cases e) rfl
 ·rw[<-s1.gI,<-s1.N]at e;exact Q.wB (l:=.N) (l':=.I) rfl rfl (by intro e;cases e) e
 have X:=Q.below hb;have A:=(X.rn j U).1;refine(RH (Z.z j) (M.R j) V (X.rt j U)).mono ?_;rintro e w1 ⟨rfl,hr,qv⟩;have hw:iD V w1 (Z.z j) {M.R j with j8:=[] } 3:=(congrArg (λt=>iD V w1 (Z.z j) ({M.R j with j8:=[] }:iM) t) A).mp qv;have h:∀k,Z.own k->w1.heap[k]? =V.heap[k]? :=λk T=>by
  have hf:=X.Pt U T;exact hw.kept.block k (X.lt (.inl T)) (λe=>hf (.inl e)) (λe=>hf (.inr (.inl e))) (λe=>hf (.inr (.inr e)))
 have hN:=X.EA U hw (X.rn j U);have S:=h Z.gI ⟨.I,rfl⟩;refine⟨_,rfl,hr,(X.ib j U).keep hw.kept.size (λk T=>h k ⟨.ib j,T⟩),?_,?_,?_,λx1 v' iW J D=> ?_⟩
 ·rw[<-s1.gI];exact(aj (a:=⟨Z.gI,j,ν⟩) S).trans (X.YK U)
 ·rw[<-s1.gI];have:=X.ri.fz j U;rw[Nat.zero_add]at this;exact(aM (a:=⟨Z.gI,j,ν⟩) S).trans this
 ·rw[<-s1.N,<-s1.gI,<-s1.yI];exact(aj (a:=⟨Z.N,1,ν⟩) (h Z.N ⟨.N,rfl⟩)).trans X.k1
 have ui:iF V (x1.setCell ⟨Z.gI,j,ν⟩ v') Z (M.xY j) M.n:=by
  refine hN.step λy2 E H=> ?_;have Tf:y2.iv j=Z.iv j:=by
   have Y:=E.YK (i:=j) U;rw[H.gI,(aj (a:=⟨Z.gI,j,ν⟩) S).trans (X.YK U)]at Y;exact(Option.some.inj Y).symm
  have ju:(Z.iv j).ownBlock≠μ Z.gI:=λe=>X.wB (l:=.ib j) (l':=.I) e rfl (by intro e;cases e) rfl;have hvg:v'.ownBlock≠μ Z.gI:=λe=>by
   rcases D with Y|⟨k,Y,G⟩
   ·exact ju (by rw[<-Y];exact e)
   ·rw[e]at Y;have yr:=Option.some.inj Y;have h4:Z.gI<w1.heap.size:=by rw[<-H.gI];exact E.acp
    omega
  have hx:x1.heap[Z.gI]? =w1.heap[Z.gI]? :=J.block Z.gI (by rw[<-H.gI];exact E.acp) (λe=>ju e.symm);have qG:=E.box (i:=j) (w':=x1.setCell ⟨Z.gI,j,ν⟩ v') U v' (M.j8 j++(M.R j).j8) (by simpa using J.size) J.os J.tape J.output (λk T Y G=> ?_) ?_ ?_ (λk T=> ?_)
  ·exact qG
  ·rw[H.gI]at Y;rw[Tf]at G;rw[aq _ _ _ k Y];exact J.block k T (λe=>G e.symm)
  ·rw[H.gI];have Y:=E.ri;rw[H.gI]at Y;have G:=Y.keep hx;have A:=G.set j U v';rw[Nat.zero_add]at A;refine A.congr λx hx=> ?_;by_cases e:x=j
   ·subst e;rw[iE];unfold sZ;simp
   ·rw[iC _ _ e];unfold sZ;simp[e]
  ·rw[VI,aA];exact iW.keep gY (λk T=>aq _ _ _ k (λe=>hvg (by rw[T,e])))
  ·rcases D with Y|⟨k',Y,G⟩
   ·left;rw[Tf,<-Y];exact T
   ·right;rw[T]at Y;have:=Option.some.inj Y;omega
 rw[s1.gI]at ui;exact iF.qK hW.kept s1 vM zc (iF.first hb ui)
theorem oG {j:Nat} (h:x.cell? ⟨b,k,ν⟩=μ u)(Z:b≠g):(x.setCell ⟨g,j,ν⟩ v).cell? ⟨b,k,ν⟩=μ u:=by
 rw[aW _ _ _ _ (λe=>Z (congrArg Addr.block e).symm)];exact h
theorem sM(y:Yt)(n:iP)(D k:Nat)(w:dY)(h:jG w y n)(iN:j3 n D k)(hD:D<=1000000000)(hk:k<=100000):
 eW eX 111 #[π (μ ⟨y.N,0,ν⟩)] w λe w'=>e=ρ (τ #[])/\iF w w' y n.gather n.n:=by
 have c3:=h.k3;obtain⟨a,cp,vS,Lr⟩:=h.cvs;rw[vS]at c3;have cl:=h.x5;have c9:=h.c9;have n6:=h.n6;obtain⟨nc,tX⟩:=gg (n.nc);obtain⟨m,hm⟩:=gg (n.n);have H0:Hid (iF w w y (n.j2 0) m):=by
  show iF _ _ _ _ _;rw[<-hm];exact iF.refl h
 have HK3:Hid (∀q W,iF w W y (n.j2 q) m->W.cell? ⟨y.N,3,ν⟩=μ (σ a nc cp)/\y.N<W.heap.size):=by
  intro q W hw;have h1:=hw.k3;rw[(j4 n q).2.1,vS,tX]at h1;exact⟨h1,hw.lt⟩
 have HGC:Hid (∀c,c<nc->∃g,y.gC=μ g/\a=μ ⟨g,0,ν⟩):=by
  show∀c,_->_;rw[<-tX];exact Lr
 have aga:Hid (∀q W g,q<nc->y.gC=μ g->iF w W y (n.j2 q) m->W.cell? ⟨g,q*7,ν⟩=μ (ι κ ((((n.C q).e 0).1:Int)+1))/\W.cell? ⟨g,q*7+1,ν⟩=μ (ι κ (((n.C q).e 0).2:Int))/\W.cell? ⟨g,q*7+2,ν⟩=μ (ι κ ((((n.C q).e 1).1:Int)+1))/\W.cell? ⟨g,q*7+2+1,ν⟩=μ (ι κ (((n.C q).e 1).2:Int))/\g<W.heap.size):=by
  intro q W g hq hg hw;obtain⟨ov,hC⟩:=hw.Pw (c:=q) (by rw[(j4 n q).2.1,tX];exact hq) hg;have e1:=((j4 n q).2.2.2.2 q).1;have h0:=hC.cell 0 eA;have h1:=hC.cell 1 eA;have h2:=hC.cell 2 eA;have h3:=hC.cell 3 eA;rw[(Cd _ _).1,e1]at h0;rw[(Cd _ _).2.1,e1]at h1;rw[(Cd _ _).2.2.1,e1]at h2;rw[(Cd _ _).2.2.2.1,e1]at h3;exact⟨h0,h1,h2,h3,hC.lt eA⟩
 have Jm:Hid (∀(q d g i p:Nat) (Q:dY),q<nc->d<2->y.gC=μ g->(n.C q).e d=(i,p)->iF w Q y (n.oW q d) m->
  eW eX 157 #[π (μ ⟨y.N,0,ν⟩),.agg #[ι κ ((i:Int)+1),ι κ (p:Int)]] (Q.alloc (γ #[ι κ ((i:Int)+1),ι κ (p:Int)] 192)).drew λe w1=>∃R,e=ρ (π (μ ⟨R,0,ν⟩))/\(w1.cell? ⟨Q.heap.size,0,ν⟩=μ (ι κ ((i:Int)+1))/\w1.cell? ⟨Q.heap.size,1,ν⟩=μ (ι κ (p:Int)))/\
  eW eX 29 #[π (μ ⟨R,0,ν⟩),ι κ (p:Int)] w1 λe w2=>∃s:ByteArray,e=ρ (τ #[.string s,η])/\(w2.cell? ⟨Q.heap.size,0,ν⟩=μ (ι κ ((i:Int)+1))/\w2.cell? ⟨Q.heap.size,1,ν⟩=μ (ι κ (p:Int)))/\
   ∀w3,eE w2 w3->eW eX 161 #[π (μ ⟨g,q*7,ν⟩),ι κ (d:Int),.string s] w3 λe w4=>e=ρ (τ #[])/\iF w w4 y (n.oW q (d+1)) m):=by
  intro q d g i p Q hq hd hg Ar hw;have hb:=jD (gW Q (γ #[ι κ ((i:Int)+1),ι κ (p:Int)] 192));have hB:iX (Q.alloc (γ #[ι κ ((i:Int)+1),ι κ (p:Int)] 192)).drew Q.heap.size #[ι κ ((i:Int)+1),ι κ (p:Int)] 192:=(iX.new Q _ _).drew;exact N5 w y n D k q d g m iN eh hk (by rw[tX];exact hq) hd hg hm i p Ar Q _ hw hb Q.heap.size _ _ (Nat.le_refl _) ⟨hB.cell 0,hB.cell 1⟩
 rw[tX]at c3 c9;rw[hm]at n6⊢;have Qx:Hid _:=iN;have HNC:Hid _:=tX;have HM:Hid _:=hm;clear h iN Lr vS tX hm
 go_in
 go_wp2
 go_loopw [15] (λx wr=>∃q:Nat,q<=nc/\x=ι κ q/\iF w wr y (n.j2 q) m) (λx _=>nc-(eY x).toNat)
 case atStart=>exact⟨0,Nat.zero_le _,rfl,H0.out⟩
 case round=>
  obtain⟨q,hq,rfl,rY⟩:=hrel;obtain⟨V,rfl⟩:∃V,V=wr:=⟨_,rfl⟩
  by_cases kB:q<nc
  ·have nQ:(q:Int)<(nc:Int):=eh;have hq0:(0:Int)<=(q:Int):=eh;obtain⟨g,hg,rfl⟩:=HGC.out q kB;obtain⟨d3,dl⟩:=HK3.out q V rY;obtain⟨e0,e1,e2,e3,gl⟩:=aga.out q V g kB hg rY;obtain⟨i0,p0,Ls⟩:∃i0 p0,(n.C q).e 0=(i0,p0):=⟨_,_,rfl⟩
   obtain⟨i1,p1,Lt⟩:∃i1 p1,(n.C q).e 1=(i1,p1):=⟨_,_,rfl⟩
   rw[Ls]at e0 e1;rw[Lt]at e2 e3;have HD0:Hid _:=rY;have ala:Hid _:=Ls;have alb:Hid _:=Lt;have HG:Hid _:=hg;clear rY Ls Lt hg
   go_wp2
   go_loopw [28] (λx wr=>(x=ι κ 0/\iF w wr y (n.oW q 0) m) \/(x=ι κ 1/\iF w wr y (n.oW q 1) m) \/(x=ι κ 2/\iF w wr y (n.oW q 2) m)) (λx _=>2-(eY x).toNat)
   case atStart=>exact .inl ⟨rfl,HD0.out⟩
   case round=>
    rcases hrel with⟨rfl,Dn⟩|⟨rfl,Dn⟩|⟨rfl,Dn⟩
    ·have hix:=acI ((i0:Int)+1) (p0:Int) ((i1:Int)+1) (p1:Int);have hE:=Jm.out q 0 g i0 p0 wr kB eA HG.out ala.out Dn;obtain⟨W1,j6⟩:=gg (wr.alloc (γ #[ι κ ((i0:Int)+1),ι κ (p0:Int)] 192));obtain⟨E,ud⟩:=gg (wr.heap.size);have J:W1.drew.cell? ⟨E,0,ν⟩=μ (ι κ ((i0:Int)+1))/\W1.drew.cell? ⟨E,1,ν⟩=μ (ι κ (p0:Int)):=by
      have hB:iX (wr.alloc (γ #[ι κ ((i0:Int)+1),ι κ (p0:Int)] 192)).drew wr.heap.size #[ι κ ((i0:Int)+1),ι κ (p0:Int)] 192:=(iX.new wr _ _).drew;rw[j6,ud]at hB;exact⟨hB.cell 0,hB.cell 1⟩
     have El:E<W1.drew.heap.size:=ag _ _ J.1;rw[j6,ud]at hE;have JY:Hid _:=j6;have Vl:Hid _:=ud;clear Dn j6 ud;go_wp2_with(fail)
     try rw[JY.out]
     try rw[Vl.out]
     go_region_held3(λx=>x.cell? ⟨E,0,ν⟩=μ (ι κ ((i0:Int)+1))/\x.cell? ⟨E,1,ν⟩=μ (ι κ (p0:Int)))
      (first|assumption|exact J|exact X|exact H)
      (first
       |(go_at_call 157;refine hE.mono ?_;rintro e w1 ⟨R,rfl,X,hO⟩)
       |(go_at_call 29;refine hO.mono ?_;rintro e w2 ⟨sx,rfl,H,hP⟩))
     all_goals
      have hp:=hP _ (av _ _);clear hE hO hP J X H El;go_wp2_with(fail);refine hp.mono ?_;rintro e w4 ⟨rfl,PB⟩;have Lh:Hid _:=PB;clear hp PB
      go_wp2
      go_roundw
      case rel=>exact .inr (.inl ⟨by go_num,Lh.out⟩)
      case measure=>simp[eY]
    ·have hix:=acJ ((i0:Int)+1) (p0:Int) ((i1:Int)+1) (p1:Int);have hE:=Jm.out q 1 g i1 p1 wr kB eA HG.out alb.out Dn;obtain⟨W1,j6⟩:=gg (wr.alloc (γ #[ι κ ((i1:Int)+1),ι κ (p1:Int)] 192));obtain⟨E,ud⟩:=gg (wr.heap.size);have J:W1.drew.cell? ⟨E,0,ν⟩=μ (ι κ ((i1:Int)+1))/\W1.drew.cell? ⟨E,1,ν⟩=μ (ι κ (p1:Int)):=by
      have hB:iX (wr.alloc (γ #[ι κ ((i1:Int)+1),ι κ (p1:Int)] 192)).drew wr.heap.size #[ι κ ((i1:Int)+1),ι κ (p1:Int)] 192:=(iX.new wr _ _).drew;rw[j6,ud]at hB;exact⟨hB.cell 0,hB.cell 1⟩
     have El:E<W1.drew.heap.size:=ag _ _ J.1;rw[j6,ud]at hE;have JY:Hid _:=j6;have Vl:Hid _:=ud;clear Dn j6 ud;go_wp2_with(fail)
     try rw[JY.out]
     try rw[Vl.out]
     go_region_held3(λx=>x.cell? ⟨E,0,ν⟩=μ (ι κ ((i1:Int)+1))/\x.cell? ⟨E,1,ν⟩=μ (ι κ (p1:Int)))
      (first|assumption|exact J|exact X|exact H)
      (first
       |(go_at_call 157;refine hE.mono ?_;rintro e w1 ⟨R,rfl,X,hO⟩)
       |(go_at_call 29;refine hO.mono ?_;rintro e w2 ⟨sx,rfl,H,hP⟩))
     all_goals
      have hp:=hP _ (av _ _);clear hE hO hP J X H El;go_wp2_with(fail);refine hp.mono ?_;rintro e w4 ⟨rfl,PB⟩;have Lh:Hid _:=PB;clear hp PB
      go_wp2
      go_roundw
      case rel=>exact .inr (.inr ⟨by go_num,Lh.out⟩)
      case measure=>simp[eY]
    ·have HQ:Hid _:=Dn;clear Dn
     go_wp2
     go_roundw
     case rel=>exact⟨q+1,eh,by go_num,HQ.out⟩
     case measure=>simp[eY];omega
  ·have xP:¬(q:Int)<(nc:Int):=eh;obtain rfl:q=nc:=eh;have HI0:Hid _:=rY;have k0:=rY.k0;have kl:=rY.lt;rw[(j4 n q).1]at k0;have k0':V.cell? ⟨y.N,0,ν⟩=μ (σ (μ ⟨y.gR,0,ν⟩) m y.tQ):=by rw[<-HM.out];exact k0
   obtain⟨i0,hi,ox,nh,mO⟩:=aY Px;have HE:Hid (n.gather=(n.j2 q).mZ m):=by
    show _=_;unfold iP.gather;rw[HNC.out,HM.out]
   have Yj:Hid ((n.j2 q).n=m):=by show _=_;rw[(j4 n q).1,HM.out]
   have HK:Hid (∀j,j<m->(((n.j2 q).mZ j).j8 j).length<=2000000000/\((((n.j2 q).mZ j).R j).j8).length<=2000000000):=by
    intro j hj;have h1:=(Qx.out.j2 eh q (by rw[HNC.out];exact Nat.le_refl _)).mZ j;have h2:=h1.ib j (by rw[(nY (n.j2 q) j).1,Yj.out];exact hj);have h3:=(h1.fit j (by rw[(nY (n.j2 q) j).1,Yj.out];exact hj)).1;omega
   clear rY k0 Qx HNC aga Jm HK3 HGC
   go_wp2
   go_loopw [54] (λx wr=>∃j:Nat,j<=m/\x=ι κ j/\iF w wr y ((n.j2 q).mZ j) m) (λx _=>m-(eY x).toNat)
   case atStart=>exact⟨0,Nat.zero_le _,rfl,HI0.out⟩
   case round=>
    obtain⟨j,hj,rfl,hwj⟩:=hrel;by_cases hjl:j<m
    ·have ald:(j:Int)<(m:Int):=eh;have yF:(0:Int)<=(j:Int):=eh;have hnM:((n.j2 q).mZ j).n=m:=by rw[(nY (n.j2 q) j).1,Yj.out]
     obtain⟨l1,l2⟩:=HK.out j hjl;have HS:Hid ((n.j2 q).mZ (j+1)=((n.j2 q).mZ j).xY j):=rfl;obtain⟨R,iv,r0,qG,agd,age,hNI,YT⟩:=RN w y _ m j wr hwj hnM hjl;have zi:Hid ((n.j2 q).mZ (j+1)=((n.j2 q).mZ j).xY j):=rfl;have HSS:∀x,iF w x y (((n.j2 q).mZ j).xY j) m=iF w x y ((n.j2 q).mZ (j+1)) m:=λx=>rfl;obtain⟨M,hM⟩:=gg ((n.j2 q).mZ j);rw[hM]at l1 l2 YT HSS;simp only[HSS]at YT;have hIn:=YT wr.drew (iZ wr);obtain⟨c1,J,gIl⟩:=qG wr.drew (iZ wr);have rl:=ag _ _ r0;have YU:Hid _:=agd;have agf:Hid _:=age;have HNI:Hid _:=hNI;have Nl:=ag _ _ J;generalize y.N=YN at*;generalize y.gI=U at*;generalize y.yI=cI at*;clear hwj hM qG YT HSS HS zi agd age hNI;go_wp2_with(fail);refine cz (S:=λx=>x.cell? ⟨YN,1,ν⟩=μ (σ (μ ⟨U,0,ν⟩) m cI)) gq J (λlF=> ?_);refine jn 0 (μ 59) rfl rfl gq gq gq (λ_ _ _ h=>h) (by rfl) (v:= ?_) ?_ je ?_
     rotate_left
     ·intro G Z
      (try dsimp only at Z)
      go_simp
      try with_reducible rfl
     simp only[gF,gG,gH,gJ];refine jn 1 (μ 60) rfl rfl gq gq gq (λ_ _ _ h=>h) (by rfl) (v:= ?_) ?_ je ?_
     rotate_left
     ·intro G Z
      (try dsimp only at Z)
      go_simp
      try with_reducible rfl
     simp only[gF,gG,gH,gJ];refine jn 2 (μ 61) rfl rfl gq gq gq (λ_ _ _ h=>h) (by rfl) (v:= ?_) ?_ je ?_
     rotate_left
     ·intro G Z
      (try dsimp only at Z)
      go_simp
      try with_reducible rfl
     simp only[gF,gG,gH,gJ];refine jn 3 (μ 62) rfl rfl gq gq gq (λ_ _ _ h=>h) (by rfl) (v:= ?_) ?_ je ?_
     rotate_left
     ·intro G Z
      (try dsimp only at Z)
      go_simp
      try with_reducible rfl
     simp only[gF,gG,gH,gJ];refine jn 4 (μ 63) rfl rfl gq gq gq (λ_ _ _ h=>h) (by rfl) (v:= ?_) ?_ je ?_
     rotate_left
     ·intro G Z
      (try dsimp only at Z)
      go_simp
      try with_reducible rfl
     simp only[gF,gG,gH,gJ];refine jn 5 (μ 64) rfl rfl gq gq gq (λ_ _ _ h=>h) (by rfl) (v:= ?_) ?_ je ?_
     rotate_left
     ·intro G Z
      (try dsimp only at Z)
      go_simp
      try with_reducible rfl
     simp only[gF,gG,gH,gJ];refine jn 6 (μ 65) rfl rfl gq gq gq (λ_ _ _ h=>h) (by rfl) (v:= ?_) ?_ je ?_
     rotate_left
     ·intro G Z
      (try dsimp only at Z)
      go_simp
      try with_reducible rfl
     simp only[gF,gG,gH,gJ];refine jn 7 (μ 66) rfl rfl gq gq gq (λ_ _ _ h=>h) (by rfl) (v:= ?_) ?_ je ?_
     rotate_left
     ·intro G Z
      (try dsimp only at Z)
      go_simp
      try with_reducible rfl
     simp only[gF,gG,gH,gJ];refine jn 8 (μ 67) rfl rfl gq gq gq (λ_ _ _ h=>h) (by rfl) (v:= ?_) ?_ je ?_
     rotate_left
     ·intro G Z
      (try dsimp only at Z)
      go_simp
      try with_reducible rfl
     simp only[gF,gG,gH,gJ];refine jn 9 (μ 68) rfl rfl gq gq gq (λ_ _ _ h=>h) (by rfl) (v:= ?_) ?_ je ?_
     rotate_left
     ·intro G Z
      (try dsimp only at Z)
      go_simp
      try with_reducible rfl
     simp only[gF,gG,gH,gJ];refine jn 10 (μ 69) rfl rfl gq gq gq (λ_ _ _ h=>h) (by rfl) (v:= ?_) ?_ je ?_
     rotate_left
     ·intro G Z
      (try dsimp only at Z)
      go_simp
      try with_reducible rfl
     simp only[gF,gG,gH,gJ];refine jn 12 (μ 71) rfl rfl gq gq gq (λ_ _ _ h=>h) (by rfl) (v:= ?_) ?_ je ?_
     rotate_left
     ·intro G Z
      (try dsimp only at Z)
      go_simp
      try with_reducible rfl
     simp only[gF,gG,gH,gJ];refine aR (rs:=[11,13]) gq gY ?_;refine aH (o:=_) rfl (λK Y=> ?_) (aH (o:=_) rfl (λK Y=> ?_) aO)
     ·go_simp
      (try go_wp2_with(fail))
      refine Y.out _ _ (by exact J) (λlF=> ?_);clear Y K;refine aR (rs:=[13]) gq gY ?_;refine aH (o:=_) rfl (λK Y=> ?_) aO
      go_simp
      refine hIn.mono ?_;rintro e w1 ⟨v1,rfl,iW,Tf,b1,z1,X,ui⟩
      (try go_wp2_with(fail))
      refine Y.out _ _ (by exact X) (λlF=> ?_);clear Y K;have T:=ag _ _ b1;refine aR (rs:=[14]) gq gY ?_;refine aH (o:=_) rfl (λK Y=> ?_) aO;refine uu (by rfl) (.tmp 70) (.tmp 72) 53 (by rfl) 106 i0 (.agg #[ι κ 0,ι κ 0,.string ⟨#[]⟩]) 3 32 underlying53 hi ox nh mO (by rfl) eA iv (M.j8 j).length (rM (M.j8 j)) (by rfl) Tf v1 (M.R j).j8.length (rM (M.R j).j8) (by rfl) iW (Lq _) (by unfold maxLen;omega) eh ?_;intro v2 x1 k8 A jF;have H:x1.cell? ⟨YN,1,ν⟩=μ (σ (μ ⟨U,0,ν⟩) m cI):=(aj (a:=⟨YN,1,ν⟩) (A.block YN (ag _ _ X) (λe=>agf.out e.symm))).trans X;have b2:x1.cell? ⟨U,j,ν⟩=μ iv:=(aj (a:=⟨U,j,ν⟩) (A.block U T (λe=>YU.out e.symm))).trans b1;have z2:x1.frozen? ⟨U,j,ν⟩=false:=(aM (a:=⟨U,j,ν⟩) (A.block U T (λe=>YU.out e.symm))).trans z1;have gl2:=ag _ _ b2;obtain⟨a2,cp2,rfl⟩:=Row.shape k8;refine Y.out _ _ (by exact H) (λlF=> ?_);clear Y K;refine jn 15 (μ 74) rfl rfl gq gq gq (λ_ _ _ h=>h) (by rfl) (v:= ?_) ?_ je ?_
      rotate_left
      ·intro G Z
       (try dsimp only at Z)
       go_simp
       try with_reducible rfl
      simp only[gF,gG];refine aR (rs:=[16]) gq gY ?_;refine aH (o:=_) rfl (λK Y=> ?_) aO
      go_simp
      (try go_wp2_with(fail))
      refine Y.out _ _ (by exact oG H HNI.out) (λlF=> ?_);clear Y K;refine cS gq ?_ _;have HF:Hid _:=ui x1 _ k8 A jF;clear hIn iW Tf b1 z1 J X H b2 z2 ui k8 A jF T gl2
      go_wp2
      go_roundw
      case rel=>exact⟨j+1,eh,by go_num,HF.out⟩
      case measure=>simp[eY];omega
     ·go_simp
      refine hIn.mono ?_;rintro e w1 ⟨v1,rfl,iW,Tf,b1,z1,X,ui⟩
      (try go_wp2_with(fail))
      refine Y.out _ _ (by exact X) (λlF=> ?_);clear Y K;have T:=ag _ _ b1;refine aR (rs:=[11]) gq gY ?_;refine aH (o:=_) rfl (λK Y=> ?_) aO
      go_simp
      (try go_wp2_with(fail))
      refine Y.out _ _ (by exact X) (λlF=> ?_);clear Y K;refine aR (rs:=[14]) gq gY ?_;refine aH (o:=_) rfl (λK Y=> ?_) aO;refine uu (by rfl) (.tmp 70) (.tmp 72) 53 (by rfl) 106 i0 (.agg #[ι κ 0,ι κ 0,.string ⟨#[]⟩]) 3 32 underlying53 hi ox nh mO (by rfl) eA iv (M.j8 j).length (rM (M.j8 j)) (by rfl) Tf v1 (M.R j).j8.length (rM (M.R j).j8) (by rfl) iW (Lq _) (by unfold maxLen;omega) eh ?_;intro v2 x1 k8 A jF;have H:x1.cell? ⟨YN,1,ν⟩=μ (σ (μ ⟨U,0,ν⟩) m cI):=(aj (a:=⟨YN,1,ν⟩) (A.block YN (ag _ _ X) (λe=>agf.out e.symm))).trans X;have b2:x1.cell? ⟨U,j,ν⟩=μ iv:=(aj (a:=⟨U,j,ν⟩) (A.block U T (λe=>YU.out e.symm))).trans b1;have z2:x1.frozen? ⟨U,j,ν⟩=false:=(aM (a:=⟨U,j,ν⟩) (A.block U T (λe=>YU.out e.symm))).trans z1;have gl2:=ag _ _ b2;obtain⟨a2,cp2,rfl⟩:=Row.shape k8;refine Y.out _ _ (by exact H) (λlF=> ?_);clear Y K;refine jn 15 (μ 74) rfl rfl gq gq gq (λ_ _ _ h=>h) (by rfl) (v:= ?_) ?_ je ?_
      rotate_left
      ·intro G Z
       (try dsimp only at Z)
       go_simp
       try with_reducible rfl
      simp only[gF,gG];refine aR (rs:=[16]) gq gY ?_;refine aH (o:=_) rfl (λK Y=> ?_) aO
      go_simp
      (try go_wp2_with(fail))
      refine Y.out _ _ (by exact oG H HNI.out) (λlF=> ?_);clear Y K;refine cS gq ?_ _;have HF:Hid _:=ui x1 _ k8 A jF;clear hIn iW Tf b1 z1 J X H b2 z2 ui k8 A jF T gl2
      go_wp2
      go_roundw
      case rel=>exact⟨j+1,eh,by go_num,HF.out⟩
      case measure=>simp[eY];omega
    ·have hjm:¬(j:Int)<(m:Int):=eh;obtain rfl:j=m:=eh;have HW:Hid (iF w wr y n.gather j):=by
      show iF _ _ _ _ _;rw[HE.out];exact hwj
     clear hwj
     go_wp2
     first|go_end0|refine iJ rfl rfl ?_
     exact⟨rfl,HW.out⟩
theorem jG.Dp {n:iP} {r:iM} (h:jG w y n)(hi:i<n.n)(Y:iD w w' (y.z i) r (n.R i).n)(X:r.n=(n.R i).n/\r.id=(n.R i).id):iF w w' y (n.jB i r) n.n:=by
 obtain⟨Z,V⟩:=h.rn i hi;rw[Z]at Y;exact h.EA hi Y ⟨X.1.trans Z,X.2.trans V⟩
theorem RO(y:Yt)(n:iP)(D k i:Nat)(w:dY)(h:jG w y n)(V:jf w)(Y:j3 n D k)(hD:D<=1000000000)(U:k<=90000)(hi:i<n.n):
 eW eX 25 #[π (μ ⟨(y.z i).R,0,ν⟩)] w λe w'=>e=ρ (τ #[])/\iF w w' y (n.jB i (n.R i).tick) n.n:=by
 refine(RE (y.z i) (n.R i) k w (h.rt i hi) V (Y.ok i hi) (Y.fits eh hi) U).mono ?_;rintro e w1 ⟨rfl,X⟩;have Z:=jH.ja (n.R i) (n.R i).n;exact⟨rfl,h.Dp hi X ⟨Z.n,Z.id⟩⟩
theorem RP(y:Yt)(n:iP)(D k i:Nat)(t:Int)(tx:ByteArray)(w:dY)(h:jG w y n)(Y:j3 n D k)(hD:D<=1000000000)(hk:k<=90000)(hi:i<n.n):
 eW eX 27 #[π (μ ⟨(y.z i).R,0,ν⟩),ι κ t,.string tx] w λe w'=>e=ρ (jm (kd (n.R i) t tx.data.toList).2)/\iF w w' y (n.jB i (kd (n.R i) t tx.data.toList).1) n.n:=by
 refine(RF (y.z i) (n.R i) k t tx w (h.rt i hi) (Y.ok i hi) (Y.fits eh hi) eh).mono ?_;rintro e w1 ⟨rfl,X⟩;have Z:=jH.kd (n.R i) t tx.data.toList;exact⟨rfl,h.Dp hi X ⟨Z.n,Z.id⟩⟩
theorem Bj(h:k<m)(hm:m<=6):IntKind.i64.wrap ((k:Int)+1-1)=(k:Int):=by
 have:(k:Int)+1-1=k:=eh;rw[this];exact aX _ ⟨eh,eh⟩
theorem Lu(y:Yt)(n:iP)(D:Nat)(i:Int)(w:dY)(h:jG w y n)(U:jf w)(Y:j3 n D 0)(hD:D<=900000000):
 eW eX 56 #[π (μ ⟨y.N,0,ν⟩),ι κ i] w λe w'=>e=ρ (jm (n.tick i).2)/\iF w w' y (n.tick i).1 n.n:=by
 have hh:=qU y n i w h;rcases yM i n.n with⟨E,hi⟩|⟨k,Z,rfl⟩
 ·have X:n.tick i=(n,6):=by unfold iP.tick;rw[ai hi]
  rw[X];rw[E]at hh;have V:Hid _:=iF.refl h;clear h Y U
  go_in
  go_wp2_with(fail);refine hh.mono ?_;rintro e w1 ⟨rfl,rfl⟩;clear hh
  go_wp2
  go_ret;exact⟨rfl,V.out⟩
 ·rw[zN Z]at hh;have X:n.tick ((k:Int)+1)=((n.jB k (n.R k).tick).gather,0):=by
   unfold iP.tick;have j:((k:Int)+1-1).toNat=k:=eh;rw[af eh,j]
  rw[X];have c0:=h.k0;have cl:=h.x5;have d0:=h.ptr Z;have dl:=h.Rr;have n6:=h.n6;have hw:=Bj Z n6;have kS:(k:Int)<(n.n:Int):=eh;have O1:(0:Int)<=(k:Int):=eh;have M:=RO y n D 0 k w h U Y eh eh Z;have S:=Y.jb eh Z;have A:Hid (∀W,iF w W y (n.jB k (n.R k).tick) n.n->eW eX 111 #[π (μ ⟨y.N,0,ν⟩)] W λe w'=>e=ρ (τ #[])/\iF w w' y (n.jB k (n.R k).tick).gather n.n):=by
   intro W hW;refine hW.call λy1 H s1=> ?_;rw[<-s1.N];exact sM y1 _ D _ W H S eh eh
  have G:jm 0=η:=rfl;rw[G];clear h Y U S
  go_in
  go_wp2_with(fail);refine hh.mono ?_;rintro e w1 ⟨rfl,rfl⟩;clear hh;go_wp2_with(fail);refine M.mono ?_;rintro e w1 ⟨rfl,Q⟩;have T:=A.out _ Q;clear M Q;go_wp2_with(fail);refine T.mono ?_;rintro e w2 ⟨rfl,J⟩;have V:Hid _:=J;clear T J
  go_wp2
  go_ret;exact⟨rfl,V.out⟩
theorem VJ(y:Yt)(n:iP)(D:Nat)(i t:Int)(tx:ByteArray)(w:dY)(h:jG w y n)(Q:j3 n D 0)(hD:D<=900000000):
 eW eX 53 #[π (μ ⟨y.N,0,ν⟩),ι κ i,ι κ t,.string tx] w λe w'=>e=ρ (jm (n.send i t tx.data.toList).2)/\iF w w' y (n.send i t tx.data.toList).1 n.n:=by
 have hh:=qU y n i w h;rcases yM i n.n with⟨hn,hi⟩|⟨k,V,rfl⟩
 ·have X:n.send i t tx.data.toList=(n,6):=by unfold iP.send;rw[ai hi]
  rw[X];rw[hn]at hh;have T:Hid _:=iF.refl h;clear h Q
  go_in
  go_wp2_with(fail);refine hh.mono ?_;rintro e w1 ⟨rfl,rfl⟩;clear hh
  go_wp2
  go_ret;exact⟨rfl,T.out⟩
 ·rw[zN V]at hh;have e1:((k:Int)+1-1).toNat=k:=eh;have c0:=h.k0;have cl:=h.x5;have d0:=h.ptr V;have dl:=h.Rr;have n6:=h.n6;have hw:=Bj V n6;have kS:(k:Int)<(n.n:Int):=eh;have O1:(0:Int)<=(k:Int):=eh;have Z:=RP y n D 0 k t tx w h Q eh eh V;have M:=Q.VF eh V t tx.data.toList;obtain⟨q,S⟩:=gg (kd (n.R k) t tx.data.toList);have X:n.send ((k:Int)+1) t tx.data.toList=if q.2≠0 then(n,q.2)else((n.jB k q.1).gather,0):=by
   unfold iP.send;rw[af eh,e1,S]
  rw[X];rw[S]at Z M;have E:Hid (∀W,iF w W y (n.jB k q.1) n.n->eW eX 111 #[π (μ ⟨y.N,0,ν⟩)] W λe w'=>e=ρ (τ #[])/\iF w w' y (n.jB k q.1).gather n.n):=by
   intro W hW;refine hW.call λy1 j s1=> ?_;rw[<-s1.N];exact sM y1 _ _ _ W j M eh eh
  have H:q.2≠0->q.1=n.R k:=λJ=>by
   rw[<-S]at J⊢;unfold Rt.kd at J⊢;split at J
   ·rename_i hc;rw[ai hc]
   ·exact absurd rfl J
  have vj:n.jB k (n.R k)=n:=by
   unfold iP.jB;rw[wu]
  by_cases Y:q.2=0
  ·rw[af (by simp[Y])];rw[Y]at Z;have e0:jm 0=η:=rfl;rw[e0]at Z⊢;clear h Q M H X S Y
   go_in
   go_wp2_with(fail);refine hh.mono ?_;rintro e w1 ⟨rfl,rfl⟩;clear hh;go_wp2_with(fail);refine Z.mono ?_;rintro e w1 ⟨rfl,U⟩;have G:=E.out _ U;clear Z U;go_wp2_with(fail);refine G.mono ?_;rintro e w2 ⟨rfl,A⟩;have T:Hid _:=A;clear G A
   go_wp2
   go_ret;exact⟨rfl,T.out⟩
  ·rw[ai Y];rw[H Y,vj]at Z;have ee:jm q.2=.iface 128 (ι κ (q.2:Int)):=by simp only[jm];rw[af Y]
   rw[ee]at Z⊢;clear h Q M H X S E Y
   go_in
   go_wp2_with(fail);refine hh.mono ?_;rintro e w1 ⟨rfl,rfl⟩;clear hh;go_wp2_with(fail);refine Z.mono ?_;rintro e w1 ⟨rfl,U⟩;have T:Hid _:=U;clear Z U
   go_wp2
   go_ret;exact⟨rfl,T.out⟩
theorem iF.aay {W:dY} {y1:Yt} {n:iP} {R:Nat} (V:jG W y1 n)(s1:y.same y1)(hi:i<n.n)(hc:W.cell? ⟨y.gR,i,ν⟩=μ (π (μ ⟨R,0,ν⟩))):(y1.z i).R=R:=by
 have Z:=V.ptr hi;rw[s1.gR,hc]at Z;have X:=Option.some.inj Z;injection X with Y
 injection Y with T
 injection T with U
 exact U.symm
def zR(W3:dY)(y:Yt)(n n1:iP)(i R:Nat)(b:Bool)(W:dY):Prop:=iF W3 W y (if b=true then n1 else n) n.n/\W.cell? ⟨y.gR,i,ν⟩=μ (π (μ ⟨R,0,ν⟩))
theorem zR.below {W3:dY} {y:Yt} {n n1:iP} {i R:Nat} {b:Bool} {W W':dY} (h:zR W3 y n n1 i R b W)(Z:n1.n=n.n)(hb:eE W W'):zR W3 y n n1 i R b W':=by
 refine⟨h.1.below (by cases b<;>simp[Z]) hb,?_⟩;exact(aj (a:=⟨y.gR,i,ν⟩) (hb.block y.gR (ag _ _ h.2))).trans h.2
theorem RQ(V:dY)(y:Yt)(n n1:iP)(i p R:Nat)(b:Bool)(W:dY)(X:n1.n=n.n)(hi:i<n.n)(Z:zR V y n n1 i R b W):
 eW eX 157 #[π (μ ⟨y.N,0,ν⟩),.agg #[ι κ ((i:Int)+1),ι κ (p:Int)]] W λe w'=>e=ρ (π (μ ⟨R,0,ν⟩))/\zR V y n n1 i R b w':=by
 obtain⟨T,U,s1,vM,zc⟩:=Z.1.ex;have Y:(if b=true then n1 else n).n=n.n:=by cases b<;>simp[X]
 have S:=iF.aay U s1 (by rw[Y];exact hi) Z.2;rw[<-s1.N];refine(NY T _ i p W U (by rw[Y];exact hi)).mono ?_;rintro e w1 ⟨rfl,b1⟩;exact⟨by rw[S],Z.below X b1⟩
theorem Lv(U:dY)(y:Yt)(n:iP)(D c d g i R:Nat)(many:Int)(W:dY)(A:j3 n D 0)(hc:c<n.nc)(hd:d<2)(J:y.gC=μ g)(n1:iP)(M:n.lq c {n.C c with on:=jU (n.C c).on d (((n.C c).on d).drop (min many.toNat ((n.C c).on d).length))}=n1)(H:zR U y n n1 i R false W):
 eW eX 158 #[π (μ ⟨g,c*7,ν⟩),ι κ (d:Int),ι κ many] W λe w'=>e=ρ (.string ⟨(((n.C c).on d).take (min many.toNat ((n.C c).on d).length)).toArray⟩)/\zR U y n n1 i R true w':=by
 obtain⟨Y,T⟩:=H;have Y:iF U W y n n.n:=Y;obtain⟨V,Z,s1,E,G⟩:=Y.ex;have X:V.gC=μ g:=by rw[s1.gC];exact J
 refine(RL g (c*7) d (n.C c) (V.ov c) many W hd (Z.rc g X c hc) (Z.ob c d hc hd) (Z.af9 X) (Z.ol c d hc hd)).mono ?_;rintro e w1 ⟨rfl,v',S⟩;have Q:=Z.cbW hc hd X S rfl (λx hx=>iC _ _ hx) (by
  show(jU (n.C c).on d _ d).length<=2000;rw[iE,dH];have:=A.ol c d hc hd;omega)
 rw[M]at Q;refine⟨rfl,iF.qK Y.kept s1 E G Q,?_⟩;rw[<-s1.gR]at T⊢;refine(aj (a:=⟨V.gR,i,ν⟩) (S.block V.gR Z.Rr (λe=> ?_) (λe=> ?_))).trans T
 ·exact Z.wB (l:=.R) (l':=.C) rfl X (by intro e;cases e) e
 ·exact Z.wB (l:=.on c d) (l':=.R) e rfl (by intro e;cases e) rfl
theorem Lw(Z:dY)(y:Yt)(n:iP)(D c d i p R q:Nat)(W:dY)(T:j3 n D 0)(hD:D<=900000000)(h3:jG Z y n)(hT:jf Z)(hc:c<n.nc)(hd:d<2)(H:(n.C c).e (1-d)=(i,p))(n1:iP)(J:n.lq c {n.C c with on:=jU (n.C c).on d (((n.C c).on d).drop q)}=n1)(hW:zR Z y n n1 i R true W):
 eW eX 23 #[π (μ ⟨R,0,ν⟩),ι κ (p:Int),.string ⟨(((n.C c).on d).take q).toArray⟩] W λe w'=>e=ρ η/\iF Z w' y (n.jo c d q) n.n:=by
 obtain⟨V,h2⟩:=hW;have V:iF Z W y n1 n.n:=V;have hi:=(T.en c (1-d) hc eh)
 rw[H]at hi;have S:n1.n=n.n:=by rw[<-J];rfl
 have X:n1.R=n.R:=by rw[<-J];rfl
 have M:=V.tab h3 rfl hT;obtain⟨j,Q,s1,vM,h⟩:=V.ex;have hR:=iF.aay Q s1 (by rw[S];exact hi.1) h2;rw[<-hR];have hl:=T.ol c d hc hd;have rQ:(⟨(((n.C c).on d).take q).toArray⟩:ByteArray).size<=2000:=by
  show Array.size _<=_;simp;omega
 have U:=Q.rt i (by rw[S];exact hi.1);have XB:=T.fits eh (i:=i) hi.1;rw[X]at U;refine(Vv _ (j.z i) (n.R i) p 0 W U M (T.ok i hi.1) XB eh (by rw[(T.rn i hi.1).1];exact hi.2)).mono ?_;rintro e w1 ⟨rfl,G⟩;have e1:(⟨(((n.C c).on d).take q).toArray⟩:ByteArray).data.toList=((n.C c).on d).take q:=gY;rw[e1]at G;have A:=jH.recv (n.R i) p (((n.C c).on d).take q);have vh:i<n1.n:=by rw[S];exact hi.1
 have Y:iF W w1 j (n1.jB i ((n.R i).recv p (((n.C c).on d).take q))) n1.n:=by
  have E:(n.R i)=n1.R i:=by rw[X]
  refine Q.Dp vh ?_ ?_
  ·rw[<-E];exact G
  ·rw[<-E];exact⟨A.n,A.id⟩
 rw[S]at Y;refine⟨rfl,iF.qK V.kept s1 vM h ?_⟩;have e3:n.jo c d q=n1.jB i ((n.R i).recv p (((n.C c).on d).take q)):=by
  unfold iP.jo;rw[H,J]
 rw[e3];exact Y
theorem Ce {p q r:Addr} {o:Obj} (h:w.cell? p=μ u/\w.cell? q=μ v/\w.cell? r=μ t):(w.alloc o).cell? p=μ u/\(w.alloc o).cell? q=μ v/\(w.alloc o).cell? r=μ t:=⟨mH h.1,mH h.2.1,mH h.2.2⟩
theorem N7 {l:Nat} {a1 a2:dZ} (h:x.cell? ⟨b,k,ν⟩=μ u/\x.cell? ⟨c,l,ν⟩=μ v/\x.cell? ⟨d,m,ν⟩=μ t)(hb:b≠g)(hc:c≠g)(hd:d≠g):
 ((x.setCell ⟨g,0,ν⟩ a1).setCell ⟨g,1,ν⟩ a2).cell? ⟨b,k,ν⟩=μ u/\((x.setCell ⟨g,0,ν⟩ a1).setCell ⟨g,1,ν⟩ a2).cell? ⟨c,l,ν⟩=μ v/\((x.setCell ⟨g,0,ν⟩ a1).setCell ⟨g,1,ν⟩ a2).cell? ⟨d,m,ν⟩=μ t:=
 ⟨oG (oG h.1 hb) hb,oG (oG h.2.1 hc) hc,oG (oG h.2.2 hd) hd⟩
theorem YV(c:qA)(o:Nat->dZ)(x:Nat)(hx:x<2):CU c o (x*2)=ι κ (((c.e x).1:Int)+1)/\CU c o (x*2+1)=ι κ ((c.e x).2:Int):=by
 have:x=0 \/x=1:=eh;rcases this with rfl|rfl<;>exact⟨rfl,rfl⟩
theorem Cf(y:Yt)(n:iP)(D:Nat)(i d many:Int)(w:dY)(h:jG w y n)(hT:jf w)(iN:j3 n D 0)(hD:D<=900000000):
 eW eX 101 #[π (μ ⟨y.N,0,ν⟩),ι κ i,ι κ d,ι κ many] w λe w'=>e=ρ (jm (n.deliver i d many).2)/\iF w w' y (n.deliver i d many).1 n.n:=by
 have hh:=NW y n i d w h;rcases NV i d n.nc with⟨hn,hi⟩|⟨c,k,hc,hk,rfl,rfl⟩
 ·have hE:n.deliver i d many=(n,6):=by unfold iP.deliver;rw[ai hi]
  rw[hE];rw[hn]at hh;have HW:Hid _:=iF.refl h;clear h iN hT
  go_in
  go_wp2_with(fail);refine hh.mono ?_;rintro e w1 ⟨rfl,rfl⟩;clear hh
  go_wp2
  go_ret;exact⟨rfl,HW.out⟩
 ·rw[Vq hc hk]at hh;obtain⟨q,hq⟩:=gg (min many.toNat ((n.C c).on k).length);have hE:n.deliver (c:Int) (k:Int) many=((n.jo c k q).gather,0):=by
   unfold iP.deliver;rw[af eh,Int.toNat_natCast,Int.toNat_natCast,hq]
  rw[hE];have e0:jm 0=η:=rfl;rw[e0];obtain⟨a,cp,vS,Lr⟩:=h.cvs;obtain⟨g,hg,rfl⟩:=Lr c hc;have kX:=iN.jo (D:=D) (k:=0) (c:=c) (d:=k) (q:=q) eh hc hk;have hG:Hid (∀W,iF w W y (n.jo c k q) n.n->eW eX 111 #[π (μ ⟨y.N,0,ν⟩)] W λe w'=>e=ρ (τ #[])/\iF w w' y (n.jo c k q).gather n.n):=by
   intro W V;refine V.call λy1 R1 s1=> ?_;rw[<-s1.N];exact sM y1 _ _ _ W R1 kX eh eh
  obtain⟨x,hx⟩:=gg (1-k);have C2:x<2:=eh;have J:=λW=>Rs k hk W;rw[hx]at J;obtain⟨j,p,S⟩:∃j p,(n.C c).e x=(j,p):=⟨_,_,rfl⟩
  have HF:Hid (∀W,eE w W->W.cell? ⟨y.N,3,ν⟩=μ (σ (μ ⟨g,0,ν⟩) n.nc cp)/\W.cell? ⟨g,c*7+x*2,ν⟩=μ (ι κ ((j:Int)+1))/\W.cell? ⟨g,c*7+x*2+1,ν⟩=μ (ι κ (p:Int))):=by
   intro W hb;have R1:=h.below hb;have h3:=R1.k3;rw[vS]at h3;have h4:=(R1.rc g hg c hc).cell (x*2) eh;have h5:=(R1.rc g hg c hc).cell (x*2+1) eh;obtain⟨g1,g2⟩:=YV (n.C c) (y.ov c) x C2;rw[g1,S]at h4;rw[g2,S]at h5;exact⟨h3,h4,h5⟩
  have HH:Hid _:=h;have HT:Hid _:=hT;have Qx:Hid _:=iN;have HG:Hid _:=hg;have HJP:Hid _:=S;have HX:Hid _:=hx;have HQ:Hid _:=hq;have c9:=h.c9;have jX:(c:Int)<(n.nc:Int):=eh;have rF:(0:Int)<=(c:Int):=eh;have vC:(x:Int)<2:=eh;have hx0:(0:Int)<=(x:Int):=eh;obtain⟨nc,tX⟩:=gg (n.nc);rw[tX]at HF jX c9;obtain⟨M,E⟩:=gg (y.N);rw[E]at HF hh⊢;have Q:Hid _:=E;have HC:Hid _:=hc;clear h iN hT vS Lr kX hE S tX hq E hc hg;have U:=HF.out w.drew (iZ w);have gl:g<w.drew.heap.size:=ag _ _ U.2.1;have Nl:M<w.drew.heap.size:=ag _ _ U.1;have gne:g≠w.heap.size:=by have:g<w.heap.size:=gl;omega
  have Nne:M≠w.heap.size:=by have:M<w.heap.size:=Nl;omega
  go_in
  go_wp2_with(fail);refine hh.mono ?_;rintro e w1 ⟨rfl,rfl⟩;clear hh
  go_wp2
  go_cut [9] (λv Z=>∃Y:Nat,v=π (μ ⟨Y,0,ν⟩)/\Z.cell? ⟨Y,0,ν⟩=μ (ι κ ((j:Int)+1))/\Z.cell? ⟨Y,1,ν⟩=μ (ι κ (p:Int))/\eE w Z/\w.heap.size<=Y)
  case first=>
   go_region_held3(λx'=>x'.cell? ⟨M,3,ν⟩=μ (σ (μ ⟨g,0,ν⟩) nc cp)/\x'.cell? ⟨g,c*7+x*2,ν⟩=μ (ι κ ((j:Int)+1))/\x'.cell? ⟨g,c*7+x*2+1,ν⟩=μ (ι κ (p:Int)))
    (first|assumption|exact U|exact Ce U|exact N7 (Ce U) Nne gne gne)
    (first|(go_at_call 156;refine(J _).mono ?_;rintro e w1 ⟨rfl,rfl⟩))
   all_goals
    go_wp2_with(fail)
    go_meet
    have hB:iX (w.alloc (γ #[ι κ ((j:Int)+1),ι κ (p:Int)] 192)).drew w.heap.size #[ι κ ((j:Int)+1),ι κ (p:Int)] 192:=(iX.new w _ _).drew;exact⟨_,rfl,hB.cell 0,hB.cell 1,jD (gW _ _),Nat.le_refl _⟩
  case rest=>
   obtain⟨Y,rfl,y0,y1,r9,hY⟩:=hcut
   rename dY=>Z
   have R3:=HH.out.below r9;have hT3:jf Z:=jf.below (w:=w) HT.out r9;have Yl:=ag _ _ y0;have hYn:¬y.all n.n Y:=λe=>by
    have:=HH.out.Cc e;omega
   obtain⟨n1,mM⟩:=gg (n.lq c {n.C c with on:=jU (n.C c).on k (((n.C c).on k).drop q)});have Ap:n1.n=n.n:=by rw[<-mM];rfl
   have agh:n1.nc=n.nc:=by rw[<-mM];rfl
   have OD:j<n.n:=by have:=(Qx.out.en c x HC.out C2).1;rw[HJP.out]at this;exact this
   have agi:(n.C c).e (1-k)=(j,p):=by rw[HX.out];exact HJP.out
   have hF3:=HF.out;have FW:∀(W:dY) (n':iP),n'.nc=n.nc->iF Z W y n' n.n->W.cell? ⟨Y,0,ν⟩=μ (ι κ ((j:Int)+1))/\W.cell? ⟨Y,1,ν⟩=μ (ι κ (p:Int))/\W.cell? ⟨M,3,ν⟩=μ (σ (μ ⟨g,0,ν⟩) nc cp):=by
    intro W n' hn' V;have uL:=V.kept.block Y Yl hYn;refine⟨(aj (a:=⟨Y,0,ν⟩) uL).trans y0,(aj (a:=⟨Y,1,ν⟩) uL).trans y1,?_⟩;have h3:=(hF3 Z r9).1;have k3:=R3.k3;rw[Q.out,h3]at k3;have k4:=V.k3;rw[hn',<-Option.some.inj k3,Q.out]at k4;exact k4
   have H:∀(b:Bool) (W:dY),zR Z y n n1 j (y.z j).R b W->W.cell? ⟨Y,0,ν⟩=μ (ι κ ((j:Int)+1))/\W.cell? ⟨Y,1,ν⟩=μ (ι κ (p:Int))/\W.cell? ⟨M,3,ν⟩=μ (σ (μ ⟨g,0,ν⟩) nc cp):=by
    intro b W V;refine FW W _ ?_ V.1;cases b
    ·rfl
    ·exact agh
   have hat:=λ(b:Bool) (W:dY) (V:zR Z y n n1 j (y.z j).R b W)=>RQ Z y n n1 j p (y.z j).R b W Ap OD V;have A:=λ(W:dY) (V:zR Z y n n1 j (y.z j).R false W)=>Lv Z y n D c k g j (y.z j).R many W Qx.out HC.out hk HG.out n1 (by rw[HQ.out];exact mM) V;have X:∀(W:dY),zR Z y n n1 j (y.z j).R true W->eW eX 23 #[π (μ ⟨(y.z j).R,0,ν⟩),ι κ (p:Int),.string ⟨(((n.C c).on k).take q).toArray⟩] W λe w'=>e=ρ η/\iF Z w' y (n.jo c k q) n.n/\(w'.cell? ⟨Y,0,ν⟩=μ (ι κ ((j:Int)+1))/\w'.cell? ⟨Y,1,ν⟩=μ (ι κ (p:Int))/\w'.cell? ⟨M,3,ν⟩=μ (σ (μ ⟨g,0,ν⟩) nc cp)):=by
    intro W V;refine(Lw Z y n D c k j p (y.z j).R q W Qx.out hD R3 hT3 HC.out hk agi n1 mM V).mono ?_;rintro e w' ⟨rfl,hw⟩;exact⟨rfl,hw,FW w' (n.jo c k q) rfl hw⟩
   rw[HQ.out]at A;have t0:zR Z y n n1 j (y.z j).R false Z.drew:=⟨iF.still R3 (iZ Z),(aj (a:=⟨y.gR,j,ν⟩) rfl).trans (R3.ptr OD)⟩
   have U:=H _ _ t0;have Gh:Hid _:=r9;generalize (y.z j).R=RR at hat A X t0 H;generalize (⟨(((n.C c).on k).take q).toArray⟩:ByteArray)=sx at A X;obtain⟨T,hTe⟩:=gg (zR Z y n n1 j RR);obtain⟨T2,agj⟩:∃T2:dY->Prop,(λw'=>iF Z w' y (n.jo c k q) n.n)=T2:=⟨_,rfl⟩
   have G:∀x,iF Z x y (n.jo c k q) n.n=T2 x:=λx=>ct agj x;have HT2:Hid _:=G;simp only[G]at X;rw[hTe]at hat A X t0 H;rw[Q.out]at hat;have Yl2:Y<Z.drew.heap.size:=Yl;have cl2:=ag _ _ U.2.2;clear FW mM Ap agh hF3 R3 hT3 hYn hTe agj G agi y0 y1 r9 U J;have U:=H _ _ t0
   go_wp2
   go_region_held3(λx'=>x'.cell? ⟨Y,0,ν⟩=μ (ι κ ((j:Int)+1))/\x'.cell? ⟨Y,1,ν⟩=μ (ι κ (p:Int))/\x'.cell? ⟨M,3,ν⟩=μ (σ (μ ⟨g,0,ν⟩) nc cp))
    (first|assumption|exact U|exact F1|exact F2|exact F3)
    (first
     |(go_at_call 157;refine(hat _ _ je).mono ?_;rintro e w1 ⟨rfl,t1⟩;have F1:=H _ _ t1)
     |(go_at_call 158;refine(A _ je).mono ?_;rintro e w2 ⟨rfl,t2⟩;have F2:=H _ _ t2)
     |(go_at_call 23;refine(X _ je).mono ?_;rintro e w3 ⟨rfl,t3,F3⟩))
   all_goals
    have xI:=t3;rw[<-HT2.out]at xI;have kE:=hG.out _ (iF.first Gh.out xI);rw[Q.out]at kE;clear xI hat A X t0 t1 t2 t3 H U F1 F2 F3;go_wp2_with(fail);refine kE.mono ?_;rintro e w4 ⟨rfl,PB⟩;have HW:Hid _:=PB;clear kE PB
    go_wp2
    go_ret;exact⟨rfl,HW.out⟩
