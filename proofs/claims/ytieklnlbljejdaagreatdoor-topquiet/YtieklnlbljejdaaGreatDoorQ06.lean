import Derived.Test.YtieklnlbljejdaaGreatDoorQ05
open Go.Value renaming int → ι, slice → σ, pointer → π, tuple → τ, nilIface → η
open Go.IntKind renaming i64 → κ
open Go.Ending renaming returned → ρ
open Go.Obj renaming cells → γ
open Option renaming none → ν, some → μ
open Go renaming Value → dT, World → dR, Calls → eT
open Go.Proofs.Tryz renaming prog → eU
open List renaming range → fR, length_cons → eM, length_nil → eN, foldl_nil → fT
open Go.RowKit renaming wrap64 → fS
open ByteArray renaming empty → fF
open Go.Value renaming ownBlock → dV
set_option maxRecDepth 100000
set_option maxHeartbeats 8000000
namespace Go.Proofs.YtieklnlbljejdaaGreatDoor
open Go.RowKit
variable {B g m o:Nat} {F G:Nat->Value} {d e:Bool} {l:List UInt8} {v:Value} {w w':World}
def LS.tell(s:LS)(code:Int)(os:List jG):LS:=if 6<=s.st then {s with ns:=(oC code os (s.ns,s.nm)).1,nm:=(oC code os (s.ns,s.nm)).2}else s
def sQ(s:LS)(code id:Int)(os:List jG):LS×List kG×Nat:=
 if id≠s.ow then(s,[],6)else if code=2 then(if os≠nL s.qs s.qm then(s,[],6)else r7 s 8 (0,id,[]))else r7 (s.tell code os) 9 (0,id,[])
theorem LQ(B:Nat)(X:Nat->Prop)(s:LS)(v:dT)(ps:List PV)(code id:Int)(a:Option Addr)(n cap:Nat)(os:List jG)(w:dR)(hT:iV w)(yk:B≠0)(V8:v.ownBlock≠μ 0)(h:qF w B X s v ps)(hb:Bd s 100)(hn:ps.length<=50)
 (ho:iU w a n os) (BO:n<=1000):
 eT eU 212 #[π (μ ⟨B,0,ν⟩),.agg #[ι κ code,ι κ id,σ a n cap]] w λe w'=>e=ρ (jb (sQ s code id os).2.2)/\mW w w' B X (sQ s code id os).1 v ps (sQ s code id os).2.1:=by
 have hk:=gN w (γ #[ι κ code,ι κ id,σ a n cap] 37);have hA:=λj=>aj w #[ι κ code,ι κ id,σ a n cap] 37 (0,0) j;have hl:=h.lk.lt;have M:=h.below hk;have hz:∀w:dR,(zeroValue 37).run eU w=.ok (.agg #[ι κ 0,ι κ 0,σ ν 0 0]) w:=λw=>gL;obtain⟨U,j0⟩:=fW (w.alloc (γ #[ι κ code,ι κ id,σ a n cap] 37));obtain⟨Z,hZ⟩:=fW (w.heap.size);have d0:U.cell? ⟨Z,0,ν⟩=μ (ι κ code):=by rw[<-j0,<-hZ];exact hA 0
 have d1:U.cell? ⟨Z,1,ν⟩=μ (ι κ id):=by rw[<-j0,<-hZ];exact hA 1
 have d2:U.cell? ⟨Z,2,ν⟩=μ (σ a n cap):=by rw[<-j0,<-hZ];exact hA 2
 rw[j0]at M hk;have HW:Hid _:=j0;have HZ:Hid _:=hZ;have HBZ:Hid (B≠Z):=by show B≠Z;omega
 clear hA j0 hZ hl;have c2:U.cell? ⟨B,2,ν⟩=μ (ι κ s.ns):=M.lk.cell 2;have c3:U.cell? ⟨B,3,ν⟩=μ (ι κ s.nm):=M.lk.cell 3;have c4:U.cell? ⟨B,4,ν⟩=μ (ι κ s.qs):=M.lk.cell 4;have c5:U.cell? ⟨B,5,ν⟩=μ (ι κ s.qm):=M.lk.cell 5;have c6:U.cell? ⟨B,6,ν⟩=μ (ι κ s.st):=M.lk.cell 6;have Sc:U.cell? ⟨B,10,ν⟩=μ (ι κ s.ow):=M.lk.cell 10;have VY:=M.lk.lt;have H:Z<U.heap.size:=af U _ d1;cases Q8:(id !=s.ow)
 ·have qd:id=s.ow:=by simpa using Q8
  cases h22:(code==2)
  ·have FD:code≠2:=by simpa using h22
   have y:sQ s code id os=r7 (s.tell code os) 9 (0,id,[]):=by
    unfold sQ;rw[ae (by simpa using qd),ae FD]
   rw[y];clear y FD qd;by_cases h6:6<=s.st
   ·have et:s.tell code os={s with ns:=(oC code os (s.ns,s.nm)).1,nm:=(oC code os (s.ns,s.nm)).2}:=by unfold LS.tell;rw[ag h6]
    rw[et];clear et;have A:=λ(W:dR) (hW:eh w W)=>RI s.ns s.nm code a n cap os W dU (ho.below hW);generalize (oC code os (s.ns,s.nm)).1=ts at A⊢;generalize (oC code os (s.ns,s.nm)).2=tm at A⊢;obtain⟨E,hE⟩:=fW (jb (r7 {s with ns:=ts,nm:=tm} 9 (0,id,[])).2.2);obtain⟨S',ZG⟩:∃S',(r7 {s with ns:=ts,nm:=tm} 9 (0,id,[])).1=S':=⟨_,rfl⟩
    obtain⟨O',ZH⟩:∃O',(r7 {s with ns:=ts,nm:=tm} 9 (0,id,[])).2.1=O':=⟨_,rfl⟩
    rw[hE,ZG,ZH];have HE:Hid _:=And.intro hE (And.intro ZG ZH);have HTo:Hid _:=A;clear hE ZG ZH A
    go_in
    go_wp2_with(fail);rw[HW.out,HZ.out]
    go_quiet(fail)
    go_wp2_with(fail);obtain⟨Y,J⟩:=fW (U.drewN nq);have V:eh U Y:=by rw[<-J];exact below_drewN (au _ _) _
    rw[J];have Q:=M.below V;have e0:Y.cell? ⟨Z,0,ν⟩=μ (ι κ code):=(V.cell (p:=⟨Z,0,ν⟩) H).trans d0;have e1:Y.cell? ⟨Z,1,ν⟩=μ (ι κ id):=(V.cell (p:=⟨Z,1,ν⟩) H).trans d1;have e2:Y.cell? ⟨Z,2,ν⟩=μ (σ a n cap):=(V.cell (p:=⟨Z,2,ν⟩) H).trans d2;have f2:Y.cell? ⟨B,2,ν⟩=μ (ι κ s.ns):=Q.lk.cell 2;have f3:Y.cell? ⟨B,3,ν⟩=μ (ι κ s.nm):=Q.lk.cell 3;have ac1:=Q.lk.lt;have Hh:Z<Y.heap.size:=af Y _ e1;have Yc:=fY hk V;have HR2:Hid _:=Q;have hC:=HTo.out Y.drew (jt Yc);clear d0 d1 d2 c2 c3 c4 c5 c6 Sc M J V VY H Q HTo
    go_region_with(go_at_call 231;refine hC.mono ?_;rintro e T ⟨rfl,b3⟩;have O4:eh Y T:=fY (jt (au _ _)) b3;have R3:=HR2.out.below O4;have g2:T.cell? ⟨B,2,ν⟩=μ (ι κ s.ns):=R3.lk.cell 2;have g3:T.cell? ⟨B,3,ν⟩=μ (ι κ s.nm):=R3.lk.cell 3;have gf:∀j,T.frozen? ⟨B,j,ν⟩=false:=R3.lk.frozen;have gl:=R3.lk.lt;have z1:T.cell? ⟨Z,1,ν⟩=μ (ι κ id):=(O4.cell (p:=⟨Z,1,ν⟩) Hh).trans e1)
    all_goals
     have R4:qF ((T.setCell ⟨B,2,ν⟩ (ι κ ts)).setCell ⟨B,3,ν⟩ (ι κ tm)) B X {s with ns:=ts,nm:=tm} v ps:=(R3.kX 2 _ {s with ns:=ts} rfl).kX 3 _ _ rfl;have K4:Kept w ((T.setCell ⟨B,2,ν⟩ (ι κ ts)).setCell ⟨B,3,ν⟩ (ι κ tm)) B v.ownBlock:=ku (ku (Kept.iJ B _ (fY Yc O4)) 2 _) 3 _;have D:=tG B X {s with ns:=ts,nm:=tm} v ps ⟨0,id,ν,0,0,[]⟩ 9 _ (K4.tab hT yk V8) R4 ⟨hb.o1,hb.o2,hb.l1,hb.l2⟩ (qt _ _ _ _ _) hn;have EF:PV.abs ⟨0,id,ν,0,0,[]⟩=(0,id,[]):=rfl;rw[EF,HE.out.1,HE.out.2.1,HE.out.2.2]at D;clear EF HE R4 R3 hC;have amC:Z<T.heap.size:=af T _ z1;have xK:=HBZ.out;go_wp2_with(fail);refine D.mono ?_;rintro e w5 ⟨rfl,hW⟩;clear D
     go_wp2
     go_ret;exact⟨rfl,hW.from K4⟩
   ·have et:s.tell code os=s:=by unfold LS.tell;rw[ae h6]
    rw[et];clear et
    go_in
    go_wp2_with(fail);rw[HW.out,HZ.out]
    go_quiet(fail)
    obtain⟨Y,J⟩:=fW (U.drewN nq);have V:eh U Y:=by rw[<-J];exact below_drewN (au _ _) _
    rw[J];have Q:=M.below V;have e0:Y.cell? ⟨Z,0,ν⟩=μ (ι κ code):=(V.cell (p:=⟨Z,0,ν⟩) H).trans d0;have e1:Y.cell? ⟨Z,1,ν⟩=μ (ι κ id):=(V.cell (p:=⟨Z,1,ν⟩) H).trans d1;have f6:Y.cell? ⟨B,6,ν⟩=μ (ι κ s.st):=Q.lk.cell 6;have ac1:=Q.lk.lt;have Hh:Z<Y.heap.size:=af Y _ e1;have Yc:=fY hk V;have D:=tG B X s v ps ⟨0,id,ν,0,0,[]⟩ 9 _ (hT.below Yc) Q hb (qt _ _ _ _ _) hn;clear d0 d1 d2 c2 c3 c4 c5 c6 Sc M J V VY H Q;go_wp2_with(fail);refine D.mono ?_;rintro e w5 ⟨rfl,hW⟩;clear D
    go_wp2
    go_ret;exact⟨rfl,hW.from (Kept.iJ B v.ownBlock Yc)⟩
  ·have FD:code=2:=by simpa using h22
   subst FD;have HID:Hid _:=qd;clear h22 qd
   go_in
   go_wp2_with(fail);rw[HW.out,HZ.out]
   go_quiet(fail)
   go_wp2_with(fail);obtain⟨Y,J⟩:=fW (U.drewN nq);have V:eh U Y:=by rw[<-J];exact below_drewN (au _ _) _
   rw[J];have Q:=M.below V;have e0:Y.cell? ⟨Z,0,ν⟩=μ (ι κ 2):=(V.cell (p:=⟨Z,0,ν⟩) H).trans d0;have e1:Y.cell? ⟨Z,1,ν⟩=μ (ι κ id):=(V.cell (p:=⟨Z,1,ν⟩) H).trans d1;have e2:Y.cell? ⟨Z,2,ν⟩=μ (σ a n cap):=(V.cell (p:=⟨Z,2,ν⟩) H).trans d2;have f4:Y.cell? ⟨B,4,ν⟩=μ (ι κ s.qs):=Q.lk.cell 4;have f5:Y.cell? ⟨B,5,ν⟩=μ (ι κ s.qm):=Q.lk.cell 5;have ac1:=Q.lk.lt;have Hh:Z<Y.heap.size:=af Y _ e1;have Yc:=fY hk V;clear d0 d1 d2 c2 c3 c4 c5 c6 Sc M J V VY H Q8
   go_region_with(first
    |(go_at_call 224;refine(IU s.qs s.qm _).mono ?_;rintro e T ⟨u,rfl,hM⟩;obtain⟨ua,uc,rfl,un,ul⟩:=hM.shape;have k3:=hM.below;have g2:T.cell? ⟨Z,2,none⟩=some (.slice a n cap):=(k3.cell (p:=⟨Z,2,none⟩) Hh).trans e2)
    |(go_at_call 230;refine(zT a ua cap uc n _ os (nL s.qs s.qm) T (ho.below (fY (jt Yc) k3)) hM.opts.2 dU (by have:=FF s.qs s.qm;omega)).mono ?_;rintro e w4 ⟨rfl,m4,rfl⟩))
   all_goals
    have k04:eh w (T.drewN m4):=below_drewN (fY (jt Yc) k3) m4;have k24:eh Y (T.drewN m4):=below_drewN (fY (jt (au _ _)) k3) m4;have R4:=Q.below k24;have g1:(T.drewN m4).cell? ⟨Z,1,ν⟩=μ (ι κ id):=(k24.cell (p:=⟨Z,1,ν⟩) Hh).trans e1;have amD:Z<(T.drewN m4).heap.size:=af _ _ g1;have D:=tG B X s v ps ⟨0,id,ν,0,0,[]⟩ 8 _ (hT.below k04) R4 hb (qt _ _ _ _ _) hn;have ZJ:Hid _:=R4;clear Q R4 k24 hM;by_cases Ff:os=nL s.qs s.qm
    ·have hd:decide (os=nL s.qs s.qm)=true:=by simp[Ff]
     have y:sQ s 2 id os=r7 s 8 (0,id,[]):=by
      unfold sQ;rw[ae (by simpa using HID.out),ag rfl,ae (by simpa using Ff)]
     clear Ff
     try rw[hd]
     go_wp2_with(fail);refine D.mono ?_;rintro e w5 ⟨rfl,hW⟩;clear D
     go_wp2
     go_ret;rw[y];exact⟨rfl,hW.from (Kept.iJ B v.ownBlock k04)⟩
    ·have hd:decide (os=nL s.qs s.qm)=false:=by simp[Ff]
     have y:sQ s 2 id os=(s,[],6):=by
      unfold sQ;rw[ae (by simpa using HID.out),ag rfl,ag Ff]
     clear Ff D
     try rw[hd]
     go_wp2
     go_ret;rw[y];exact⟨rfl,mW.still ZJ.out (Kept.iJ B v.ownBlock k04)⟩
 ·have qd:id≠s.ow:=by simpa using Q8
  have y:sQ s code id os=(s,[],6):=by
   unfold sQ;rw[ag qd]
  rw[y];clear y qd
  go_in
  go_wp2_with(fail);rw[HW.out,HZ.out]
  go_quiet(fail)
  go_wp2
  go_ret;exact⟨rfl,mW.still (M.below (below_drewN (au _ _) _)) (Kept.iJ B v.ownBlock (below_drewN hk _))⟩
def jA(s:LS)(p:kG):LS×List kG×Nat:=
 if jJ p.1 p.2.1 p.2.2≠0 then(s,[],jJ p.1 p.2.1 p.2.2)else if p.1=1 then tH s p.2.1 p.2.2 else if p.1=5 then r7 s 10 (0,p.2.1,[])else if p.1=6 then r7 s 11 (0,p.2.1,[])else sQ s p.1 p.2.1 p.2.2
theorem SQ(B:Nat)(X:Nat->Prop)(s:LS)(v:dT)(ps:List PV)(p:PV)(w:dR)(hT:iV w)(yk:B≠0)(V8:v.ownBlock≠μ 0)(h:qF w B X s v ps)(hb:Bd s 100)(hn:ps.length<=50)(hp:uP w X v p)(m1:0<=s.nm)(m2:s.nm<=255):
 eT eU 185 #[π (μ ⟨B,0,ν⟩),.agg #[ι κ p.code,ι κ p.id,σ p.a p.n p.cap]] w λe w'=>e=ρ (jb (jA s p.abs).2.2)/\mW w w' B X (jA s p.abs).1 v ps (jA s p.abs).2.1:=by
 obtain⟨code,id,a,n,cap,os⟩:=p;obtain⟨J,j5,y,ug,uh⟩:=hp;simp only at J j5 y ug;have A:∀k,tZ a n=μ k->¬X k/\v.ownBlock≠μ k/\k<w.heap.size:=uh;have EF:PV.abs ⟨code,id,a,n,cap,os⟩=(code,id,os):=rfl;rw[EF];have H:=gN w (γ #[ι κ code,ι κ id,σ a n cap] 37);have hA:=λj=>aj w #[ι κ code,ι κ id,σ a n cap] 37 (0,0) j;have hC:=tD code id a n cap os _ dU y (J.below H);have hz:∀w:dR,(zeroValue 37).run eU w=.ok (.agg #[ι κ 0,ι κ 0,σ ν 0 0]) w:=λw=>gL;obtain⟨Z,hZ⟩:=fW (w.heap.size);have V:∀j,(w.alloc (γ #[ι κ code,ι κ id,σ a n cap] 37)).cell? ⟨Z,j,ν⟩= #[ι κ code,ι κ id,σ a n cap][j]? :=by rw[<-hZ];exact hA
 have U:Z<(w.alloc (γ #[ι κ code,ι κ id,σ a n cap] 37)).heap.size:=by simp;omega
 have HZ:Hid _:=hZ;clear hA hZ uh EF;by_cases D:jJ code id os=0
 ·have e0:jb 0=η:=rfl;rw[D,e0]at hC;have main:∀(ev:Int),∀Y:dR,eh w Y->eT eU 171 #[π (μ ⟨B,0,ν⟩),ι κ ev,.agg #[ι κ 0,ι κ id,σ ν 0 0]] Y λe w'=>e=ρ (jb (r7 s ev (0,id,[])).2.2)/\mW w w' B X (r7 s ev (0,id,[])).1 v ps (r7 s ev (0,id,[])).2.1:=by
   intro ev Y k;refine(tG B X s v ps ⟨0,id,ν,0,0,[]⟩ ev Y (hT.below k) (h.below k) hb (qt _ _ _ _ _) hn).mono ?_;rintro e w' ⟨rfl,T⟩;exact⟨rfl,T.from (Kept.iJ B v.ownBlock k)⟩
  have Q:jA s (code,id,os)=if code=1 then tH s id os else if code=5 then r7 s 10 (0,id,[])else if code=6 then r7 s 11 (0,id,[])else sQ s code id os:=by
   unfold jA;rw[ae (by simpa using D)]
  rw[Q];clear Q D e0;by_cases h1:code=1
  ·subst h1;rw[ag rfl];have HH:∀Y:dR,eh w Y->eT eU 211 #[π (μ ⟨B,0,ν⟩),.agg #[ι κ 1,ι κ id,σ a n cap]] Y λe w'=>e=ρ (jb (tH s id os).2.2)/\mW w w' B X (tH s id os).1 v ps (tH s id os).2.1:=by
    intro Y k;refine(Jx B X s v ps id a n cap os Y (hT.below k) (h.below k) hb hn (J.below k) (λj M8=>by obtain⟨q1,q2,q3⟩:=A j M8;exact⟨q1,q2,Nat.lt_of_lt_of_le q3 k.size⟩) j5 dU m1 m2).mono ?_;rintro e w' ⟨rfl,T⟩;exact⟨rfl,T.from (Kept.iJ B v.ownBlock k)⟩
   clear main A h J
   go_in
   go_wp2_with(fail);refine hC.mono ?_;rintro e w1 ⟨rfl,k1⟩;have d0:w1.cell? ⟨Z,0,ν⟩=μ (ι κ 1):=(k1.cell (p:=⟨Z,0,ν⟩) U).trans (V 0);have d1:w1.cell? ⟨Z,1,ν⟩=μ (ι κ id):=(k1.cell (p:=⟨Z,1,ν⟩) U).trans (V 1);have d2:w1.cell? ⟨Z,2,ν⟩=μ (σ a n cap):=(k1.cell (p:=⟨Z,2,ν⟩) U).trans (V 2);have Ox:Z<w1.heap.size:=af w1 _ d0;have M:=HH w1 (fY H k1);clear hC V U HH;rw[HZ.out];go_wp2_with(fail);refine M.mono ?_;rintro e w2 ⟨rfl,T⟩;clear M
   go_wp2
   go_ret;exact⟨rfl,T⟩
  ·rw[ae h1];have b1:(code==1)=false:=by simpa using h1
   by_cases h5:code=5
   ·subst h5;rw[ag rfl];clear A h J
    go_in
    go_wp2_with(fail);refine hC.mono ?_;rintro e w1 ⟨rfl,k1⟩;have d0:w1.cell? ⟨Z,0,ν⟩=μ (ι κ 5):=(k1.cell (p:=⟨Z,0,ν⟩) U).trans (V 0);have d1:w1.cell? ⟨Z,1,ν⟩=μ (ι κ id):=(k1.cell (p:=⟨Z,1,ν⟩) U).trans (V 1);have Ox:Z<w1.heap.size:=af w1 _ d0;have M:=main 10 w1 (fY H k1);clear hC V U main;rw[HZ.out];go_wp2_with(fail);refine M.mono ?_;rintro e w2 ⟨rfl,T⟩;clear M
    go_wp2
    go_ret;exact⟨rfl,T⟩
   ·rw[ae h5];have b5:(code==5)=false:=by simpa using h5
    by_cases u:code=6
    ·subst u;rw[ag rfl];clear A h J
     go_in
     go_wp2_with(fail);refine hC.mono ?_;rintro e w1 ⟨rfl,k1⟩;have d0:w1.cell? ⟨Z,0,ν⟩=μ (ι κ 6):=(k1.cell (p:=⟨Z,0,ν⟩) U).trans (V 0);have d1:w1.cell? ⟨Z,1,ν⟩=μ (ι κ id):=(k1.cell (p:=⟨Z,1,ν⟩) U).trans (V 1);have Ox:Z<w1.heap.size:=af w1 _ d0;have M:=main 11 w1 (fY H k1);clear hC V U main;rw[HZ.out];go_wp2_with(fail);refine M.mono ?_;rintro e w2 ⟨rfl,T⟩;clear M
     go_wp2
     go_ret;exact⟨rfl,T⟩
    ·rw[ae u];have b6:(code==6)=false:=by simpa using u
     have HH:∀Y:dR,eh w Y->eT eU 212 #[π (μ ⟨B,0,ν⟩),.agg #[ι κ code,ι κ id,σ a n cap]] Y λe w'=>e=ρ (jb (sQ s code id os).2.2)/\mW w w' B X (sQ s code id os).1 v ps (sQ s code id os).2.1:=by
      intro Y k;refine(LQ B X s v ps code id a n cap os Y (hT.below k) yk V8 (h.below k) hb hn (J.below k) dU).mono ?_;rintro e w' ⟨rfl,T⟩;exact⟨rfl,T.from (Kept.iJ B v.ownBlock k)⟩
     clear main A h J h1 h5 u
     go_in
     go_wp2_with(fail);refine hC.mono ?_;rintro e w1 ⟨rfl,k1⟩;have d0:w1.cell? ⟨Z,0,ν⟩=μ (ι κ code):=(k1.cell (p:=⟨Z,0,ν⟩) U).trans (V 0);have d1:w1.cell? ⟨Z,1,ν⟩=μ (ι κ id):=(k1.cell (p:=⟨Z,1,ν⟩) U).trans (V 1);have d2:w1.cell? ⟨Z,2,ν⟩=μ (σ a n cap):=(k1.cell (p:=⟨Z,2,ν⟩) U).trans (V 2);have Ox:Z<w1.heap.size:=af w1 _ d0;have M:=HH w1 (fY H k1);clear hC V U HH;rw[HZ.out];go_wp2_with(fail);refine M.mono ?_;rintro e w2 ⟨rfl,T⟩;clear M
     go_wp2
     go_ret;exact⟨rfl,T⟩
 ·have Q:jA s (code,id,os)=(s,[],jJ code id os):=by
   unfold jA;rw[ag D]
  rw[Q];have ee:jb (jJ code id os)=.iface 128 (ι κ (jJ code id os:Int)):=by simp only[jb];rw[ae D]
  simp only[ee]at hC⊢;have HR:Hid (∀Y:dR,eh w Y->qF Y B X s v ps):=λY k=>h.below k;clear Q D ee h J;generalize jJ code id os=f at hC⊢
  go_in
  go_wp2_with(fail);refine hC.mono ?_;rintro e w1 ⟨rfl,k1⟩;clear hC
  go_wp2
  go_ret;exact⟨rfl,mW.still (HR.out _ (fY H k1)) (Kept.iJ B v.ownBlock (fY H k1))⟩
def kL(s:LS)(ev:Int):LS×List kG×Nat:=if ev=0 \/ev=1 \/ev=2 \/ev=3 then r7 s ev (0,0,[])else(s,[],1)
theorem ZK(ev:Int)(B:Nat)(X:Nat->Prop)(s:LS)(v:dT)(ps:List PV)(w:dR)(Y:iV w)(h:qF w B X s v ps)(hb:Bd s 100)(U:ps.length<=50):
 eT eU 120 #[π (μ ⟨B,0,ν⟩),ι κ ev] w λe w'=>e=ρ (jb (kL s ev).2.2)/\mW w w' B X (kL s ev).1 v ps (kL s ev).2.1:=by
 have hz:=rM;have hc:=tG B X s v ps ⟨0,0,ν,0,0,[]⟩ ev w Y h hb (qt _ _ _ _ _) U;by_cases Z:ev=0 \/ev=1 \/ev=2 \/ev=3
 ·have e:kL s ev=r7 s ev (0,0,[]):=by unfold kL;rw[ag Z]
  rw[e];clear h Y hb e;rcases Z with rfl|rfl|rfl|rfl
  all_goals
   go_in
   go_wp2_with(fail);refine hc.mono ?_;rintro e w1 ⟨rfl,T⟩;clear hc
   go_wp2
   go_ret;exact⟨rfl,T⟩
 ·have e:kL s ev=(s,[],1):=by unfold kL;rw[ae Z]
  rw[e];have b0:(ev==0)=false:=by simp;omega
  have b1:(ev==1)=false:=by simp;omega
  have b2:(ev==2)=false:=by simp;omega
  have b3:(ev==3)=false:=by simp;omega
  have V:Hid (mW w w B X s v ps []):=mW.still h (Kept.refl _ _ _);clear hc h Y hb e Z
  go_in
  go_wp2
  go_ret;exact⟨rfl,V.out⟩
def Wa:List UInt8->Int->Int
 |[],x=>x
 |c::r,x=>Wa r (if c=105 then 4 else if c=122 then 0 else if c=114 then x-1 else if c=116 then x-1 else x)
def Wc:List UInt8->Int->Int
 |[],x=>x
 |c::r,x=>Wc r (if c=105 then x else if c=122 then 3 else if c=114 then 3 else if c=116 then 3 else x)
theorem FG:∀(L:List UInt8) (s:LS),0<=s.ow->s.ow<=255->(qb L s).st=s.st/\(qb L s).sz=s.sz/\(qb L s).fs=s.fs/\(qb L s).fm=s.fm/\(qb L s).ns=s.ns/\(qb L s).nm=s.nm/\(qb L s).lf=Wa L s.lf/\(qb L s).wt=Wc L s.wt/\0<=(qb L s).ow/\(qb L s).ow<=255
 |[],s,h1,h2=>⟨rfl,rfl,rfl,rfl,rfl,rfl,rfl,rfl,h1,h2⟩
 |c::r,s,h1,h2=>by
  have e:qb (c::r) s=qb r (pB c s):=rfl;have X:(pB c s).st=s.st/\(pB c s).sz=s.sz/\(pB c s).fs=s.fs/\(pB c s).fm=s.fm/\(pB c s).ns=s.ns/\(pB c s).nm=s.nm/\(pB c s).lf=(if c=105 then 4 else if c=122 then 0 else if c=114 then s.lf-1 else if c=116 then s.lf-1 else s.lf)/\(pB c s).wt=(if c=105 then s.wt else if c=122 then 3 else if c=114 then 3 else if c=116 then 3 else s.wt)/\0<=(pB c s).ow/\(pB c s).ow<=255:=by
   by_cases c1:c=105
   ·subst c1;exact⟨rfl,rfl,rfl,rfl,rfl,rfl,rfl,rfl,h1,h2⟩
   ·by_cases c2:c=122
    ·subst c2;exact⟨rfl,rfl,rfl,rfl,rfl,rfl,rfl,rfl,h1,h2⟩
    ·by_cases c3:c=114
     ·subst c3;exact⟨rfl,rfl,rfl,rfl,rfl,rfl,rfl,rfl,by show 0<=(s.ow+1) %256;omega,by show(s.ow+1) %256<=255;omega⟩
     ·by_cases c4:c=116
      ·subst c4;exact⟨rfl,rfl,rfl,rfl,rfl,rfl,rfl,rfl,by show 0<=(s.ow+1) %256;omega,by show(s.ow+1) %256<=255;omega⟩
      ·have J:pB c s=s:=by simp[pB,c1,c2,c3,c4]
       rw[J,ae c1,ae c2,ae c3,ae c4,ae c1,ae c2,ae c3,ae c4];exact⟨rfl,rfl,rfl,rfl,rfl,rfl,rfl,rfl,h1,h2⟩
  obtain⟨H,p2,p3,V,D,p6,y,A,M,Z⟩:=X;obtain⟨q1,q2,U,h,u,q6,T,j,Q,Y⟩:=FG r (pB c s) M Z;rw[e];exact⟨q1.trans H,q2.trans p2,U.trans p3,h.trans V,u.trans D,q6.trans p6,by rw[T,y];rfl,by rw[j,A];rfl,Q,Y⟩
def wR(st lf wt:Int):Bool:=decide (0<=st)&&decide (st<=9)&&decide (0<=lf)&&decide (lf<=4)&& (!(decide (st=7)||decide (st=9))||decide (lf=4))&&decide (0<=wt)&&decide (wt<=3)&& (!(decide (4<=st)&&decide (st<=8))||decide (1<=wt))
theorem rN(st lf wt:Int):wR st lf wt=true↔(0<=st/\st<=9/\0<=lf/\lf<=4/\(st=7 \/st=9->lf=4)/\0<=wt/\wt<=3/\(4<=st/\st<=8->1<=wt)):=by
 simp only[wR,Bool.and_eq_true,Bool.or_eq_true,Bool.not_eq_true',decide_eq_true_eq,decide_eq_false_iff_not,Bool.or_eq_false_iff,Bool.and_eq_false_iff];constructor
 ·rintro⟨⟨⟨⟨⟨⟨⟨a,b⟩,c⟩,d⟩,e⟩,f⟩,g⟩,h⟩;exact⟨a,b,c,d,dU,f,g,dU⟩
 ·rintro⟨a,b,c,d,e,f,g,h⟩;exact⟨⟨⟨⟨⟨⟨⟨a,b⟩,c⟩,d⟩,dU⟩,f⟩,g⟩,dU⟩
theorem ZL:((fR 12).all λe=>(fR 10).all λs=>(fR 5).all λl=>(fR 4).all λt=> !(e !=4&&e !=5&&wR (s:Int) (l:Int) (t:Int)&& ((kV s e).2.2==0))||wR (kV s e).2.1 (Wa (kV s e).1 (l:Int)) (Wc (kV s e).1 (t:Int)))=true:=by decide+kernel
theorem SS(e:Nat)(Y:e<12)(s:Nat)(hs:s<10)(l:Nat)(hl:l<5)(t:Nat)(Q:t<4)(h:e≠4/\e≠5/\wR (s:Int) (l:Int) (t:Int)=true/\(kV s e).2.2=0):wR (kV s e).2.1 (Wa (kV s e).1 (l:Int)) (Wc (kV s e).1 (t:Int))=true:=by
 have Z:=aX.1 (aX.1 (aX.1 (aX.1 ZL e (aS.2 Y)) s (aS.2 hs)) l (aS.2 hl)) t (aS.2 Q);obtain⟨U,X,V,T⟩:=h;have b4:(e !=4)=true:=by simpa using U
 have b5:(e !=5)=true:=by simpa using X
 have b7:((kV s e).2.2==0)=true:=by simpa using T
 rw[b4,b5,V,b7]at Z;simpa using Z
theorem Jz:∀s:Nat,s<10->∀l:Nat,l<5->(4<=s/\s<=8/\1<=l/\wR (s:Int) (l:Int) 1=true)->wR (kV s 4).2.1 (Wa (kV s 4).1 (l:Int)) (Wc (kV s 4).1 0)=true:=by decide+kernel
theorem JA:∀s:Nat,s<10->(4<=s/\s<=8/\wR (s:Int) 0 1=true)->wR (kV s 5).2.1 (Wa (kV s 5).1 0) (Wc (kV s 5).1 0)=true:=by decide+kernel
structure yK(s:LS):Prop where
 ok:wR s.st s.lf s.wt=true
 o1:0<=s.ow
 o2:s.ow<=255
 m1:0<=s.nm
 m2:s.nm<=255
 f1:0<=s.fm
 f2:s.fm<=255
theorem yK.bd {s:LS} (h:yK s):Bd s 100:=by
 obtain⟨a,b,c,d,_⟩:=(rN _ _ _).1 h.ok;exact⟨h.o1,h.o2,dU,dU⟩
theorem yK.wt {s:LS} (h:yK s):0<=s.wt/\s.wt<=3:=by
 obtain⟨_,_,_,_,_,a,b,_⟩:=(rN _ _ _).1 h.ok;exact⟨a,b⟩
theorem xL {s:LS} (h1:0<=s.ow)(h2:s.ow<=255)(m1:0<=s.nm)(m2:s.nm<=255)(f1:0<=s.fm)(f2:s.fm<=255)(ev:Int)(Y:wR (ja s.st ev).2.1 (Wa (ja s.st ev).1 s.lf) (Wc (ja s.st ev).1 s.wt)=true):yK (nD s ev):=by
 unfold nD;obtain⟨D,nx,f,J⟩:∃D nx f,ja s.st ev=(D,nx,f):=⟨_,_,_,rfl⟩
 rw[J]at Y⊢;simp only at Y⊢;have H:(s.next nx).st=nx/\(s.next nx).lf=s.lf/\(s.next nx).wt=s.wt/\(s.next nx).ow=s.ow/\(s.next nx).fm=s.fm/\((s.next nx).nm=s.nm \/(s.next nx).nm=s.fm):=by
  unfold LS.next;split
  ·exact⟨rfl,rfl,rfl,rfl,rfl,.inr rfl⟩
  ·exact⟨rfl,rfl,rfl,rfl,rfl,.inl rfl⟩
 obtain⟨n1,Q,n3,n4,X,n6⟩:=H;obtain⟨q1,_,_,V,_,q6,T,M,U,Z⟩:=FG D (s.next nx) dU dU;refine⟨by rw[q1,T,M,n1,Q,n3];exact Y,U,Z,?_,?_,by rw[V,X];exact f1,by rw[V,X];exact f2⟩
 ·rw[q6];rcases n6 with e|e<;>rw[e] <;>assumption
 ·rw[q6];rcases n6 with e|e<;>rw[e] <;>assumption
theorem yK.ev {s:LS} (h:yK s)(e:Nat)(Z:e<12)(T:e≠4)(U:e≠5)(yG:kG):yK (r7 s e yG).1:=by
 by_cases hf:(ja s.st e).2.2=0
 ·rw[sP _ hf];obtain⟨a,b,c,d,_,f,g,_⟩:=(rN _ _ _).1 h.ok;refine xL h.o1 h.o2 h.m1 h.m2 h.f1 h.f2 e ?_;have X:=h.ok;obtain⟨st,Y⟩:∃st:Nat,s.st=st:=⟨s.st.toNat,dU⟩
  obtain⟨l,hl⟩:∃l:Nat,s.lf=l:=⟨s.lf.toNat,dU⟩
  obtain⟨t,V⟩:∃t:Nat,s.wt=t:=⟨s.wt.toNat,dU⟩
  rw[Y]at hf;rw[mQ st e dU Z]at hf;rw[Y,hl,V,mQ st e dU Z];rw[Y,hl,V]at X;exact SS e Z st dU l dU t dU ⟨T,U,X,hf⟩
 ·rw[vz _ hf];exact h
theorem yK.kL {s:LS} (h:yK s)(ev:Int):yK (kL s ev).1:=by
 unfold Go.Proofs.YtieklnlbljejdaaGreatDoor.kL;split
 ·rename_i Z
  rcases Z with rfl|rfl|rfl|rfl
  ·exact h.ev 0 dX dX dX _
  ·exact h.ev 1 dX dX dX _
  ·exact h.ev 2 dX dX dX _
  ·exact h.ev 3 dX dX dX _
 ·exact h
theorem yK.tick {s:LS} (h:yK s):yK (j6 s):=by
 obtain⟨a,b,c,d,J,f,g,M⟩:=(rN _ _ _).1 h.ok;unfold j6;by_cases H:4<=s.st/\s.st<=8
 ·rw[ae (by simp;omega)];by_cases T:0<s.wt-1
  ·rw[ag T];exact⟨(rN _ _ _).2 ⟨a,b,c,d,J,by show 0<=s.wt-1;omega,by show s.wt-1<=3;omega,λ_=>by show 1<=s.wt-1;omega⟩,h.o1,h.o2,h.m1,h.m2,h.f1,h.f2⟩
  ·rw[ae T];have Q:s.wt=1:=by have:=M H;omega
   have U:s.wt-1=0:=dU;have Y:=h.ok;obtain⟨st,Z⟩:∃st:Nat,s.st=st:=⟨s.st.toNat,dU⟩
   obtain⟨l,hl⟩:∃l:Nat,s.lf=l:=⟨s.lf.toNat,dU⟩
   by_cases X:0<s.lf
   ·rw[ag X];refine xL (s:={s with wt:=s.wt-1}) h.o1 h.o2 h.m1 h.m2 h.f1 h.f2 4 ?_;show wR (ja s.st 4).2.1 (Wa (ja s.st 4).1 s.lf) (Wc (ja s.st 4).1 (s.wt-1))=true;rw[U,Z,hl,show(4:Int)=((4:Nat):Int)from rfl,mQ st 4 dU dX];rw[Z,hl,Q]at Y;exact Jz st dU l dU ⟨dU,dU,dU,Y⟩
   ·rw[ae X];refine xL (s:={s with wt:=s.wt-1}) h.o1 h.o2 h.m1 h.m2 h.f1 h.f2 5 ?_;show wR (ja s.st 5).2.1 (Wa (ja s.st 5).1 s.lf) (Wc (ja s.st 5).1 (s.wt-1))=true;have V:s.lf=0:=dU;rw[U,Z,V,show(5:Int)=((5:Nat):Int)from rfl,mQ st 5 dU dX];rw[Z,V,Q]at Y;exact JA st dU ⟨dU,dU,Y⟩
 ·rw[ag (by simp;omega)];exact h
theorem Df:∀(os seen:List jG),pD seen os=0->∀o∈os,xI o.1=true/\xI o.2=true
 |[],_,_=>λo Z=>by simp at Z
 |o::r,seen,h=>by
  unfold pD at h;split at h
  ·simp at h
  ·rename_i Y
   split at h
   ·simp at h
   ·intro x hx;rcases aQ.1 hx with rfl|hx
    ·simpa using Y
    ·exact Df r (seen++ [o]) h x hx
theorem JB {code id:Int} {os:List jG} (h:jJ code id os=0):∀o∈os,xI o.1=true/\xI o.2=true:=by
 unfold jJ at h;split at h
 ·simp at h
 ·split at h
  ·simp at h
  ·split at h
   ·simp at h
   ·exact Df os [] h
theorem ND(code:Int):∀(os:List jG) (p:Int×Int),(∀o∈os,xI o.1=true/\xI o.2=true)->0<=p.2->p.2<=255->0<=(oC code os p).2/\(oC code os p).2<=255
 |[],_,_,h1,h2=>⟨h1,h2⟩
 |o::r,p,hb,h1,h2=>by
  have e:oC code (o::r) p=oC code r (jW code p o):=rfl;rw[e];have Y:=(Ch o.2).1 (hb o gO).2;have Z:0<=(jW code p o).2/\(jW code p o).2<=255:=by
   unfold jW;split
   ·split
    ·exact⟨h1,h2⟩
    ·split
     ·exact⟨Int.le_refl _,show(0:Int)<=255 by decide⟩
     ·exact⟨h1,h2⟩
   ·split
    ·split
     ·exact⟨h1,h2⟩
     ·split
      ·exact Y
      ·exact⟨h1,h2⟩
    ·exact⟨h1,h2⟩
  exact ND code r _ (λx hx=>hb x (by simp[hx])) Z.1 Z.2
theorem yK.sized {s:LS} (h:yK s)(os:List jG):yK (s.sized os):=by
 unfold LS.sized;split
 ·exact⟨h.ok,h.o1,h.o2,h.m1,h.m2,h.f1,h.f2⟩
 ·exact h
theorem yK.jA {s:LS} (h:yK s)(p:kG):yK (jA s p).1:=by
 unfold Go.Proofs.YtieklnlbljejdaaGreatDoor.jA;split
 ·exact h
 ·rename_i Y
  have Z:jJ p.1 p.2.1 p.2.2=0:=by simpa using Y
  split
  ·unfold tH;split
   ·split
    ·exact(h.ev 6 dX dX dX _).sized _
    ·exact h.ev 6 dX dX dX _
   ·exact h.ev 7 dX dX dX _
  ·split
   ·exact h.ev 10 dX dX dX _
   ·split
    ·exact h.ev 11 dX dX dX _
    ·unfold sQ;split
     ·exact h
     ·split
      ·split
       ·exact h
       ·exact h.ev 8 dX dX dX _
      ·have X:yK (s.tell p.1 p.2.2):=by
        unfold LS.tell;split
        ·have:=ND p.1 p.2.2 (s.ns,s.nm) (JB Z) h.m1 h.m2;exact⟨h.ok,h.o1,h.o2,this.1,this.2,h.f1,h.f2⟩
        ·exact h
       exact X.ev 9 dX dX dX _
def pP(w:dR)(g o m:Nat)(F:Nat->dT):Prop:=∀j,j<m->w.cell? ⟨g,o+j,ν⟩=μ (F j)/\w.frozen? ⟨g,o+j,ν⟩=false
def r9(F:Nat->dT)(i:Nat)(v:dT):Nat->dT:=λj=>if j=i then v else F j
theorem ph(F:Nat->dT)(i:Nat)(v:dT):r9 F i v i=v:=by simp[r9]
theorem jz(F:Nat->dT) {i j:Nat} (v:dT)(h:j≠i):r9 F i v j=F j:=by simp[r9,h]
theorem lS(w:dR)(a x:Addr)(v:dT):(w.setCell a v).frozen? x=w.frozen? x:=gO
theorem pP.cell {w:dR} {g o m:Nat} {F:Nat->dT} (h:pP w g o m F)(j:Nat)(Z:j<m):w.cell? ⟨g,o+j,ν⟩=μ (F j):=(h j Z).1
theorem pP.fz(h:pP w g o m F)(j:Nat)(Z:j<m):w.frozen? ⟨g,o+j,ν⟩=false:=(h j Z).2
theorem pP.lt(h:pP w g o m F)(Z:0<m):g<w.heap.size:=af w _ (h.cell 0 Z)
theorem pP.set(h:pP w g o m F)(i:Nat)(hi:i<m)(v:dT):pP (w.setCell ⟨g,o+i,ν⟩ v) g o m (r9 F i v):=by
 intro j Z;refine⟨?_,(lS _ _ _ _).trans (h.fz j Z)⟩;by_cases e:j=i
 ·subst e;rw[ph];exact World.cell?_setCell_same _ _ _ (h.cell j Z)
 ·rw[jz F v e,aU _ _ _ _ (λe=>by have:=congrArg Addr.off e;simp at this;omega)];exact h.cell j Z
theorem pP.keep(h:pP w g o m F)(hb:w'.heap[g]? =w.heap[g]?):pP w' g o m F:=λj Z=>by
 refine⟨(ai (a:=⟨g,o+j,ν⟩) hb).trans (h.cell j Z),?_⟩;have:w'.frozen? ⟨g,o+j,ν⟩=w.frozen? ⟨g,o+j,ν⟩:=by
  simp only[World.frozen?,hb]
 exact this.trans (h.fz j Z)
theorem pP.below(h:pP w g o m F)(Z:0<m)(hb:eh w w'):pP w' g o m F:=h.keep (hb.block g (h.lt Z))
theorem pP.sub(h:pP w g o m F)(a k:Nat)(hk:a+k<=m):pP w g (o+a) k (λj=>F (a+j)):=λj hj=>by
 have:=h (a+j) dU;rw[Nat.add_assoc];exact this
theorem pP.congr(h:pP w g o m F)(e:∀j,j<m->F j=G j):pP w g o m G:=λj Z=>by rw[<-e j Z];exact h j Z
structure kS(w w':dR)(g o m:Nat):Prop where
 os:w'.os=w.os
 tape:w'.tape=w.tape
 output:w'.output=w.output
 size:w.heap.size<=w'.heap.size
 block:∀i,i<w.heap.size->i≠g->w'.heap[i]? =w.heap[i]?
 cell:∀j,j<o \/o+m<=j->w'.cell? ⟨g,j,ν⟩=w.cell? ⟨g,j,ν⟩
 fz:∀j,w'.frozen? ⟨g,j,ν⟩=w.frozen? ⟨g,j,ν⟩
theorem kS.refl(w:dR)(g o m:Nat):kS w w g o m:=⟨rfl,rfl,rfl,Nat.le_refl _,λ_ _ _=>rfl,λ_ _=>rfl,λ_=>rfl⟩
theorem kS.trans {a b c:dR} {g o m:Nat} (h:kS a b g o m)(k:kS b c g o m):kS a c g o m:=
 ⟨k.os.trans h.os,k.tape.trans h.tape,k.output.trans h.output,Nat.le_trans h.size k.size,λi hi Z=>(k.block i (Nat.lt_of_lt_of_le hi h.size) Z).trans (h.block i hi Z),λj Y=>(k.cell j Y).trans (h.cell j Y),λj=>(k.fz j).trans (h.fz j)⟩
theorem kS.set {x:dR} (h:kS w x g o m)(j:Nat)(h1:o<=j)(h2:j<o+m)(v:dT):kS w (x.setCell ⟨g,j,ν⟩ v) g o m:=by
 have b1:Below 0 x (x.setCell ⟨g,j,ν⟩ v):=(au 0 x).setCell (Nat.zero_le _) _;exact⟨b1.os.trans h.os,b1.tape.trans h.tape,b1.output.trans h.output,Nat.le_trans h.size b1.size,λi hi Z=>(aq _ _ _ i Z).trans (h.block i hi Z),
  λi hi=>(aU _ _ _ _ (λe=>by have:=congrArg Addr.off e;simp at this;omega)).trans (h.cell i hi),λi=>(lS _ _ _ _).trans (h.fz i)⟩
theorem kS.drewN {w x:dR} {g o m:Nat} (h:kS w x g o m)(n:Nat):kS w (x.drewN n) g o m:=⟨h.os,h.tape,h.output,h.size,h.block,h.cell,h.fz⟩
theorem kS.drew {w x:dR} {g o m:Nat} (h:kS w x g o m):kS w x.drew g o m:=⟨h.os,h.tape,h.output,h.size,h.block,h.cell,h.fz⟩
theorem pP.join {a k:Nat} (h:pP w g o m F)(X:kS w w' g (o+a) k)(V:pP w' g (o+a) k G):pP w' g o m (λj=>if a<=j/\j<a+k then G (j-a)else F j):=λj Y=>by
 by_cases e:a<=j/\j<a+k
 ·have Z:=V (j-a) dU;have U:o+a+(j-a)=o+j:=dU;rw[U]at Z;simp only[if_pos e];exact Z
 ·simp only[if_neg e];exact⟨(X.cell (o+j) dU).trans (h.cell j Y),(X.fz _).trans (h.fz j Y)⟩
open Plain
structure Cj(F:Nat->dT)(l:List UInt8)(e d:Bool):Prop where
 len:l.length<=62
 live:∀i:Nat,i<62->∃x:Int,F i=.int .u8 x
 body:∀(i:Nat) (h:i<l.length),F i=.int .u8 (l[i].toNat:Int)
 many:F 62=ι κ (l.length:Int)
 esc:F 63=.bool e
 bad:F 64=.bool d
def Rd(w:dR)(g o:Nat)(l:List UInt8)(e d:Bool):Prop:=∃F,pP w g o 65 F/\Cj F l e d
theorem Cj.Hj(h:Cj F l e d)(d':Bool):Cj (r9 F 64 (.bool d')) l e d':=by
 have hlen:=h.len;refine⟨hlen,λi hi=> ?_,λi hi=> ?_,?_,?_,ph _ _ _⟩
 ·obtain⟨x,hx⟩:=h.live i hi;exact⟨x,by rw[jz _ _ dU];exact hx⟩
 ·rw[jz _ _ dU];exact h.body i hi
 ·rw[jz _ _ dU];exact h.many
 ·rw[jz _ _ dU];exact h.esc
theorem Cj.LU(h:Cj F l e d)(e':Bool):Cj (r9 F 63 (.bool e')) l e' d:=by
 have hlen:=h.len;refine⟨hlen,λi hi=> ?_,λi hi=> ?_,?_,ph _ _ _,?_⟩
 ·obtain⟨x,hx⟩:=h.live i hi;exact⟨x,by rw[jz _ _ dU];exact hx⟩
 ·rw[jz _ _ dU];exact h.body i hi
 ·rw[jz _ _ dU];exact h.many
 ·rw[jz _ _ dU];exact h.bad
theorem Cj.push(h:Cj F l e d)(hl:l.length<62)(c:UInt8):
 Cj (r9 (r9 F l.length (.int .u8 (c.toNat:Int))) 62 (ι κ ((l.length:Int)+1))) (l++ [c]) e d:=by
 refine⟨by simp;omega,λi hi=> ?_,λi hi=> ?_,?_,?_,?_⟩
 ·rw[jz _ _ dU];by_cases Z:i=l.length
  ·rw[Z,ph];exact⟨_,rfl⟩
  ·rw[jz _ _ Z];exact h.live i hi
 ·have kB:i<l.length+1:=by simpa using hi
  rw[jz _ _ dU];by_cases Z:i=l.length
  ·subst Z;rw[ph];simp
  ·rw[jz _ _ Z,h.body i dU,List.getElem_append_left dU]
 ·rw[ph];simp
 ·rw[jz _ _ dU,jz _ _ dU];exact h.esc
 ·rw[jz _ _ dU,jz _ _ dU];exact h.bad
def rk:List UInt8×Bool×Bool->UInt8->List UInt8×Bool×Bool
 |(l,e,d),c=>
  if c<32 \/(c=125/\e=true)then(l,e,true)
  else if c=125 then(l,true,d)
  else if l.length=62 then(l,false,true)
  else(l++ [if e then c^^^32 else c],false,d)
theorem SU(g o:Nat)(l:List UInt8)(e d:Bool)(c:UInt8)(w:dR)(h:Rd w g o l e d):
 eT eU 182 #[π (μ ⟨g,o,ν⟩),.int .u8 (c.toNat:Int)] w λe' w'=>e'=ρ (τ #[])/\Rd w' g o (rk (l,e,d) c).1 (rk (l,e,d) c).2.1 (rk (l,e,d) c).2.2/\kS w w' g o 65:=by
 obtain⟨F,hC,J⟩:=h;have T:Hid _:=J;have hlen:=J.len;have M:c<32↔(c.toNat:Int)<32:=by rw[UInt8.lt_iff_toNat_lt];show c.toNat<32↔_;omega
 have Q:c=125↔((c.toNat:Int)==125)=true:=by
  rw[<-UInt8.toNat_inj,dN];show c.toNat=125↔_;omega
 have ac5:w.cell? ⟨g,o+62,ν⟩=μ (ι κ (l.length:Int)):=(hC.cell 62 dX).trans (congrArg μ J.many);have ahy:w.cell? ⟨g,o+63,ν⟩=μ (.bool e):=(hC.cell 63 dX).trans (congrArg μ J.esc);have vA:w.cell? ⟨g,o+64,ν⟩=μ (.bool d):=(hC.cell 64 dX).trans (congrArg μ J.bad);have Y:∀i,i<65->w.frozen? ⟨g,o+i,ν⟩=false:=λi hi=>hC.fz i hi;have f62:=Y 62 dX;have f63:=Y 63 dX;have f64:=Y 64 dX;have Jk:=hC.lt dX;have U:Hid (pP w g o 65 F):=hC;clear hC J;by_cases j:(c.toNat:Int)<32
 ·have X:rk (l,e,d) c=(l,e,true):=by simp[rk,M.mpr j]
  rw[X];clear M Q Y
  go_in
  go_wp2
  first|go_end0|refine iC rfl rfl ?_
  exact⟨rfl,⟨_,U.out.set 64 dX _,T.out.Hj true⟩,(kS.refl _ _ _ _).set _ dU dU _⟩
 ·have Z:¬c<32:=λx=>j (M.mp x);by_cases H:((c.toNat:Int)==125)=true
  ·have A:c=125:=Q.mpr H;cases e
   ·have X:rk (l,false,d) c=(l,true,d):=by simp[rk,A]
    rw[X];clear M Q A Z Y
    go_in
    go_wp2
    first|go_end0|refine iC rfl rfl ?_
    exact⟨rfl,⟨_,U.out.set 63 dX _,T.out.LU true⟩,(kS.refl _ _ _ _).set _ dU dU _⟩
   ·have X:rk (l,true,d) c=(l,true,true):=by simp[rk,A]
    rw[X];clear M Q A Z Y
    go_in
    go_wp2
    first|go_end0|refine iC rfl rfl ?_
    exact⟨rfl,⟨_,U.out.set 64 dX _,T.out.Hj true⟩,(kS.refl _ _ _ _).set _ dU dU _⟩
  ·have zP:((c.toNat:Int)==125)=false:=by simpa using H
   have D:¬c=125:=λx=>H (Q.mp x);have hx:=XO c;by_cases y:((l.length:Int)==62)=true
   ·have V:l.length=62:=by have:=dN.mp y;omega
    have X:rk (l,e,d) c=(l,false,true):=by simp[rk,D,Z,V]
    rw[X];have L62:Hid _:=V;clear M Q D Z V H Y;cases e
    ·go_in
     go_wp2
     first|go_end0|refine iC rfl rfl ?_
     exact⟨rfl,⟨_,U.out.set 64 dX _,T.out.Hj true⟩,(kS.refl _ _ _ _).set _ dU dU _⟩
    ·go_in
     go_wp2
     first|go_end0|refine iC rfl rfl ?_
     exact⟨rfl,⟨_,(U.out.set 63 dX _).set 64 dX _,(T.out.LU false).Hj true⟩,((kS.refl _ _ _ _).set _ dU dU _).set _ dU dU _⟩
   ·have sO:((l.length:Int)==62)=false:=by simpa using y
    have V:l.length<62:=by
     have:¬(l.length:Int)=62:=λe=>y (by simp[e]);omega
    have akb:(l.length:Int)<62:=dU;have X:rk (l,e,d) c=(l++ [if e then c^^^32 else c],false,d):=by simp[rk,D,Z,Nat.ne_of_lt V]
    rw[X];obtain⟨x,ZN⟩:=T.out.live _ V;have hcell:w.cell? ⟨g,o+l.length,ν⟩=μ (.int .u8 x):=(U.out.cell _ dU).trans (congrArg μ ZN);have fl:=Y l.length dU;clear M Q D Z H y ZN Y;cases e
    ·go_in
     go_wp2
     go_region
     go_wp2_with(fail)
     go_end0
     exact⟨rfl,⟨_,(U.out.set _ dU _).set 62 dX _,T.out.push V c⟩,(((kS.refl _ _ _ _).set _ dU dU _).set _ dU dU _).drew⟩
    ·go_in
     go_wp2
     go_region
     go_wp2_with(fail)
     go_end0
     refine⟨rfl,⟨_,((U.out.set 63 dX _).set _ dU _).set 62 dX _,?_⟩,((((kS.refl _ _ _ _).set _ dU dU _).set _ dU dU _).set _ dU dU _).drew⟩;have u:=(T.out.LU false).push V (c^^^32);rw[UInt8.toNat_xor]at u;exact u
def mX(l:List UInt8)(e d:Bool):List UInt8×Bool×Nat:=
 if d=true \/e=true then([],true,4)
 else if l.length=0 then([],false,0)
 else if l.length<2 then([],true,4)
 else if(Plain.sum (l.take (l.length-2)):Int)=((l.getD (l.length-2) 0).toNat:Int)+256*((l.getD (l.length-1) 0).toNat:Int)then(l.take (l.length-2),true,0)
 else([],true,5)
theorem ac6(s:ByteArray)(w:dR)(hs:s.size<=maxLen):
 eT eU 210 #[.string s] w λe w'=>e=ρ (ι κ (Plain.sum s.data.toList:Nat))/\w'=w:=(Nc s w hs).mono λ_ _ ⟨a,b⟩=>⟨a,b.symm⟩
theorem NF(a b:UInt8):fS (fS (a.toNat:Int)+fS (256*fS (b.toNat:Int)))=(a.toNat:Int)+256*(b.toNat:Int):=by
 have ha:=a.toNat_lt;have hb:=b.toNat_lt;rw[cA (a.toNat:Int) ⟨dU,dU⟩,cA (b.toNat:Int) ⟨dU,dU⟩,cA (256*(b.toNat:Int)) ⟨dU,dU⟩,cA _ ⟨dU,dU⟩]
theorem LW(l:List UInt8)(Y:¬l.length<2)
 (Z:(((Plain.sum (l.take (l.length-2)):Nat):Int) !=fS (fS ((l[l.length-2]'(by omega)).toNat:Int)+fS (256*fS ((l[l.length-1]'(by omega)).toNat:Int))))=true):mX l false false=([],true,5):=by
 rw[NF]at Z;have X:¬((Plain.sum (l.take (l.length-2)):Nat):Int)=((l[l.length-2]'(by omega)).toNat:Int)+256*((l[l.length-1]'(by omega)).toNat:Int):=by simpa using Z
 have V:l.getD (l.length-2) 0=l[l.length-2]'(by omega):=by simp[show l.length-2<l.length by omega]
 have U:l.getD (l.length-1) 0=l[l.length-1]'(by omega):=by simp[show l.length-1<l.length by omega]
 unfold mX;rw[ae gO,ae dU,ae Y,V,U,ae X]
theorem JC(l:List UInt8)(Y:¬l.length<2)
 (Z:(((Plain.sum (l.take (l.length-2)):Nat):Int) !=fS (fS ((l[l.length-2]'(by omega)).toNat:Int)+fS (256*fS ((l[l.length-1]'(by omega)).toNat:Int))))=false):mX l false false=(l.take (l.length-2),true,0):=by
 rw[NF]at Z;have X:((Plain.sum (l.take (l.length-2)):Nat):Int)=((l[l.length-2]'(by omega)).toNat:Int)+256*((l[l.length-1]'(by omega)).toNat:Int):=by simpa using Z
 have V:l.getD (l.length-2) 0=l[l.length-2]'(by omega):=by simp[show l.length-2<l.length by omega]
 have U:l.getD (l.length-1) 0=l[l.length-1]'(by omega):=by simp[show l.length-1<l.length by omega]
 unfold mX;rw[ae gO,ae dU,ae Y,V,U,ag X]
theorem yM:eU.arrayLen 137=62:=gL
theorem Dg:eU.underlying 137=μ (.array (eU.arrayLen 137) (eU.elem 137)):=gL
theorem LX(w:dR):(sizeOf (eU.elem 137)).run eU w=.ok 1 w:=gL
theorem O6(g o:Nat)(l:List UInt8)(e d:Bool)(w:dR)(h:Rd w g o l e d):
 eT eU 183 #[π (μ ⟨g,o,ν⟩)] w λe' w'=>e'=ρ (τ #[.string ⟨(mX l e d).1.toArray⟩,.bool (mX l e d).2.1,jb (mX l e d).2.2])/\∃n,w'=w.drewN n:=by
 obtain⟨F,hC,Y⟩:=h;have hlen:=Y.len;have ac5:w.cell? ⟨g,o+62,ν⟩=μ (ι κ (l.length:Int)):=(hC.cell 62 dX).trans (congrArg μ Y.many);have ahy:w.cell? ⟨g,o+63,ν⟩=μ (.bool e):=(hC.cell 63 dX).trans (congrArg μ Y.esc);have vA:w.cell? ⟨g,o+64,ν⟩=μ (.bool d):=(hC.cell 64 dX).trans (congrArg μ Y.bad);have X:∀i (h:i<l.length),w.cell? ⟨g,o+i,ν⟩=μ (.int .u8 (l[i].toNat:Int)):=λi h=>(hC.cell i dU).trans (congrArg μ (Y.body i h));have Jk:=hC.lt dX;clear hC Y;by_cases hd:d=true \/e=true
 ·have Z:mX l e d=([],true,4):=by simp[mX,hd]
  rw[Z];clear Z X;rcases hd with rfl|rfl
  ·go_in
   go_wp2
   go_ret3
   exact⟨rfl,0,rfl⟩
  ·cases d
   ·go_in
    go_wp2
    go_ret3
    exact⟨rfl,0,rfl⟩
   ·go_in
    go_wp2
    go_ret3
    exact⟨rfl,0,rfl⟩
 ·obtain⟨rfl,rfl⟩:d=false/\e=false:=by cases d<;>cases e<;>simp_all
  by_cases V:l.length=0
  ·have Z:mX l false false=([],false,0):=by simp[mX,V]
   rw[Z];have T:((l.length:Int)==0)=true:=by simp[V]
   have H0:Hid _:=V;clear Z X V hd
   go_in
   go_wp2
   go_ret3
   exact⟨rfl,0,rfl⟩
  ·have T:((l.length:Int)==0)=false:=by rw[cL];omega
   by_cases U:l.length<2
   ·have Z:mX l false false=([],true,4):=by simp[mX,V,U]
    rw[Z];clear Z X hd
    go_in
    go_wp2
    go_ret3
    exact⟨rfl,0,rfl⟩
   ·have hsl:∀W:dR,(Instr.sliceAt 137 (π (μ ⟨g,o,ν⟩)) ν (μ (ι κ ((l.length:Int)-2))) ν).run eU W=.ok (σ (μ ⟨g,o,ν⟩) (l.length-2) 62) W:=by
     intro W;rw[run_sliceAt_array_h W 137 ⟨g,o,ν⟩ Dg .i64 _ dU (by rw[yM];omega),LX,yM];have M:((l.length:Int)-2).toNat=l.length-2:=dU;simp[slicedAt,Result.andThen,M,mG]
    have uI:(convert 140 9 (σ (μ ⟨g,o,ν⟩) (l.length-2) 62)).run eU w=.ok (.string ⟨(l.take (l.length-2)).toArray⟩) w:=by
     have J:(l.take (l.length-2)).length=l.length-2:=gO;have:=dC (P:=eU) w 140 9 5 ⟨g,o,ν⟩ 62 (l.take (l.length-2)) Tryz.underlying140 Tryz.underlying5 Tryz.underlying9 (λj hj=>by
      rw[mG,X j dU];simp)
     rw[J]at this;exact this
    have hA:=X (l.length-2) dU;have hB:=X (l.length-1) dU;have tA:(((l.length:Int)-2).toNat)=l.length-2:=dU;have tB:(((l.length:Int)-2+1).toNat)=l.length-1:=dU;have H:(ByteArray.mk (l.take (l.length-2)).toArray).size<=maxLen:=by
     show(l.take (l.length-2)).toArray.size<=maxLen;unfold maxLen;simp;omega
    go_in
    go_wp2
    go_quiet((go_at_call 210;exact Calls.quiet_of_same (ac6 _ _ H)))
    go_wp2_with(fail)
    ·have Q:=LW l U iX;rw[Q]
     go_ret3
     exact⟨rfl,_,rfl⟩
    ·have Q:=JC l U iX;rw[Q]
     go_ret3
     exact⟨rfl,_,rfl⟩
def FI:Array dT:= #[] ++Array.replicate 62 (.int .u8 0)++ #[ι κ 0,.bool false,.bool false]
theorem ZO:(eU.info? 139).map (λi=>(i.zero,i.size))=μ (μ (.agg FI),65):=gL
theorem SW:(∀w,(zeroValue 139).run eU w=.ok (.agg FI) w)/\(eU.info? 139).map (·.size)=μ 65:=cD ZO
theorem yN:FI.size=65:=dX
def LY(j:Nat):dT:=FI.getD j (.bool false)
theorem Cj.zero:Cj LY [] false false:=by
 refine⟨gO,λi hi=>⟨0,?_⟩,λi hi=>by simp at hi,gL,gL,gL⟩;have h:FI[i]? =μ (.int .u8 0):=by
  unfold FI;rw[cJ (by simp;omega)];simp[hi]
 unfold LY;rw[dg,h];rfl
theorem Wi:∀v∈FI.toList,v.oneCell'=true:=by
 have:FI.toList.all (·.oneCell')=true:=gL;exact aX.mp this
theorem Dh(h:pP w g o 65 F):
 (storeCells ⟨g,o,ν⟩ FI.toList).run eU w=.ok () (w.setCells g o FI.toList)/\pP (w.setCells g o FI.toList) g o 65 LY/\kS w (w.setCells g o FI.toList) g o 65:=by
 have hl:FI.toList.length=65:=by simp[yN]
 have X:=run_storeCells_cells (P:=eU) g o FI.toList 0 w (λj Z=>by rw[Nat.add_zero,h.cell j dU];rfl) (λj Z=>by rw[Nat.add_zero];exact h.fz j dU) Wi;have T:∀(vs:List dT) (o:Nat) (w:dR),(w.setCells g o vs).heap.size=w.heap.size/\(w.setCells g o vs).os=w.os/\(w.setCells g o vs).tape=w.tape/\(w.setCells g o vs).output=w.output/\∀k,k≠g->(w.setCells g o vs).heap[k]? =w.heap[k]? :=by
  intro vs
  induction vs with
  |nil=>intro o w;exact⟨rfl,rfl,rfl,rfl,λ_ _=>rfl⟩
  |cons u r ih=>
   intro o w;have:=ih (o+1) (w.setCell ⟨g,o,ν⟩ u);have b1:Below 0 w (w.setCell ⟨g,o,ν⟩ u):=(au 0 w).setCell (Nat.zero_le _) _;refine⟨this.1.trans gO,this.2.1.trans b1.os,this.2.2.1.trans b1.tape,this.2.2.2.1.trans b1.output,λk Y=>(this.2.2.2.2 k Y).trans (aq _ _ _ k Y)⟩
 have B:=T FI.toList o w;refine⟨by simpa using X,λj Z=>⟨?_,?_⟩,⟨B.2.1,B.2.2.1,B.2.2.2.1,by rw[B.1];exact Nat.le_refl _,λi _ V=>B.2.2.2.2 i V,λj Z=>br g _ _ _ _ (λ_ _=>by show j<o \/o+FI.toList.length<=j;omega),λj=>bR g _ _ _ _⟩⟩
 ·have U:=bC g FI.toList o w (λk Y=>by rw[h.cell k dU];rfl) j dU;rw[U];unfold LY;rw[dg,dq (by rw[yN];exact Z)];simp
 ·exact(bR g _ _ _ _).trans (h.fz j Z)
def pE(l:List UInt8)(e d:Bool)(c:UInt8):List UInt8×Bool×Bool:=if c=126 then([],false,false)else rk (l,e,d) c
def pF(l:List UInt8)(e d:Bool)(c:UInt8):List UInt8×Bool×Nat:=if c=126 then mX l e d else([],false,0)
theorem O7(g o:Nat)(l:List UInt8)(e d:Bool)(c:UInt8)(w:dR)(h:Rd w g o l e d):
 eT eU 132 #[π (μ ⟨g,o,ν⟩),.int .u8 (c.toNat:Int)] w λe' w'=>e'=ρ (τ #[.string ⟨(pF l e d c).1.toArray⟩,.bool (pF l e d c).2.1,jb (pF l e d c).2.2])/\
  Rd w' g o (pE l e d c).1 (pE l e d c).2.1 (pE l e d c).2.2/\kS w w' g o 65:=by
 have X:c=126↔((c.toNat:Int)==126)=true:=by
  rw[<-UInt8.toNat_inj,dN];show c.toNat=126↔_;omega
 by_cases hc:c=126
 ·have H:((c.toNat:Int) !=126)=false:=by rw[bne,X.mp hc];rfl
  have Z:pF l e d c=mX l e d:=by simp[pF,hc]
  have Y:pE l e d c=([],false,false):=by simp[pE,hc]
  rw[Z,Y];clear Z Y X hc;have J:=O6 g o l e d w h;obtain⟨F,hC,V⟩:=h;have jY:∀n,(storeCells ⟨g,o,ν⟩ FI.toList).run eU (w.drewN n)=.ok () ((w.drewN n).setCells g o FI.toList):=λn=>(Dh (w:=w.drewN n) (F:=F) hC).1;have hz:=SW.1;have hZ:=yN;have M:Hid (pP w g o 65 F):=hC;clear V hC
  go_in
  go_wp2_with(go_at_call 183;refine J.mono ?_;rintro e' w' ⟨rfl,n,rfl⟩)
  go_ret3
  have U:=Dh (w:=w.drewN n) (F:=F) M.out;exact⟨rfl,⟨LY,U.2.1,Cj.zero⟩,((kS.refl w g o 65).drewN n).trans U.2.2⟩
 ·have H:((c.toNat:Int) !=126)=true:=by
   rw[bne];cases T:((c.toNat:Int)==126)
   ·rfl
   ·exact absurd (X.mpr T) hc
  have Z:pF l e d c=([],false,0):=by simp[pF,hc]
  have Y:pE l e d c=rk (l,e,d) c:=by simp[pE,hc]
  rw[Z,Y];clear Z Y X hc
  go_in
  go_wp2_with(go_at_call 182;refine(SU g o l e d c _ h).mono ?_;rintro e' w' ⟨rfl,V,Q⟩)
  go_ret3
  exact⟨rfl,V,Q⟩
abbrev kc:=List UInt8×Bool×Bool
def lT(a:List (List UInt8)×Nat×kc)(c:UInt8):List (List UInt8)×Nat×kc:=
 let t:=pF a.2.2.1 a.2.2.2.1 a.2.2.2.2 c
 let r:=pE a.2.2.1 a.2.2.2.1 a.2.2.2.2 c
 if t.2.2≠0 then(a.1,a.2.1+1,r)else if t.2.1=true then(a.1++ [t.1],a.2.1,r)else(a.1,a.2.1,r)
def j9(st:kc)(l:List UInt8):List (List UInt8)×Nat×kc:=l.foldl lT ([],0,st)
def strs(l:List (List UInt8)):List dT:=l.map λs=>Value.string ⟨s.toArray⟩
theorem O8(st:kc)(l:List UInt8)(c:UInt8):j9 st (l++ [c])=lT (j9 st l) c:=by simp[j9]
theorem SX(a:List (List UInt8)×Nat×kc)(c:UInt8):(lT a c).1.length+(lT a c).2.1<=a.1.length+a.2.1+1:=by
 unfold lT;simp only;split
 ·simp only;omega
 ·split
  ·simp only[List.length_append,eM,eN];omega
  ·simp only;omega
theorem JD:∀(l:List UInt8) (a:List (List UInt8)×Nat×kc),(l.foldl lT a).1.length+(l.foldl lT a).2.1<=a.1.length+a.2.1+l.length
 |[],a=>gO
 |c::l,a=>by
  have h1:=JD l (lT a c);have h2:=SX a c;simp only[List.foldl_cons,eM];omega
theorem Ck(st:kc)(l:List UInt8):(j9 st l).1.length+(j9 st l).2.1<=l.length:=by
 have:=JD l ([],0,st);unfold j9;simp only[eN]at this;omega
theorem Wk:(eU.info? 9).map (λi=>(i.zero,i.size,i.bytes))=μ (μ (.string fF),1,16):=gL
theorem S0 {w1 w2:dR} {ob:Obj} {g2 n cap2:Nat} (U:g<w.heap.size)(Q:∀k,v.ownBlock=μ k->w.heap.size<=k)(H:Rd w1 g o l e d)(Z:kS w w1 g o 65)
 (X:(w1.alloc ob).grownBy w2 v.ownBlock) (M:v.ownBlock=μ g2 \/w1.heap.size+1<=g2):
 (∀k,dV (σ (μ ⟨g2,0,ν⟩) n cap2)=μ k->w.heap.size<=k)/\Rd w2 g o l e d/\kS w w2 g o 65:=by
 have hs:=Z.size;have CW:(w1.alloc ob).heap.size=w1.heap.size+1:=gO;have Y:∀k,k<w.heap.size->w2.heap[k]? =w1.heap[k]? :=λk Y=>by
  rw[X.block k dU (λe=>by have:=Q k e.symm;omega)];exact aT w1 ob k dU
 refine⟨λk Y=> ?_,?_,⟨X.os.trans Z.os,X.tape.trans Z.tape,X.output.trans Z.output,by have:=X.size;omega,λk T V=>(Y k T).trans (Z.block k T V),λj J=>(ai (a:=⟨g,j,ν⟩) (Y g U)).trans (Z.cell j J),λj=>(aJ (a:=⟨g,j,ν⟩) (Y g U)).trans (Z.fz j)⟩⟩
 ·have:g2=k:=by simpa[dV]using Y
  rcases M with h|h
  ·have:=Q g2 h;omega
  ·omega
 ·obtain⟨F,hC,V⟩:=H;exact⟨F,hC.keep (Y g U),V⟩
theorem S1(g o:Nat)(st:kc)(s:ByteArray)(w:dR)(h:Rd w g o st.1 st.2.1 st.2.2)(hs:s.size<=100000):
 eT eU 78 #[π (μ ⟨g,o,ν⟩),.string s] w λe w'=>∃v,e=ρ (τ #[v,ι κ ((j9 st s.data.toList).2.1:Int)])/\
  Row w' 1 v (j9 st s.data.toList).1.length (strs (j9 st s.data.toList).1)/\(∀k,v.ownBlock=μ k->w.heap.size<=k)/\((j9 st s.data.toList).1=[]->v=σ ν 0 0)/\
  Rd w' g o (j9 st s.data.toList).2.2.1 (j9 st s.data.toList).2.2.2.1 (j9 st s.data.toList).2.2.2.2/\kS w w' g o 65:=by
 obtain⟨i0,hi,od,mK,mL⟩:=aY Wk;have Cf:g<w.heap.size:=by
  obtain⟨F,hC,_⟩:=h;exact hC.lt dX
 go_in
 go_wp2
 go_loopw [4,5,12] (λv n i wr=>∃(k:Nat) (A:List (List UInt8)×Nat×kc),A=j9 st (s.data.toList.take k)/\k<=s.size/\i=ι κ k/\n=ι κ (A.2.1:Int)/\
  Row wr 1 v A.1.length (strs A.1)/\(∀k,v.ownBlock=μ k->w.heap.size<=k)/\(A.1=[]->v=σ ν 0 0)/\Rd wr g o A.2.2.1 A.2.2.2.1 A.2.2.2.2/\kS w wr g o 65)
  (λ_ _ i _=>s.size-(intOf i).toNat)
 case atStart=>exact⟨0,_,rfl,Nat.zero_le _,rfl,rfl,Row.nil _ _,λk hk=>by simp[dV]at hk,λ_=>rfl,h,kS.refl _ _ _ _⟩
 case round=>
  obtain⟨k,A,hA,hk,rfl,rfl,H,U,Ye,hR,D⟩:=hrel;have j5:Hid _:=Ye;clear Ye;have u:Hid (A.1.length+A.2.1<=k):=by
   have:=Ck st (s.data.toList.take k);rw[<-hA]at this;have h2:(s.data.toList.take k).length<=k:=b9 _ _;exact(by omega:A.1.length+A.2.1<=k)
  have HA:Hid _:=hA;clear hA h;by_cases ka:k<s.size
  ·obtain⟨t,dn,Y,y⟩:∃t dn Y,pF A.2.2.1 A.2.2.2.1 A.2.2.2.2 s[k] =(t,dn,Y):=⟨_,_,_,rfl⟩
   obtain⟨R',JE⟩:∃R',pE A.2.2.1 A.2.2.2.1 A.2.2.2.2 s[k] =R':=⟨_,rfl⟩
   have T:eT eU 132 #[π (μ ⟨g,o,ν⟩),.int .u8 (s[k].toNat:Int)] wr λe' w'=>e'=ρ (τ #[.string ⟨t.toArray⟩,.bool dn,jb Y])/\
    Row w' 1 u4 A.1.length (strs A.1)/\Rd w' g o R'.1 R'.2.1 R'.2.2/\kS w w' g o 65:=by
    have hq:=O7 g o A.2.2.1 A.2.2.2.1 A.2.2.2.2 s[k] wr hR;rw[y,JE]at hq;refine hq.mono λe' w' ⟨h1,h2,h3⟩=>⟨h1,H.keep h3.size (λj hj=>h3.block j (H.lt j hj) (λe1=>by have:=U j hj;omega)),h2,D.trans h3⟩
   have J:(j9 st (s.data.toList.take (k+1))=if Y≠0 then(A.1,A.2.1+1,R')else if dn=true then(A.1++ [t],A.2.1,R')else(A.1,A.2.1,R')):=by
    have:s.data.toList.take (k+1)=s.data.toList.take k++ [s[k]] :=Fj s k ka;rw[this,O8,<-HA.out];unfold lT;simp only[y,JE]
   have HN:Hid _:=J;clear J;have hn:A.2.1<=100000:=by have:=u.out;omega
   clear y JE H hR D;by_cases Z:Y=0
   ·subst Z;have Q:jb 0=η:=rfl;rw[Q]at T;clear Q;cases dn
    ·go_wp2_with(go_at_call 132;refine T.mono ?_;rintro e w1 ⟨rfl,M,X,V⟩);go_roundw
     case rel=>exact⟨k+1,_,HN.out.symm,dU,by go_num,rfl,M,U,j5.out,X,V⟩
     case measure=>simp[intOf];omega
    ·have m1:A.1.length+1<=maxLen:=by have:=u.out;unfold maxLen;omega
     have b1:(A.1.length+1)*16<=140737488355328:=by have:=u.out;omega
     go_wp2_with(first
      |(go_at_call 132;refine T.mono ?_;rintro e w1 ⟨rfl,M,X,V⟩)
      |(at_builtin;go_must(refine iB _ rfl (.tmp 29) (.tmp 31) 164 rfl 9 i0 (.string fF) 1 16 Tryz.underlying164 hi od mK mL rfl dX u4 A.1.length (strs A.1) rfl (Row.alloc iX _) _ 1 1 [.string ⟨t.toArray⟩] rfl rfl dX (oX _ _ _) (K9 _) m1 b1 ?_)))
     intro g2 cap2 w2 rB rL kI;have hS:=S0 (n:=A.1.length+1) (cap2:=cap2) Cf U X V rL kI;clear rL kI M X V
     go_wp2
     go_roundw
     case rel=>exact⟨k+1,(A.1++ [t],A.2.1,R'),by rw[HN.out];rfl,dU,by go_num,rfl,by simpa[strs]using rB,hS.1,λh=>by simp at h,hS.2.1,hS.2.2⟩
     case measure=>simp[intOf];omega
   ·have Q:jb Y=.iface 128 (ι κ (Y:Int)):=by simp[jb,Z]
    rw[Q]at T;clear Q;go_wp2_with(go_at_call 132;refine T.mono ?_;rintro e w1 ⟨rfl,M,X,V⟩);go_roundw
    case rel=>exact⟨k+1,(A.1,A.2.1+1,R'),by rw[HN.out,ag Z],dU,by go_num,by go_num,M,U,j5.out,X,V⟩
    case measure=>simp[intOf];omega
  ·go_wp2
   have hA:j9 st s.data.toList=A:=by
    rw[HA.out,aG];show s.size<=k;omega
   rw[hA]
   go_ret2
   exact⟨u4,rfl,H,U,j5.out,hR,D⟩
theorem vC(s:ByteArray)(a b:Nat):(s.extract a b).data.toList=(s.data.toList.take b).drop a:=by
 rw[ByteArray.data_extract];simp[List.drop_take]
theorem O9:∀c:UInt8,qY c=true->(c^^^32≠126/\¬c^^^32<32/\c^^^32≠125)/\c^^^32^^^32=c:=by
 have h:∀n:Fin 256,qY (UInt8.ofNat n)=true->(UInt8.ofNat n^^^32≠126/\¬UInt8.ofNat n^^^32<32/\UInt8.ofNat n^^^32≠125)/\UInt8.ofNat n^^^32^^^32=UInt8.ofNat n:=by decide+kernel
 intro c;have:=h ⟨c.toNat,c.toNat_lt⟩;simpa using this
theorem JF:∀c:UInt8,qY c=false->c≠126/\¬c<32/\c≠125:=by
 intro c h;unfold qY at h;simp at h;exact⟨h.1.1,by rw[UInt8.lt_iff_toNat_lt];have:=h.2;rw[UInt8.le_iff_toNat_le]at this;omega,h.1.2⟩
theorem zW:∀(l:List UInt8) (o:List (List UInt8)) (n:Nat) (st:kc),l.foldl lT (o,n,st)=(o++(l.foldl lT ([],0,st)).1,n+(l.foldl lT ([],0,st)).2.1,(l.foldl lT ([],0,st)).2.2)
 |[],o,n,st=>gO
 |c::l,o,n,st=>by
  have key:∀(o:List (List UInt8)) (n:Nat),lT (o,n,st) c=(o++(lT ([],0,st) c).1,n+(lT ([],0,st) c).2.1,(lT ([],0,st) c).2.2):=by
   intro o n;unfold lT;simp only;split
   ·simp
   ·split<;>simp
  rw[bO,bO,key o n,zW l (o++_) _ _];obtain⟨x,y,z,e⟩:∃x y z,lT ([],0,st) c=(x,y,z):=⟨_,_,_,rfl⟩
  rw[e];simp only;rw[zW l x y z];simp[Nat.add_assoc]
theorem qG(st:kc)(a b:List UInt8):j9 st (a++b)=((j9 st a).1++(j9 (j9 st a).2.2 b).1,(j9 st a).2.1+(j9 (j9 st a).2.2 b).2.1,(j9 (j9 st a).2.2 b).2.2):=by
 unfold j9;rw[cQ];exact zW b _ _ _
theorem Di(o:List (List UInt8))(n:Nat)(l:List UInt8)(e d:Bool)(c:UInt8)(h:c≠126):lT (o,n,(l,e,d)) c=(o,n,rk (l,e,d) c):=by
 simp[lT,pF,pE,h]
theorem Pa(o:List (List UInt8))(n:Nat)(l:List UInt8)(c:UInt8)(h:l.length<62):(BH c).foldl lT (o,n,(l,false,false))=(o,n,(l++ [c],false,false)):=by
 unfold BH;by_cases hc:qY c=true
 ·obtain⟨⟨Y,Z,X⟩,T⟩:=O9 c hc;rw[ag hc,bO,bO,fT,Di o n l false false 125 dX];have U:rk (l,false,false) 125=(l,true,false):=by simp[rk]
  rw[U,Di _ _ _ _ _ _ Y];have V:rk (l,true,false) (c^^^32)=(l++ [c^^^32^^^32],false,false):=by
   simp[rk,Z,X,Nat.ne_of_lt h]
  rw[V,T]
 ·have Q:qY c=false:=by simpa using hc
  obtain⟨Y,Z,X⟩:=JF c Q;rw[ae hc,bO,fT,Di _ _ _ _ _ _ Y];have V:rk (l,false,false) c=(l++ [c],false,false):=by
   simp[rk,Z,X,Nat.ne_of_lt h]
  rw[V]
theorem FJ(o:List (List UInt8))(n:Nat):∀(m l:List UInt8),l.length+m.length<=62->(rI m).foldl lT (o,n,(l,false,false))=(o,n,(l++m,false,false))
 |[],l,_=>by simp[rI]
 |c::m,l,h=>by
  have h':l.length+(m.length+1)<=62:=by simpa using h
  have e:rI (c::m)=BH c++rI m:=by simp[rI]
  rw[e,cQ,Pa o n l c dU,FJ o n m (l++ [c]) (by simp;omega)];simp
theorem Hk(l:List UInt8):mX (ld l) false false=(l,true,0):=by
 have hl:(ld l).length=l.length+2:=mR l;have Y:(ld l).take ((ld l).length-2)=l:=by rw[hl];simp[ld]
 have Z:(ld l).getD ((ld l).length-2) 0=IZ l:=by
  rw[hl];simp[ld]
 have X:(ld l).getD ((ld l).length-1) 0=I0 l:=by
  rw[hl];simp[ld]
 unfold mX;rw[ae gO,ae dU,ae dU,Z,X,Y,ag];rw[Fk,Fm];omega
theorem LZ(l:List UInt8)(h:l.length<=60):j9 ([],false,false) (kF l)=([l],0,([],false,false)):=by
 unfold j9 kF;rw[bO,cQ];have Z:lT ([],0,([],false,false)) 126=([],0,([],false,false)):=by simp[lT,pF,pE,mX]
 rw[Z,FJ [] 0 (ld l) [] (by rw[mR];simp;omega)];simp[lT,pF,pE,Hk]
theorem sS(l:List UInt8):(kF l).length=(rI (ld l)).length+2:=by simp[kF]
theorem Pb(l:List UInt8)(h:l.length<=60):(kF l).length<=126:=by
 rw[sS];have:=yy (ld l);rw[mR]at this;omega
theorem S6(w:dR):(zeroValue 254).run eU w=.ok (.agg #[ι κ 0,ι κ 0,ι κ 0,ι κ 0,ι κ 0,ι κ 0,ι κ 0,ι κ 0,ι κ 0,ι κ 0,ι κ 0,σ ν 0 0]) w:=gL
theorem BP(w:dR)(o:Obj):(w.alloc o).heap[w.heap.size]? =μ o:=aW w o
theorem Wl(S M:Int)(w:dR)(X:¬S<40)(Y:¬255<S)(U:¬M<1)(V:¬255<M):
 eT eU 119 #[ι κ S,ι κ M] w λe w'=>∃B,e=ρ (τ #[π (μ ⟨B,0,ν⟩),η])/\Lk w' B (Ru S M S M 0 0 0 255 0 0 0 (σ ν 0 0))/\w.heap.size<=B/\eh w w':=by
 have hz:=yu;have hzl:=S6;have Q:=Y1 S M w X Y U V;clear X Y U V
 go_in
 go_wp2_with(fail);refine Q.mono ?_;rintro e w1 ⟨rfl,hb⟩;have hs:=hb.size;have A:=(hb.alloc hb.size (γ #[ι κ S,ι κ M] 252))
 have T:=fY A (gN _ (γ (Ru S M S M 0 0 0 255 0 0 0 (σ ν 0 0)) 254));have Z:=BP (w1.alloc (γ #[ι κ S,ι κ M] 252)) (γ (Ru S M S M 0 0 0 255 0 0 0 (σ ν 0 0)) 254);have J:(w1.alloc (γ #[ι κ S,ι κ M] 252)).heap.size=w1.heap.size+1:=gO;rw[J]at Z;have H:Hid _:=Z;have D:Hid _:=T;clear Z T Q
 go_wp2
 go_ret2
 exact⟨w1.heap.size+1,rfl,H.out,dU,D.out⟩
theorem qF.rest {s:LS} (h:Lk w B (s.c (σ ν 0 0))):qF w B (λk=>k<w.heap.size) s (σ ν 0 0) [] :=
 ⟨h,Row.nil _ 3,λg X=>by simp[dV]at X,h.lt,λ_ Y=>Y,λp Z=>by simp at Z⟩
def L5(S M:Int):LS:=⟨S,M,S,M,0,0,0,255,0,0,0⟩
theorem Dj(S M:Int):(kL {L5 S M with st:=1} 0).2.2=0/\(kL {L5 S M with st:=1} 0).1.st=6/\(kL {L5 S M with st:=1} 0).2.1.length=1:=⟨gL,gL,gL⟩
theorem qF.far {M:Nat} {X:Nat->Prop} {s:LS} {ps:List PV} (h:qF w B X s v ps)(k:Kept w w' M ν)(U:X M)(T:B≠M):qF w' B X s v ps:=by
 have hb:∀j,j<w.heap.size->j≠M->w'.heap[j]? =w.heap[j]? :=λj Z Q=>k.block j Z Q gO;refine⟨h.lk.keep (hb B h.lk.lt T),h.row.keep k.size (λj Z=>hb j (h.row.lt j Z) (λe=>h.own j Z (by rw[e];exact U))),h.own,h.self,λj Z=>Nat.lt_of_lt_of_le (h.old j Z) k.size,λp J=> ?_⟩;obtain⟨o,z,l,f,fr⟩:=h.pk p J;exact⟨o.M9 (λj Z=>by obtain⟨Y,_,V⟩:=fr j Z;exact hb j V (λe=>Y (by rw[e];exact U))),z,l,f,λj Z=>by obtain⟨Y,H,V⟩:=fr j Z;exact⟨Y,H,Nat.lt_of_lt_of_le V k.size⟩⟩
theorem Dk:∀(L:List UInt8) (s:LS) (a:kG),(xJ L s a).length<=L.length
 |[],_,_=>Nat.le_refl _
 |c::r,s,a=>by
  have e:xJ (c::r) s a=ET c s a++xJ r (pB c s) a:=rfl;have h1:=Dk r (pB c s) a;have h2:=Js c s a;rw[e,az,cH];omega
theorem sE(s:LS)(ev:Int)(a:kG):(r7 s ev a).2.1.length<=4:=by
 by_cases hf:(ja s.st ev).2.2=0
 ·rw[sP _ hf];have h1:=Dk (ja s.st ev).1 (s.next (ja s.st ev).2.1) a;have h2:=zU s.st ev;show(pg s ev a).length<=4;unfold pg;omega
 ·rw[vz _ hf];simp
theorem yO(s:LS)(ev:Int):(kL s ev).2.1.length<=4:=by
 unfold kL;split
 ·exact sE _ _ _
 ·simp
theorem FK(s:LS):(lh s).length<=4:=by
 have hc:∀(s:LS) (ev:Int),(pg s ev (0,0,[])).length<=4:=λs ev=>by
  have h1:=Dk (ja s.st ev).1 (s.next (ja s.st ev).2.1) (0,0,[]);have h2:=zU s.st ev;unfold pg;omega
 unfold lh;split
 ·simp
 ·split
  ·simp
  ·split
   ·exact hc _ _
   ·exact hc _ _
theorem FL(s:LS)(p:kG):(jA s p).2.1.length<=4:=by
 unfold jA;split
 ·simp
 ·split
  ·unfold tH;split
   ·split
    ·exact sE _ _ _
    ·exact sE _ _ _
   ·exact sE _ _ _
  ·split
   ·exact sE _ _ _
   ·split
    ·exact sE _ _ _
    ·unfold sQ;split
     ·simp
     ·split
      ·split
       ·simp
       ·exact sE _ _ _
      ·exact sE _ _ _
