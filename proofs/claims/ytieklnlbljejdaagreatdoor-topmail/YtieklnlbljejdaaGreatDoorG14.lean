import Derived.Test.YtieklnlbljejdaaGreatDoorG09
import Derived.Test.YtieklnlbljejdaaGreatDoorG13
open Go.Value renaming int → ι, slice → σ, pointer → π, tuple → τ, nilIface → η
open Go.IntKind renaming i64 → κ
open Go.Ending renaming returned → ρ
open Go.Obj renaming cells → γ
open Option renaming none → ν, some → μ
open Go renaming World → eB, Calls → fj
open Go.Proofs.Tryz renaming prog → fk
open List renaming range → gJ
set_option maxRecDepth 100000
set_option maxHeartbeats 8000000
namespace Go.Proofs.YtieklnlbljejdaaGreatDoor
open Go.RowKit
def LS.tell(s:LS)(code:Int)(os:List j2):LS:=if 6<=s.st then {s with ns:=(oG code os (s.ns,s.nm)).1,nm:=(oG code os (s.ns,s.nm)).2}else s
def sy(s:LS)(code id:Int)(os:List j2):LS×List kZ×Nat:=
 if id≠s.ow then(s,[],6)else if code=2 then(if os≠nS s.qs s.qm then(s,[],6)else rN s 8 (0,id,[]))else rN (s.tell code os) 9 (0,id,[])
theorem KP(B:Nat)(X:Nat->Prop)(s:LS)(v:Value)(ps:List PV)(code id:Int)(a:Option Addr)(n cap:Nat)(os:List j2)(w:eB)(hT:jo w)(A7:B≠0)(UX:v.ownBlock≠μ 0)(h:qB w B X s v ps)(hb:Bd s 100)(hn:ps.length<=50)
 (ho:jm w a n os) (AE:n<=1000):
 fj fk 212 #[π (μ ⟨B,0,ν⟩),.agg #[ι κ code,ι κ id,σ a n cap]] w λe w'=>e=ρ (jy (sy s code id os).2.2)/\m8 w w' B X (sy s code id os).1 v ps (sy s code id os).2.1:=by
 have hk:=iB w (γ #[ι κ code,ι κ id,σ a n cap] 37);have hA:=λj=>aq w #[ι κ code,ι κ id,σ a n cap] 37 (0,0) j;have hl:=h.lk.lt;have h1:=h.below hk;have hz:∀w:eB,(zeroValue 37).run fk w=.ok (.agg #[ι κ 0,ι κ 0,σ ν 0 0]) w:=λw=>gT;obtain⟨W1,ke⟩:=gH (w.alloc (γ #[ι κ code,ι κ id,σ a n cap] 37));obtain⟨Z,hZ⟩:=gH (w.heap.size);have d0:W1.cell? ⟨Z,0,ν⟩=μ (ι κ code):=by rw[<-ke,<-hZ];exact hA 0
 have d1:W1.cell? ⟨Z,1,ν⟩=μ (ι κ id):=by rw[<-ke,<-hZ];exact hA 1
 have d2:W1.cell? ⟨Z,2,ν⟩=μ (σ a n cap):=by rw[<-ke,<-hZ];exact hA 2
 rw[ke]at h1 hk;have HW:Hid _:=ke;have HZ:Hid _:=hZ;have HBZ:Hid (B≠Z):=by show B≠Z;omega
 clear hA ke hZ hl;have c2:W1.cell? ⟨B,2,ν⟩=μ (ι κ s.ns):=h1.lk.cell 2;have c3:W1.cell? ⟨B,3,ν⟩=μ (ι κ s.nm):=h1.lk.cell 3;have c4:W1.cell? ⟨B,4,ν⟩=μ (ι κ s.qs):=h1.lk.cell 4;have c5:W1.cell? ⟨B,5,ν⟩=μ (ι κ s.qm):=h1.lk.cell 5;have c6:W1.cell? ⟨B,6,ν⟩=μ (ι κ s.st):=h1.lk.cell 6;have Qx:W1.cell? ⟨B,10,ν⟩=μ (ι κ s.ow):=h1.lk.cell 10;have UE:=h1.lk.lt;have G0:Z<W1.heap.size:=af W1 _ d1;cases W8:(id !=s.ow)
 ·have rO:id=s.ow:=by simpa using W8
  cases h22:(code==2)
  ·have P6:code≠2:=by simpa using h22
   have ea:sy s code id os=rN (s.tell code os) 9 (0,id,[]):=by
    unfold sy;rw[ae (by simpa using rO),ae P6]
   rw[ea];clear ea P6 rO;by_cases h6:6<=s.st
   ·have et:s.tell code os={s with ns:=(oG code os (s.ns,s.nm)).1,nm:=(oG code os (s.ns,s.nm)).2}:=by unfold LS.tell;rw[ag h6]
    rw[et];clear et;have hTo:=λ(W:eB) (hW:eN w W)=>QR s.ns s.nm code a n cap os W eE (ho.below hW);generalize (oG code os (s.ns,s.nm)).1=ts at hTo⊢;generalize (oG code os (s.ns,s.nm)).2=tm at hTo⊢;obtain⟨E,hE⟩:=gH (jy (rN {s with ns:=ts,nm:=tm} 9 (0,id,[])).2.2);obtain⟨S',Yp⟩:∃S',(rN {s with ns:=ts,nm:=tm} 9 (0,id,[])).1=S':=⟨_,rfl⟩
    obtain⟨O',Yq⟩:∃O',(rN {s with ns:=ts,nm:=tm} 9 (0,id,[])).2.1=O':=⟨_,rfl⟩
    rw[hE,Yp,Yq];have HE:Hid _:=And.intro hE (And.intro Yp Yq);have HTo:Hid _:=hTo;clear hE Yp Yq hTo
    go_in
    go_wp2_with(fail);rw[HW.out,HZ.out]
    go_quiet(fail)
    go_wp2_with(fail);obtain⟨W2,nH⟩:=gH (W1.drewN nq);have xH:eN W1 W2:=by rw[<-nH];exact below_drewN (au _ _) _
    rw[nH];have R2:=h1.below xH;have e0:W2.cell? ⟨Z,0,ν⟩=μ (ι κ code):=(xH.cell (p:=⟨Z,0,ν⟩) G0).trans d0;have e1:W2.cell? ⟨Z,1,ν⟩=μ (ι κ id):=(xH.cell (p:=⟨Z,1,ν⟩) G0).trans d1;have e2:W2.cell? ⟨Z,2,ν⟩=μ (σ a n cap):=(xH.cell (p:=⟨Z,2,ν⟩) G0).trans d2;have f2:W2.cell? ⟨B,2,ν⟩=μ (ι κ s.ns):=R2.lk.cell 2;have f3:W2.cell? ⟨B,3,ν⟩=μ (ι κ s.nm):=R2.lk.cell 3;have abP:=R2.lk.lt;have FU:Z<W2.heap.size:=af W2 _ e1;have W9:=iA hk xH;have HR2:Hid _:=R2;have hC:=HTo.out W2.drew (jO W9);clear d0 d1 d2 c2 c3 c4 c5 c6 Qx h1 nH xH UE G0 R2 HTo
    go_region_with(go_at_call 231;refine hC.mono ?_;rintro e w3 ⟨rfl,b3⟩;have N0:eN W2 w3:=iA (jO (au _ _)) b3;have R3:=HR2.out.below N0;have g2:w3.cell? ⟨B,2,ν⟩=μ (ι κ s.ns):=R3.lk.cell 2;have g3:w3.cell? ⟨B,3,ν⟩=μ (ι κ s.nm):=R3.lk.cell 3;have gf:∀j,w3.frozen? ⟨B,j,ν⟩=false:=R3.lk.frozen;have gl:=R3.lk.lt;have z1:w3.cell? ⟨Z,1,ν⟩=μ (ι κ id):=(N0.cell (p:=⟨Z,1,ν⟩) FU).trans e1)
    all_goals
     have R4:qB ((w3.setCell ⟨B,2,ν⟩ (ι κ ts)).setCell ⟨B,3,ν⟩ (ι κ tm)) B X {s with ns:=ts,nm:=tm} v ps:=(R3.ll 2 _ {s with ns:=ts} rfl).ll 3 _ _ rfl;have K4:Kept w ((w3.setCell ⟨B,2,ν⟩ (ι κ ts)).setCell ⟨B,3,ν⟩ (ι κ tm)) B v.ownBlock:=kI (kI (Kept.je B _ (iA W9 N0)) 2 _) 3 _;have HC:=sP B X {s with ns:=ts,nm:=tm} v ps ⟨0,id,ν,0,0,[]⟩ 9 _ (K4.tab hT A7 UX) R4 ⟨hb.o1,hb.o2,hb.l1,hb.l2⟩ (qk _ _ _ _ _) hn;have DE:PV.abs ⟨0,id,ν,0,0,[]⟩=(0,id,[]):=rfl;rw[DE,HE.out.1,HE.out.2.1,HE.out.2.2]at HC;clear DE HE R4 R3 hC;have akT:Z<w3.heap.size:=af w3 _ z1;have wN:=HBZ.out;go_wp2_with(fail);refine HC.mono ?_;rintro e w5 ⟨rfl,hW⟩;clear HC
     go_wp2
     go_ret;exact⟨rfl,hW.from K4⟩
   ·have et:s.tell code os=s:=by unfold LS.tell;rw[ae h6]
    rw[et];clear et
    go_in
    go_wp2_with(fail);rw[HW.out,HZ.out]
    go_quiet(fail)
    obtain⟨W2,nH⟩:=gH (W1.drewN nq);have xH:eN W1 W2:=by rw[<-nH];exact below_drewN (au _ _) _
    rw[nH];have R2:=h1.below xH;have e0:W2.cell? ⟨Z,0,ν⟩=μ (ι κ code):=(xH.cell (p:=⟨Z,0,ν⟩) G0).trans d0;have e1:W2.cell? ⟨Z,1,ν⟩=μ (ι κ id):=(xH.cell (p:=⟨Z,1,ν⟩) G0).trans d1;have f6:W2.cell? ⟨B,6,ν⟩=μ (ι κ s.st):=R2.lk.cell 6;have abP:=R2.lk.lt;have FU:Z<W2.heap.size:=af W2 _ e1;have W9:=iA hk xH;have HC:=sP B X s v ps ⟨0,id,ν,0,0,[]⟩ 9 _ (hT.below W9) R2 hb (qk _ _ _ _ _) hn;clear d0 d1 d2 c2 c3 c4 c5 c6 Qx h1 nH xH UE G0 R2;go_wp2_with(fail);refine HC.mono ?_;rintro e w5 ⟨rfl,hW⟩;clear HC
    go_wp2
    go_ret;exact⟨rfl,hW.from (Kept.je B v.ownBlock W9)⟩
  ·have P6:code=2:=by simpa using h22
   subst P6;have HID:Hid _:=rO;clear h22 rO
   go_in
   go_wp2_with(fail);rw[HW.out,HZ.out]
   go_quiet(fail)
   go_wp2_with(fail);obtain⟨W2,nH⟩:=gH (W1.drewN nq);have xH:eN W1 W2:=by rw[<-nH];exact below_drewN (au _ _) _
   rw[nH];have R2:=h1.below xH;have e0:W2.cell? ⟨Z,0,ν⟩=μ (ι κ 2):=(xH.cell (p:=⟨Z,0,ν⟩) G0).trans d0;have e1:W2.cell? ⟨Z,1,ν⟩=μ (ι κ id):=(xH.cell (p:=⟨Z,1,ν⟩) G0).trans d1;have e2:W2.cell? ⟨Z,2,ν⟩=μ (σ a n cap):=(xH.cell (p:=⟨Z,2,ν⟩) G0).trans d2;have f4:W2.cell? ⟨B,4,ν⟩=μ (ι κ s.qs):=R2.lk.cell 4;have f5:W2.cell? ⟨B,5,ν⟩=μ (ι κ s.qm):=R2.lk.cell 5;have abP:=R2.lk.lt;have FU:Z<W2.heap.size:=af W2 _ e1;have W9:=iA hk xH;clear d0 d1 d2 c2 c3 c4 c5 c6 Qx h1 nH xH UE G0 W8
   go_region_with(first
    |(go_at_call 224;refine(Hl s.qs s.qm _).mono ?_;rintro e w3 ⟨u,rfl,hM⟩;obtain⟨ua,uc,rfl,un,ul⟩:=hM.shape;have k3:=hM.below;have g2:w3.cell? ⟨Z,2,none⟩=some (.slice a n cap):=(k3.cell (p:=⟨Z,2,none⟩) FU).trans e2)
    |(go_at_call 230;refine(yW a ua cap uc n _ os (nS s.qs s.qm) w3 (ho.below (iA (jO W9) k3)) hM.opts.2 eE (by have:=Ei s.qs s.qm;omega)).mono ?_;rintro e w4 ⟨rfl,m4,rfl⟩))
   all_goals
    have k04:eN w (w3.drewN m4):=below_drewN (iA (jO W9) k3) m4;have k24:eN W2 (w3.drewN m4):=below_drewN (iA (jO (au _ _)) k3) m4;have R4:=R2.below k24;have g1:(w3.drewN m4).cell? ⟨Z,1,ν⟩=μ (ι κ id):=(k24.cell (p:=⟨Z,1,ν⟩) FU).trans e1;have akU:Z<(w3.drewN m4).heap.size:=af _ _ g1;have HC:=sP B X s v ps ⟨0,id,ν,0,0,[]⟩ 8 _ (hT.below k04) R4 hb (qk _ _ _ _ _) hn;have YG:Hid _:=R4;clear R2 R4 k24 hM;by_cases DA:os=nS s.qs s.qm
    ·have hd:decide (os=nS s.qs s.qm)=true:=by simp[DA]
     have ea:sy s 2 id os=rN s 8 (0,id,[]):=by
      unfold sy;rw[ae (by simpa using HID.out),ag rfl,ae (by simpa using DA)]
     clear DA
     try rw[hd]
     go_wp2_with(fail);refine HC.mono ?_;rintro e w5 ⟨rfl,hW⟩;clear HC
     go_wp2
     go_ret;rw[ea];exact⟨rfl,hW.from (Kept.je B v.ownBlock k04)⟩
    ·have hd:decide (os=nS s.qs s.qm)=false:=by simp[DA]
     have ea:sy s 2 id os=(s,[],6):=by
      unfold sy;rw[ae (by simpa using HID.out),ag rfl,ag DA]
     clear DA HC
     try rw[hd]
     go_wp2
     go_ret;rw[ea];exact⟨rfl,m8.still YG.out (Kept.je B v.ownBlock k04)⟩
 ·have rO:id≠s.ow:=by simpa using W8
  have ea:sy s code id os=(s,[],6):=by
   unfold sy;rw[ag rO]
  rw[ea];clear ea rO
  go_in
  go_wp2_with(fail);rw[HW.out,HZ.out]
  go_quiet(fail)
  go_wp2
  go_ret;exact⟨rfl,m8.still (h1.below (below_drewN (au _ _) _)) (Kept.je B v.ownBlock (below_drewN hk _))⟩
def j4(s:LS)(p:kZ):LS×List kZ×Nat:=
 if jW p.1 p.2.1 p.2.2≠0 then(s,[],jW p.1 p.2.1 p.2.2)else if p.1=1 then sQ s p.2.1 p.2.2 else if p.1=5 then rN s 10 (0,p.2.1,[])else if p.1=6 then rN s 11 (0,p.2.1,[])else sy s p.1 p.2.1 p.2.2
theorem RO(B:Nat)(X:Nat->Prop)(s:LS)(v:Value)(ps:List PV)(p:PV)(w:eB)(hT:jo w)(A7:B≠0)(UX:v.ownBlock≠μ 0)(h:qB w B X s v ps)(hb:Bd s 100)(hn:ps.length<=50)(hp:um w X v p)(m1:0<=s.nm)(m2:s.nm<=255):
 fj fk 185 #[π (μ ⟨B,0,ν⟩),.agg #[ι κ p.code,ι κ p.id,σ p.a p.n p.cap]] w λe w'=>e=ρ (jy (j4 s p.abs).2.2)/\m8 w w' B X (j4 s p.abs).1 v ps (j4 s p.abs).2.1:=by
 obtain⟨code,id,a,n,cap,os⟩:=p;obtain⟨ho,kj,hle,uo,tQ⟩:=hp;simp only at ho kj hle uo;have IE:∀k,tM a n=μ k->¬X k/\v.ownBlock≠μ k/\k<w.heap.size:=tQ;have DE:PV.abs ⟨code,id,a,n,cap,os⟩=(code,id,os):=rfl;rw[DE];have hk:=iB w (γ #[ι κ code,ι κ id,σ a n cap] 37);have hA:=λj=>aq w #[ι κ code,ι κ id,σ a n cap] 37 (0,0) j;have hC:=sN code id a n cap os _ eE hle (ho.below hk);have hz:∀w:eB,(zeroValue 37).run fk w=.ok (.agg #[ι κ 0,ι κ 0,σ ν 0 0]) w:=λw=>gT;obtain⟨Z,hZ⟩:=gH (w.heap.size);have MI:∀j,(w.alloc (γ #[ι κ code,ι κ id,σ a n cap] 37)).cell? ⟨Z,j,ν⟩= #[ι κ code,ι κ id,σ a n cap][j]? :=by rw[<-hZ];exact hA
 have xY:Z<(w.alloc (γ #[ι κ code,ι κ id,σ a n cap] 37)).heap.size:=by simp;omega
 have HZ:Hid _:=hZ;clear hA hZ tQ DE;by_cases rv:jW code id os=0
 ·have e0:jy 0=η:=rfl;rw[rv,e0]at hC;have main:∀(ev:Int),∀W2:eB,eN w W2->fj fk 171 #[π (μ ⟨B,0,ν⟩),ι κ ev,.agg #[ι κ 0,ι κ id,σ ν 0 0]] W2 λe w'=>e=ρ (jy (rN s ev (0,id,[])).2.2)/\m8 w w' B X (rN s ev (0,id,[])).1 v ps (rN s ev (0,id,[])).2.1:=by
   intro ev W2 k;refine(sP B X s v ps ⟨0,id,ν,0,0,[]⟩ ev W2 (hT.below k) (h.below k) hb (qk _ _ _ _ _) hn).mono ?_;rintro e w' ⟨rfl,hW⟩;exact⟨rfl,hW.from (Kept.je B v.ownBlock k)⟩
  have etk:j4 s (code,id,os)=if code=1 then sQ s id os else if code=5 then rN s 10 (0,id,[])else if code=6 then rN s 11 (0,id,[])else sy s code id os:=by
   unfold j4;rw[ae (by simpa using rv)]
  rw[etk];clear etk rv e0;by_cases h1:code=1
  ·subst h1;rw[ag rfl];have HH:∀W2:eB,eN w W2->fj fk 211 #[π (μ ⟨B,0,ν⟩),.agg #[ι κ 1,ι κ id,σ a n cap]] W2 λe w'=>e=ρ (jy (sQ s id os).2.2)/\m8 w w' B X (sQ s id os).1 v ps (sQ s id os).2.1:=by
    intro W2 k;refine(Ih B X s v ps id a n cap os W2 (hT.below k) (h.below k) hb hn (ho.below k) (λj Mc=>by obtain⟨q1,q2,q3⟩:=IE j Mc;exact⟨q1,q2,Nat.lt_of_lt_of_le q3 k.size⟩) kj eE m1 m2).mono ?_;rintro e w' ⟨rfl,hW⟩;exact⟨rfl,hW.from (Kept.je B v.ownBlock k)⟩
   clear main IE h ho
   go_in
   go_wp2_with(fail);refine hC.mono ?_;rintro e w1 ⟨rfl,k1⟩;have d0:w1.cell? ⟨Z,0,ν⟩=μ (ι κ 1):=(k1.cell (p:=⟨Z,0,ν⟩) xY).trans (MI 0);have d1:w1.cell? ⟨Z,1,ν⟩=μ (ι κ id):=(k1.cell (p:=⟨Z,1,ν⟩) xY).trans (MI 1);have d2:w1.cell? ⟨Z,2,ν⟩=μ (σ a n cap):=(k1.cell (p:=⟨Z,2,ν⟩) xY).trans (MI 2);have Qq:Z<w1.heap.size:=af w1 _ d0;have HK:=HH w1 (iA hk k1);clear hC MI xY HH;rw[HZ.out];go_wp2_with(fail);refine HK.mono ?_;rintro e w2 ⟨rfl,hW⟩;clear HK
   go_wp2
   go_ret;exact⟨rfl,hW⟩
  ·rw[ae h1];have b1:(code==1)=false:=by simpa using h1
   by_cases h5:code=5
   ·subst h5;rw[ag rfl];clear IE h ho
    go_in
    go_wp2_with(fail);refine hC.mono ?_;rintro e w1 ⟨rfl,k1⟩;have d0:w1.cell? ⟨Z,0,ν⟩=μ (ι κ 5):=(k1.cell (p:=⟨Z,0,ν⟩) xY).trans (MI 0);have d1:w1.cell? ⟨Z,1,ν⟩=μ (ι κ id):=(k1.cell (p:=⟨Z,1,ν⟩) xY).trans (MI 1);have Qq:Z<w1.heap.size:=af w1 _ d0;have HK:=main 10 w1 (iA hk k1);clear hC MI xY main;rw[HZ.out];go_wp2_with(fail);refine HK.mono ?_;rintro e w2 ⟨rfl,hW⟩;clear HK
    go_wp2
    go_ret;exact⟨rfl,hW⟩
   ·rw[ae h5];have b5:(code==5)=false:=by simpa using h5
    by_cases h6:code=6
    ·subst h6;rw[ag rfl];clear IE h ho
     go_in
     go_wp2_with(fail);refine hC.mono ?_;rintro e w1 ⟨rfl,k1⟩;have d0:w1.cell? ⟨Z,0,ν⟩=μ (ι κ 6):=(k1.cell (p:=⟨Z,0,ν⟩) xY).trans (MI 0);have d1:w1.cell? ⟨Z,1,ν⟩=μ (ι κ id):=(k1.cell (p:=⟨Z,1,ν⟩) xY).trans (MI 1);have Qq:Z<w1.heap.size:=af w1 _ d0;have HK:=main 11 w1 (iA hk k1);clear hC MI xY main;rw[HZ.out];go_wp2_with(fail);refine HK.mono ?_;rintro e w2 ⟨rfl,hW⟩;clear HK
     go_wp2
     go_ret;exact⟨rfl,hW⟩
    ·rw[ae h6];have b6:(code==6)=false:=by simpa using h6
     have HH:∀W2:eB,eN w W2->fj fk 212 #[π (μ ⟨B,0,ν⟩),.agg #[ι κ code,ι κ id,σ a n cap]] W2 λe w'=>e=ρ (jy (sy s code id os).2.2)/\m8 w w' B X (sy s code id os).1 v ps (sy s code id os).2.1:=by
      intro W2 k;refine(KP B X s v ps code id a n cap os W2 (hT.below k) A7 UX (h.below k) hb hn (ho.below k) eE).mono ?_;rintro e w' ⟨rfl,hW⟩;exact⟨rfl,hW.from (Kept.je B v.ownBlock k)⟩
     clear main IE h ho h1 h5 h6
     go_in
     go_wp2_with(fail);refine hC.mono ?_;rintro e w1 ⟨rfl,k1⟩;have d0:w1.cell? ⟨Z,0,ν⟩=μ (ι κ code):=(k1.cell (p:=⟨Z,0,ν⟩) xY).trans (MI 0);have d1:w1.cell? ⟨Z,1,ν⟩=μ (ι κ id):=(k1.cell (p:=⟨Z,1,ν⟩) xY).trans (MI 1);have d2:w1.cell? ⟨Z,2,ν⟩=μ (σ a n cap):=(k1.cell (p:=⟨Z,2,ν⟩) xY).trans (MI 2);have Qq:Z<w1.heap.size:=af w1 _ d0;have HK:=HH w1 (iA hk k1);clear hC MI xY HH;rw[HZ.out];go_wp2_with(fail);refine HK.mono ?_;rintro e w2 ⟨rfl,hW⟩;clear HK
     go_wp2
     go_ret;exact⟨rfl,hW⟩
 ·have etk:j4 s (code,id,os)=(s,[],jW code id os):=by
   unfold j4;rw[ag rv]
  rw[etk];have ee:jy (jW code id os)=.iface 128 (ι κ (jW code id os:Int)):=by simp only[jy];rw[ae rv]
  simp only[ee]at hC⊢;have HR:Hid (∀W2:eB,eN w W2->qB W2 B X s v ps):=λW2 k=>h.below k;clear etk rv ee h ho;generalize jW code id os=f at hC⊢
  go_in
  go_wp2_with(fail);refine hC.mono ?_;rintro e w1 ⟨rfl,k1⟩;clear hC
  go_wp2
  go_ret;exact⟨rfl,m8.still (HR.out _ (iA hk k1)) (Kept.je B v.ownBlock (iA hk k1))⟩
def k7(s:LS)(ev:Int):LS×List kZ×Nat:=if ev=0 \/ev=1 \/ev=2 \/ev=3 then rN s ev (0,0,[])else(s,[],1)
theorem YH(ev:Int)(B:Nat)(X:Nat->Prop)(s:LS)(v:Value)(ps:List PV)(w:eB)(hT:jo w)(h:qB w B X s v ps)(hb:Bd s 100)(hn:ps.length<=50):
 fj fk 120 #[π (μ ⟨B,0,ν⟩),ι κ ev] w λe w'=>e=ρ (jy (k7 s ev).2.2)/\m8 w w' B X (k7 s ev).1 v ps (k7 s ev).2.1:=by
 have hz:=ry;have hc:=sP B X s v ps ⟨0,0,ν,0,0,[]⟩ ev w hT h hb (qk _ _ _ _ _) hn;by_cases wW:ev=0 \/ev=1 \/ev=2 \/ev=3
 ·have e:k7 s ev=rN s ev (0,0,[]):=by unfold k7;rw[ag wW]
  rw[e];clear h hT hb e;rcases wW with rfl|rfl|rfl|rfl
  all_goals
   go_in
   go_wp2_with(fail);refine hc.mono ?_;rintro e w1 ⟨rfl,hW⟩;clear hc
   go_wp2
   go_ret;exact⟨rfl,hW⟩
 ·have e:k7 s ev=(s,[],1):=by unfold k7;rw[ae wW]
  rw[e];have b0:(ev==0)=false:=by simp;omega
  have b1:(ev==1)=false:=by simp;omega
  have b2:(ev==2)=false:=by simp;omega
  have b3:(ev==3)=false:=by simp;omega
  have HW:Hid (m8 w w B X s v ps []):=m8.still h (Kept.refl _ _ _);clear hc h hT hb e wW
  go_in
  go_wp2
  go_ret;exact⟨rfl,HW.out⟩
def Vc:List UInt8->Int->Int
 |[],x=>x
 |c::r,x=>Vc r (if c=105 then 4 else if c=122 then 0 else if c=114 then x-1 else if c=116 then x-1 else x)
def Vd:List UInt8->Int->Int
 |[],x=>x
 |c::r,x=>Vd r (if c=105 then x else if c=122 then 3 else if c=114 then 3 else if c=116 then 3 else x)
theorem Ez:∀(L:List UInt8) (s:LS),0<=s.ow->s.ow<=255->(ph L s).st=s.st/\(ph L s).sz=s.sz/\(ph L s).fs=s.fs/\(ph L s).fm=s.fm/\(ph L s).ns=s.ns/\(ph L s).nm=s.nm/\(ph L s).lf=Vc L s.lf/\(ph L s).wt=Vd L s.wt/\0<=(ph L s).ow/\(ph L s).ow<=255
 |[],s,h1,h2=>⟨rfl,rfl,rfl,rfl,rfl,rfl,rfl,rfl,h1,h2⟩
 |c::r,s,h1,h2=>by
  have e:ph (c::r) s=ph r (pg c s):=rfl;have hp:(pg c s).st=s.st/\(pg c s).sz=s.sz/\(pg c s).fs=s.fs/\(pg c s).fm=s.fm/\(pg c s).ns=s.ns/\(pg c s).nm=s.nm/\(pg c s).lf=(if c=105 then 4 else if c=122 then 0 else if c=114 then s.lf-1 else if c=116 then s.lf-1 else s.lf)/\(pg c s).wt=(if c=105 then s.wt else if c=122 then 3 else if c=114 then 3 else if c=116 then 3 else s.wt)/\0<=(pg c s).ow/\(pg c s).ow<=255:=by
   by_cases c1:c=105
   ·subst c1;exact⟨rfl,rfl,rfl,rfl,rfl,rfl,rfl,rfl,h1,h2⟩
   ·by_cases c2:c=122
    ·subst c2;exact⟨rfl,rfl,rfl,rfl,rfl,rfl,rfl,rfl,h1,h2⟩
    ·by_cases c3:c=114
     ·subst c3;exact⟨rfl,rfl,rfl,rfl,rfl,rfl,rfl,rfl,by show 0<=(s.ow+1) %256;omega,by show(s.ow+1) %256<=255;omega⟩
     ·by_cases c4:c=116
      ·subst c4;exact⟨rfl,rfl,rfl,rfl,rfl,rfl,rfl,rfl,by show 0<=(s.ow+1) %256;omega,by show(s.ow+1) %256<=255;omega⟩
      ·have e1:pg c s=s:=by simp[pg,c1,c2,c3,c4]
       rw[e1,ae c1,ae c2,ae c3,ae c4,ae c1,ae c2,ae c3,ae c4];exact⟨rfl,rfl,rfl,rfl,rfl,rfl,rfl,rfl,h1,h2⟩
  obtain⟨p1,p2,p3,p4,p5,p6,p7,p8,p9,p10⟩:=hp;obtain⟨q1,q2,q3,q4,q5,q6,q7,q8,q9,q10⟩:=Ez r (pg c s) p9 p10;rw[e];exact⟨q1.trans p1,q2.trans p2,q3.trans p3,q4.trans p4,q5.trans p5,q6.trans p6,by rw[q7,p7];rfl,by rw[q8,p8];rfl,q9,q10⟩
def wk(st lf wt:Int):Bool:=decide (0<=st)&&decide (st<=9)&&decide (0<=lf)&&decide (lf<=4)&& (!(decide (st=7)||decide (st=9))||decide (lf=4))&&decide (0<=wt)&&decide (wt<=3)&& (!(decide (4<=st)&&decide (st<=8))||decide (1<=wt))
theorem sX(st lf wt:Int):wk st lf wt=true↔(0<=st/\st<=9/\0<=lf/\lf<=4/\(st=7 \/st=9->lf=4)/\0<=wt/\wt<=3/\(4<=st/\st<=8->1<=wt)):=by
 simp only[wk,Bool.and_eq_true,Bool.or_eq_true,Bool.not_eq_true',decide_eq_true_eq,decide_eq_false_iff_not,Bool.or_eq_false_iff,Bool.and_eq_false_iff];constructor
 ·rintro⟨⟨⟨⟨⟨⟨⟨a,b⟩,c⟩,d⟩,e⟩,f⟩,g⟩,h⟩;exact⟨a,b,c,d,eE,f,g,eE⟩
 ·rintro⟨a,b,c,d,e,f,g,h⟩;exact⟨⟨⟨⟨⟨⟨⟨a,b⟩,c⟩,d⟩,eE⟩,f⟩,g⟩,eE⟩
theorem YI:((gJ 12).all λe=>(gJ 10).all λs=>(gJ 5).all λl=>(gJ 4).all λt=> !(e !=4&&e !=5&&wk (s:Int) (l:Int) (t:Int)&& ((lh s e).2.2==0))||wk (lh s e).2.1 (Vc (lh s e).1 (l:Int)) (Vd (lh s e).1 (t:Int)))=true:=by decide+kernel
theorem RP(e:Nat)(he:e<12)(s:Nat)(hs:s<10)(l:Nat)(hl:l<5)(t:Nat)(ht:t<4)(h:e≠4/\e≠5/\wk (s:Int) (l:Int) (t:Int)=true/\(lh s e).2.2=0):wk (lh s e).2.1 (Vc (lh s e).1 (l:Int)) (Vd (lh s e).1 (t:Int))=true:=by
 have h1:=bk.1 (bk.1 (bk.1 (bk.1 YI e (a7.2 he)) s (a7.2 hs)) l (a7.2 hl)) t (a7.2 ht);obtain⟨h4,h5,h6,h7⟩:=h;have b4:(e !=4)=true:=by simpa using h4
 have b5:(e !=5)=true:=by simpa using h5
 have b7:((lh s e).2.2==0)=true:=by simpa using h7
 rw[b4,b5,h6,b7]at h1;simpa using h1
theorem IG:∀s:Nat,s<10->∀l:Nat,l<5->(4<=s/\s<=8/\1<=l/\wk (s:Int) (l:Int) 1=true)->wk (lh s 4).2.1 (Vc (lh s 4).1 (l:Int)) (Vd (lh s 4).1 0)=true:=by decide+kernel
theorem II:∀s:Nat,s<10->(4<=s/\s<=8/\wk (s:Int) 0 1=true)->wk (lh s 5).2.1 (Vc (lh s 5).1 0) (Vd (lh s 5).1 0)=true:=by decide+kernel
structure yJ(s:LS):Prop where
 ok:wk s.st s.lf s.wt=true
 o1:0<=s.ow
 o2:s.ow<=255
 m1:0<=s.nm
 m2:s.nm<=255
 f1:0<=s.fm
 f2:s.fm<=255
theorem yJ.bd {s:LS} (h:yJ s):Bd s 100:=by
 obtain⟨a,b,c,d,_⟩:=(sX _ _ _).1 h.ok;exact⟨h.o1,h.o2,eE,eE⟩
theorem yJ.wt {s:LS} (h:yJ s):0<=s.wt/\s.wt<=3:=by
 obtain⟨_,_,_,_,_,a,b,_⟩:=(sX _ _ _).1 h.ok;exact⟨a,b⟩
theorem wZ {s:LS} (h1:0<=s.ow)(h2:s.ow<=255)(m1:0<=s.nm)(m2:s.nm<=255)(f1:0<=s.fm)(f2:s.fm<=255)(ev:Int)(hk:wk (jt s.st ev).2.1 (Vc (jt s.st ev).1 s.lf) (Vd (jt s.st ev).1 s.wt)=true):yJ (nJ s ev):=by
 unfold nJ;obtain⟨D,nx,f,hR⟩:∃D nx f,jt s.st ev=(D,nx,f):=⟨_,_,_,rfl⟩
 rw[hR]at hk⊢;simp only at hk⊢;have hn:(s.next nx).st=nx/\(s.next nx).lf=s.lf/\(s.next nx).wt=s.wt/\(s.next nx).ow=s.ow/\(s.next nx).fm=s.fm/\((s.next nx).nm=s.nm \/(s.next nx).nm=s.fm):=by
  unfold LS.next;split
  ·exact⟨rfl,rfl,rfl,rfl,rfl,.inr rfl⟩
  ·exact⟨rfl,rfl,rfl,rfl,rfl,.inl rfl⟩
 obtain⟨n1,n2,n3,n4,n5,n6⟩:=hn;obtain⟨q1,_,_,q4,_,q6,q7,q8,q9,q10⟩:=Ez D (s.next nx) eE eE;refine⟨by rw[q1,q7,q8,n1,n2,n3];exact hk,q9,q10,?_,?_,by rw[q4,n5];exact f1,by rw[q4,n5];exact f2⟩
 ·rw[q6];rcases n6 with e|e<;>rw[e] <;>assumption
 ·rw[q6];rcases n6 with e|e<;>rw[e] <;>assumption
theorem yJ.ev {s:LS} (h:yJ s)(e:Nat)(he:e<12)(h4:e≠4)(h5:e≠5)(xM:kZ):yJ (rN s e xM).1:=by
 by_cases hf:(jt s.st e).2.2=0
 ·rw[sv _ hf];obtain⟨a,b,c,d,_,f,g,_⟩:=(sX _ _ _).1 h.ok;refine wZ h.o1 h.o2 h.m1 h.m2 h.f1 h.f2 e ?_;have jb:=h.ok;obtain⟨st,kD⟩:∃st:Nat,s.st=st:=⟨s.st.toNat,eE⟩
  obtain⟨l,hl⟩:∃l:Nat,s.lf=l:=⟨s.lf.toNat,eE⟩
  obtain⟨t,ht⟩:∃t:Nat,s.wt=t:=⟨s.wt.toNat,eE⟩
  rw[kD]at hf;rw[m7 st e eE he]at hf;rw[kD,hl,ht,m7 st e eE he];rw[kD,hl,ht]at jb;exact RP e he st eE l eE t eE ⟨h4,h5,jb,hf⟩
 ·rw[uJ _ hf];exact h
theorem yJ.k7 {s:LS} (h:yJ s)(ev:Int):yJ (k7 s ev).1:=by
 unfold Go.Proofs.YtieklnlbljejdaaGreatDoor.k7;split
 ·rename_i wW
  rcases wW with rfl|rfl|rfl|rfl
  ·exact h.ev 0 eH eH eH _
  ·exact h.ev 1 eH eH eH _
  ·exact h.ev 2 eH eH eH _
  ·exact h.ev 3 eH eH eH _
 ·exact h
theorem yJ.tick {s:LS} (h:yJ s):yJ (kE s):=by
 obtain⟨a,b,c,d,hz,f,g,hw⟩:=(sX _ _ _).1 h.ok;unfold kE;by_cases ht:4<=s.st/\s.st<=8
 ·rw[ae (by simp;omega)];by_cases KQ:0<s.wt-1
  ·rw[ag KQ];exact⟨(sX _ _ _).2 ⟨a,b,c,d,hz,by show 0<=s.wt-1;omega,by show s.wt-1<=3;omega,λ_=>by show 1<=s.wt-1;omega⟩,h.o1,h.o2,h.m1,h.m2,h.f1,h.f2⟩
  ·rw[ae KQ];have l7:s.wt=1:=by have:=hw ht;omega
   have pN:s.wt-1=0:=eE;have jb:=h.ok;obtain⟨st,kD⟩:∃st:Nat,s.st=st:=⟨s.st.toNat,eE⟩
   obtain⟨l,hl⟩:∃l:Nat,s.lf=l:=⟨s.lf.toNat,eE⟩
   by_cases Yo:0<s.lf
   ·rw[ag Yo];refine wZ (s:={s with wt:=s.wt-1}) h.o1 h.o2 h.m1 h.m2 h.f1 h.f2 4 ?_;show wk (jt s.st 4).2.1 (Vc (jt s.st 4).1 s.lf) (Vd (jt s.st 4).1 (s.wt-1))=true;rw[pN,kD,hl,show(4:Int)=((4:Nat):Int)from rfl,m7 st 4 eE eH];rw[kD,hl,l7]at jb;exact IG st eE l eE ⟨eE,eE,eE,jb⟩
   ·rw[ae Yo];refine wZ (s:={s with wt:=s.wt-1}) h.o1 h.o2 h.m1 h.m2 h.f1 h.f2 5 ?_;show wk (jt s.st 5).2.1 (Vc (jt s.st 5).1 s.lf) (Vd (jt s.st 5).1 (s.wt-1))=true;have wy:s.lf=0:=eE;rw[pN,kD,wy,show(5:Int)=((5:Nat):Int)from rfl,m7 st 5 eE eH];rw[kD,wy,l7]at jb;exact II st eE ⟨eE,eE,jb⟩
 ·rw[ag (by simp;omega)];exact h
theorem Cl:∀(os seen:List j2),pA seen os=0->∀o∈os,wV o.1=true/\wV o.2=true
 |[],_,_=>λo ho=>by simp at ho
 |o::r,seen,h=>by
  unfold pA at h;split at h
  ·simp at h
  ·rename_i h1
   split at h
   ·simp at h
   ·intro x hx;rcases bn.1 hx with rfl|hx
    ·simpa using h1
    ·exact Cl r (seen++ [o]) h x hx
theorem IJ {code id:Int} {os:List j2} (h:jW code id os=0):∀o∈os,wV o.1=true/\wV o.2=true:=by
 unfold jW at h;split at h
 ·simp at h
 ·split at h
  ·simp at h
  ·split at h
   ·simp at h
   ·exact Cl os [] h
theorem MJ(code:Int):∀(os:List j2) (p:Int×Int),(∀o∈os,wV o.1=true/\wV o.2=true)->0<=p.2->p.2<=255->0<=(oG code os p).2/\(oG code os p).2<=255
 |[],_,_,h1,h2=>⟨h1,h2⟩
 |o::r,p,hb,h1,h2=>by
  have e:oG code (o::r) p=oG code r (kc code p o):=rfl;rw[e];have hq:=(Ba o.2).1 (hb o iC).2;have h3:0<=(kc code p o).2/\(kc code p o).2<=255:=by
   unfold kc;split
   ·split
    ·exact⟨h1,h2⟩
    ·split
     ·exact⟨Int.le_refl _,show(0:Int)<=255 by decide⟩
     ·exact⟨h1,h2⟩
   ·split
    ·split
     ·exact⟨h1,h2⟩
     ·split
      ·exact hq
      ·exact⟨h1,h2⟩
    ·exact⟨h1,h2⟩
  exact MJ code r _ (λx hx=>hb x (by simp[hx])) h3.1 h3.2
theorem yJ.sized {s:LS} (h:yJ s)(os:List j2):yJ (s.sized os):=by
 unfold LS.sized;split
 ·exact⟨h.ok,h.o1,h.o2,h.m1,h.m2,h.f1,h.f2⟩
 ·exact h
theorem yJ.j4 {s:LS} (h:yJ s)(p:kZ):yJ (j4 s p).1:=by
 unfold Go.Proofs.YtieklnlbljejdaaGreatDoor.j4;split
 ·exact h
 ·rename_i rv
  have af2:jW p.1 p.2.1 p.2.2=0:=by simpa using rv
  split
  ·unfold sQ;split
   ·split
    ·exact(h.ev 6 eH eH eH _).sized _
    ·exact h.ev 6 eH eH eH _
   ·exact h.ev 7 eH eH eH _
  ·split
   ·exact h.ev 10 eH eH eH _
   ·split
    ·exact h.ev 11 eH eH eH _
    ·unfold sy;split
     ·exact h
     ·split
      ·split
       ·exact h
       ·exact h.ev 8 eH eH eH _
      ·have ht:yJ (s.tell p.1 p.2.2):=by
        unfold LS.tell;split
        ·have:=MJ p.1 p.2.2 (s.ns,s.nm) (IJ af2) h.m1 h.m2;exact⟨h.ok,h.o1,h.o2,this.1,this.2,h.f1,h.f2⟩
        ·exact h
       exact ht.ev 9 eH eH eH _
open St
namespace Rt
structure ln where
 who:Int
 both:Bool
 left:Int
def nobody:ln:=⟨0,false,0⟩
structure jF where
 m:Int
 L:LS
 rd:ku
 pe:ln
 out:List UInt8
abbrev tV:=Int×Int×List UInt8
structure iY where
 id:Int
 n:Nat
 P:Nat->jF
 K:Int->Option PS
 O:Nat->Int->Option PS
 jA:List tV
 drop:Int
def k8(P:Nat->jF)(i:Nat)(p:jF):Nat->jF:=λx=>if x=i then p else P x
def iY.jd(r:iY)(i:Nat)(p:jF):iY:={r with P:=k8 r.P i p}
def jF.put(p:jF)(c:UInt8)(s:List UInt8):jF:=
 if c≠76/\p.L.st≠9 then p else if s.length+1<=60 then {p with out:=p.out++Plain.mT (c::s)}else p
def jF.say(p:jF):List kZ->jF
 |[] =>p
 |q::r=>(if jW q.1 q.2.1 q.2.2=0 then p.put 76 (lQ q.1 q.2.1 q.2.2)else p).say r
def jF.iW(p:jF)(up:Bool):jF×Nat:=
 let e:=k7 p.L (if up then 0 else 1)
 if e.2.2≠0 then(p,e.2.2)else(({p with L:=e.1,rd:=([],false,false)}:jF).say e.2.1,0)
def j3(L:LS):LS×List kZ:=
 if(kE L).st=3 then((k7 (k7 (kE L) 1).1 0).1,mI L++(k7 (kE L) 1).2.1++(k7 (k7 (kE L) 1).1 0).2.1)else(kE L,mI L)
def jF.tick(p:jF):jF:=({p with L:=(j3 p.L).1}:jF).say (j3 p.L).2
def jF.packet(p:jF)(s:List UInt8):jF:=
 let q:=jf s
 if q.2.2.2=0 then({p with L:=(j4 p.L (q.1,q.2.1,q.2.2.1)).1}:jF).say (j4 p.L (q.1,q.2.1,q.2.2.1)).2.1 else p
def kd(P:Nat->jF)(n:Int):Nat->Option Nat
 |0=>none
 |k+1=>if(P k).pe.both=true/\(P k).pe.who=n/\(match kd P n k with|none=>true|some b=>decide ((P k).m<(P b).m))=true then some k else kd P n k
def jZ(r:iY):List j2:=(gJ 6).filterMap λ(j:Nat)=>(kd r.P ((j:Int)+1) r.n).map λb=>((j:Int)+1,(r.P b).m)
def zd(K:Int->Option PS)(i:Int):Int:=match K i with|none=>0|some q=>q.1
def Cm(K:Int->Option PS)(i:Int):List j2:=match K i with|none=>[] |some q=>q.2
def iY.w7(r:iY)(seq:Int)(es:List j2):iY:={r with K:=uO r.K r.id (seq,es),O:=λi=>uO (r.O i) r.id (seq,es)}
def iY.behind(r:iY)(seq:Int):iY:=if seq<1000000 then r.w7 (seq+1) (jZ r)else r
def iY.change(r:iY):iY:=if Cm r.K r.id=jZ r then r else r.behind (zd r.K r.id)
def iY.meet(r:iY)(i:Nat)(q:ln):iY:=
 let r1:=r.jd i {r.P i with pe:=q}
 if q.who=(r.P i).pe.who/\q.both=(r.P i).pe.both then r1 else
  let r2:=({r1 with O:=λx=>if x=i then λ_=>ν else r1.O x}:iY).change
  if q.both=true then {r2 with O:=λx=>if x=i then pP (r2.O i) r2.K else r2.O x}else r2
def iY.iW(r:iY)(i:Nat)(up:Bool):iY×Nat:=
 let e:=(r.P i).iW up
 if e.2≠0 then(r,e.2)else((r.jd i e.1).meet i nobody,0)
def MK(K:Int->Option PS):nj:=λx y=>match K x with|none=>0|some q=>((q.2.find? λe=>e.1==(y:Int)).map (·.2)).getD 0
def oX(r:iY):List HP:=xQ (oH (MK r.K)) r.id.toNat
def iY.send(r:iY)(t:tV):iY:=
 if t.1=r.id then {r with jA:=r.jA++ [t] }else
  match (if 1<=t.2.1 then(yR (oX r) t.1).bind λh=>kd r.P h.uf r.n else ν)with
  |none=>{r with drop:=r.drop+1}
  |some i=>r.jd i ((r.P i).put 77 (j8 t.1::j8 (t.2.1-1)::t.2.2))
def kf(me:Int)(f s:Int):ln:=if f=me then nobody else⟨f,decide (s=me),4⟩
def jg(p:ln):ln:=if p.left<=1 then nobody else {p with left:=p.left-1}
def iY.take(r:iY)(i:Nat)(c:UInt8)(s:List UInt8):iY:=
 let r1:=if c=76 then r.jd i ((r.P i).packet s)else r
 if(r1.P i).L.st≠9 then r1.meet i nobody
 else if c=72 then(if(mG s).2.2=0 then r1.meet i (kf r1.id (mG s).1 (mG s).2.1)else r1)
 else if c=83 then
  (let q:=St.iT s
   if q.2.2.2≠0 \/(r1.P i).pe.both=false then r1
   else if q.1=r1.id/\0<newF r1.K q.1 q.2.1 q.2.2.1 then r1.behind q.2.1
   else
    let r2:iY:={r1 with K:=lR r1.K q.1 q.2.1 q.2.2.1,O:=oW r1.K r1.O i q.1 q.2.1 q.2.2.1}
    if 0<=newF r1.K q.1 q.2.1 q.2.2.1 then r2.jd i ((r2.P i).put 65 (sj q.1 q.2.1 q.2.2.1))else r2)
 else if c=65 then
  (let q:=St.iT s
   if q.2.2.2=0 then {r1 with O:=λx=>if x=i/\0<=newF r1.K q.1 q.2.1 q.2.2.1 then zc (r1.O i) q.1 else r1.O x}else r1)
 else if c=77 then(if 2<=s.length/\s.length<=22 then r1.send (((s.getD 0 0).toNat:Int),((s.getD 1 0).toNat:Int),s.drop 2)else r1)
 else r1
def iY.takes(r:iY)(i:Nat):List (List UInt8)->iY
 |[] =>r
 |t::l=>(match t with|[] =>r|c::s=>r.take i c s).takes i l
def iY.recv(r:iY)(i:Nat)(l:List UInt8):iY:=
 let a:=kx (r.P i).rd l
 (r.jd i {r.P i with rd:=a.2.2}).takes i a.1
def mN(F:Int->Option PS):List (Int×PS):=(gJ 6).filterMap λ(j:Nat)=>(F ((j:Int)+1)).map λq=>((j:Int)+1,q)
def jF.kA(p:jF):List (Int×PS)->jF
 |[] =>p
 |q::l=>(p.put 83 (sj q.1 q.2.1 q.2.2)).kA l
def iY.jx(r:iY)(i:Nat):iY:=
 let r1:=r.jd i (r.P i).tick
 if(r1.P i).L.st≠9 then r1.meet i nobody else
  let r2:=r1.meet i (jg (r1.P i).pe)
  let p:=(r2.P i).put 72 [j8 r2.id,j8 (r2.P i).pe.who]
  r2.jd i (if(r2.P i).pe.both=true then p.kA (mN (r2.O i))else p)
def iY.jB(r:iY):Nat->iY
 |0=>r
 |k+1=>(r.jB k).jx k
def iY.tick(r:iY):iY:=r.jB r.n
def iY.out(r:iY)(i:Nat):iY:=r.jd i {r.P i with out:=[] }
def EA(id:Int)(m:Nat->Int)(i:Nat):jF:=⟨m i,{Ve (8*id+i+1)with st:=1},([],false,false),nobody,[]⟩
where Ve (g:Int):LS:=⟨255,g,255,g,0,0,0,255,0,0,0⟩
def jX(id:Int)(n:Nat)(m:Nat->Int):iY:=
 ⟨id,n,EA id m,λx=>if x=id then μ (1,[])else ν,λ_ x=>if x=id then μ (1,[])else ν,[],0⟩
def kg(r:iY)(t:Int)(tx:List UInt8):iY×Nat:=if t<1 \/6<t \/20<tx.length then(r,1)else(r.send (t,8,tx),0)
end Rt
theorem RQ(w:eB):(zeroValue 254).run fk w=.ok (.agg #[ι κ 0,ι κ 0,ι κ 0,ι κ 0,ι κ 0,ι κ 0,ι κ 0,ι κ 0,ι κ 0,ι κ 0,ι κ 0,σ ν 0 0]) w:=gT
theorem AK(w:eB)(o:Obj):(w.alloc o).heap[w.heap.size]? =μ o:=aV w o
theorem Vf(S M:Int)(w:eB)(h1:¬S<40)(h2:¬255<S)(h3:¬M<1)(h4:¬255<M):
 fj fk 119 #[ι κ S,ι κ M] w λe w'=>∃B,e=ρ (τ #[π (μ ⟨B,0,ν⟩),η])/\Lk w' B (Qs S M S M 0 0 0 255 0 0 0 (σ ν 0 0))/\w.heap.size<=B/\eN w w':=by
 have hz:=xK;have hzl:=RQ;have hN:=XV S M w h1 h2 h3 h4;clear h1 h2 h3 h4
 go_in
 go_wp2_with(fail);refine hN.mono ?_;rintro e w1 ⟨rfl,hb⟩;have hs:=hb.size;have mf:=(hb.alloc hb.size (γ #[ι κ S,ι κ M] 252))
 have sL:=iA mf (iB _ (γ (Qs S M S M 0 0 0 255 0 0 0 (σ ν 0 0)) 254));have hn:=AK (w1.alloc (γ #[ι κ S,ι κ M] 252)) (γ (Qs S M S M 0 0 0 255 0 0 0 (σ ν 0 0)) 254);have e1:(w1.alloc (γ #[ι κ S,ι κ M] 252)).heap.size=w1.heap.size+1:=iC;rw[e1]at hn;have HN:Hid _:=hn;have HB:Hid _:=sL;clear hn sL hN
 go_wp2
 go_ret2
 exact⟨w1.heap.size+1,rfl,HN.out,eE,HB.out⟩
theorem qB.rest {w:eB} {B:Nat} {s:LS} (h:Lk w B (s.c (σ ν 0 0))):qB w B (λk=>k<w.heap.size) s (σ ν 0 0) [] :=
 ⟨h,Row.nil _ 3,λg hg=>by simp[Value.ownBlock]at hg,h.lt,λ_ hk=>hk,λp hp=>by simp at hp⟩
def KR(S M:Int):LS:=⟨S,M,S,M,0,0,0,255,0,0,0⟩
theorem Cn(S M:Int):(k7 {KR S M with st:=1} 0).2.2=0/\(k7 {KR S M with st:=1} 0).1.st=6/\(k7 {KR S M with st:=1} 0).2.1.length=1:=⟨gT,gT,gT⟩
end Go.Proofs.YtieklnlbljejdaaGreatDoor
