import Derived.Test.YtieklnlbljejdaaGreatDoorM04
open Go.Value renaming int → ι, slice → σ, pointer → π, tuple → τ, nilIface → η
open Go.IntKind renaming i64 → κ
open Go.Ending renaming returned → ρ
open Go.Obj renaming cells → γ
open Option renaming none → ν, some → μ
open Go renaming Value → dZ, World → dY, Calls → eW
open Go.Proofs.Tryz renaming prog → eX
open List renaming range → fW, length_cons → eZ, length_nil → eQ, foldl_nil → fY
open Go.RowKit renaming wrap64 → fX
open ByteArray renaming empty → fE
open Go.Value renaming ownBlock → eu
set_option maxRecDepth 100000
set_option maxHeartbeats 8000000
namespace Go.Proofs.YtieklnlbljejdaaGreatDoor
open Go.RowKit
variable {B g m o:Nat} {F G:Nat->Value} {d e:Bool} {l:List UInt8} {v:Value} {w w':World}
def LS.tell(s:LS)(code:Int)(os:List jE):LS:=if 6<=s.st then {s with ns:=(oY code os (s.ns,s.nm)).1,nm:=(oY code os (s.ns,s.nm)).2}else s
def tP(s:LS)(code id:Int)(os:List jE):LS×List kM×Nat:=
 if id≠s.ow then(s,[],6)else if code=2 then(if os≠od s.qs s.qm then(s,[],6)else sW s 8 (0,id,[]))else sW (s.tell code os) 9 (0,id,[])
theorem Nc(B:Nat)(X:Nat->Prop)(s:LS)(v:dZ)(ps:List PV)(code id:Int)(a:Option Addr)(n cap:Nat)(os:List jE)(w:dY)(hT:jf w)(xe:B≠0)(S8:v.ownBlock≠μ 0)(h:rI w B X s v ps)(hb:Bd s 100)(hn:ps.length<=50)
 (ho:jc w a n os) (Ap:n<=1000):
 eW eX 212 #[π (μ ⟨B,0,ν⟩),.agg #[ι κ code,ι κ id,σ a n cap]] w λe w'=>e=ρ (jm (tP s code id os).2.2)/\nE w w' B X (tP s code id os).1 v ps (tP s code id os).2.1:=by
 have hk:=gW w (γ #[ι κ code,ι κ id,σ a n cap] 37);have hA:=λj=>ar w #[ι κ code,ι κ id,σ a n cap] 37 (0,0) j;have hl:=h.lk.lt;have Q:=h.below hk;have hz:∀w:dY,(zeroValue 37).run eX w=.ok (.agg #[ι κ 0,ι κ 0,σ ν 0 0]) w:=λw=>gq;obtain⟨U,j6⟩:=gg (w.alloc (γ #[ι κ code,ι κ id,σ a n cap] 37));obtain⟨Z,hZ⟩:=gg (w.heap.size);have d0:U.cell? ⟨Z,0,ν⟩=μ (ι κ code):=by rw[<-j6,<-hZ];exact hA 0
 have d1:U.cell? ⟨Z,1,ν⟩=μ (ι κ id):=by rw[<-j6,<-hZ];exact hA 1
 have d2:U.cell? ⟨Z,2,ν⟩=μ (σ a n cap):=by rw[<-j6,<-hZ];exact hA 2
 rw[j6]at Q hk;have HW:Hid _:=j6;have HZ:Hid _:=hZ;have HBZ:Hid (B≠Z):=by show B≠Z;omega
 clear hA j6 hZ hl;have c2:U.cell? ⟨B,2,ν⟩=μ (ι κ s.ns):=Q.lk.cell 2;have c3:U.cell? ⟨B,3,ν⟩=μ (ι κ s.nm):=Q.lk.cell 3;have c4:U.cell? ⟨B,4,ν⟩=μ (ι κ s.qs):=Q.lk.cell 4;have c5:U.cell? ⟨B,5,ν⟩=μ (ι κ s.qm):=Q.lk.cell 5;have c6:U.cell? ⟨B,6,ν⟩=μ (ι κ s.st):=Q.lk.cell 6;have TV:U.cell? ⟨B,10,ν⟩=μ (ι κ s.ow):=Q.lk.cell 10;have XV:=Q.lk.lt;have M:Z<U.heap.size:=ag U _ d1;cases Ta:(id !=s.ow)
 ·have pT:id=s.ow:=by simpa using Ta
  cases h22:(code==2)
  ·have S7:code≠2:=by simpa using h22
   have D:tP s code id os=sW (s.tell code os) 9 (0,id,[]):=by
    unfold tP;rw[af (by simpa using pT),af S7]
   rw[D];clear D S7 pT;by_cases h6:6<=s.st
   ·have et:s.tell code os={s with ns:=(oY code os (s.ns,s.nm)).1,nm:=(oY code os (s.ns,s.nm)).2}:=by unfold LS.tell;rw[ai h6]
    rw[et];clear et;have A:=λ(W:dY) (hW:eE w W)=>TA s.ns s.nm code a n cap os W eh (ho.below hW);generalize (oY code os (s.ns,s.nm)).1=ts at A⊢;generalize (oY code os (s.ns,s.nm)).2=tm at A⊢;obtain⟨E,hE⟩:=gg (jm (sW {s with ns:=ts,nm:=tm} 9 (0,id,[])).2.2);obtain⟨S',hS'⟩:∃S',(sW {s with ns:=ts,nm:=tm} 9 (0,id,[])).1=S':=⟨_,rfl⟩
    obtain⟨O',hO'⟩:∃O',(sW {s with ns:=ts,nm:=tm} 9 (0,id,[])).2.1=O':=⟨_,rfl⟩
    rw[hE,hS',hO'];have HE:Hid _:=And.intro hE (And.intro hS' hO');have HTo:Hid _:=A;clear hE hS' hO' A
    go_in
    go_wp2_with(fail);rw[HW.out,HZ.out]
    go_quiet(fail)
    go_wp2_with(fail);obtain⟨Y,J⟩:=gg (U.drewN nq);have V:eE U Y:=by rw[<-J];exact below_drewN (av _ _) _
    rw[J];have S:=Q.below V;have e0:Y.cell? ⟨Z,0,ν⟩=μ (ι κ code):=(V.cell (p:=⟨Z,0,ν⟩) M).trans d0;have e1:Y.cell? ⟨Z,1,ν⟩=μ (ι κ id):=(V.cell (p:=⟨Z,1,ν⟩) M).trans d1;have e2:Y.cell? ⟨Z,2,ν⟩=μ (σ a n cap):=(V.cell (p:=⟨Z,2,ν⟩) M).trans d2;have f2:Y.cell? ⟨B,2,ν⟩=μ (ι κ s.ns):=S.lk.cell 2;have f3:Y.cell? ⟨B,3,ν⟩=μ (ι κ s.nm):=S.lk.cell 3;have ae5:=S.lk.lt;have I3:Z<Y.heap.size:=ag Y _ e1;have y:=gk hk V;have HR2:Hid _:=S;have hC:=HTo.out Y.drew (jD y);clear d0 d1 d2 c2 c3 c4 c5 c6 TV Q J V XV M S HTo
    go_region_with(go_at_call 231;refine hC.mono ?_;rintro e T ⟨rfl,b3⟩;have QF:eE Y T:=gk (jD (av _ _)) b3;have R3:=HR2.out.below QF;have g2:T.cell? ⟨B,2,ν⟩=μ (ι κ s.ns):=R3.lk.cell 2;have g3:T.cell? ⟨B,3,ν⟩=μ (ι κ s.nm):=R3.lk.cell 3;have gf:∀j,T.frozen? ⟨B,j,ν⟩=false:=R3.lk.frozen;have gl:=R3.lk.lt;have z1:T.cell? ⟨Z,1,ν⟩=μ (ι κ id):=(QF.cell (p:=⟨Z,1,ν⟩) I3).trans e1)
    all_goals
     have R4:rI ((T.setCell ⟨B,2,ν⟩ (ι κ ts)).setCell ⟨B,3,ν⟩ (ι κ tm)) B X {s with ns:=ts,nm:=tm} v ps:=(R3.lq 2 _ {s with ns:=ts} rfl).lq 3 _ _ rfl;have K4:Kept w ((T.setCell ⟨B,2,ν⟩ (ι κ ts)).setCell ⟨B,3,ν⟩ (ι κ tm)) B v.ownBlock:=kL (kL (Kept.iT B _ (gk y QF)) 2 _) 3 _;have H:=uj B X {s with ns:=ts,nm:=tm} v ps ⟨0,id,ν,0,0,[]⟩ 9 _ (K4.tab hT xe S8) R4 ⟨hb.o1,hb.o2,hb.l1,hb.l2⟩ (qS _ _ _ _ _) hn;have De:PV.abs ⟨0,id,ν,0,0,[]⟩=(0,id,[]):=rfl;rw[De,HE.out.1,HE.out.2.1,HE.out.2.2]at H;clear De HE R4 R3 hC;have ao0:Z<T.heap.size:=ag T _ z1;have yv:=HBZ.out;go_wp2_with(fail);refine H.mono ?_;rintro e w5 ⟨rfl,hW⟩;clear H
     go_wp2
     go_ret;exact⟨rfl,hW.from K4⟩
   ·have et:s.tell code os=s:=by unfold LS.tell;rw[af h6]
    rw[et];clear et
    go_in
    go_wp2_with(fail);rw[HW.out,HZ.out]
    go_quiet(fail)
    obtain⟨Y,J⟩:=gg (U.drewN nq);have V:eE U Y:=by rw[<-J];exact below_drewN (av _ _) _
    rw[J];have S:=Q.below V;have e0:Y.cell? ⟨Z,0,ν⟩=μ (ι κ code):=(V.cell (p:=⟨Z,0,ν⟩) M).trans d0;have e1:Y.cell? ⟨Z,1,ν⟩=μ (ι κ id):=(V.cell (p:=⟨Z,1,ν⟩) M).trans d1;have f6:Y.cell? ⟨B,6,ν⟩=μ (ι κ s.st):=S.lk.cell 6;have ae5:=S.lk.lt;have I3:Z<Y.heap.size:=ag Y _ e1;have y:=gk hk V;have H:=uj B X s v ps ⟨0,id,ν,0,0,[]⟩ 9 _ (hT.below y) S hb (qS _ _ _ _ _) hn;clear d0 d1 d2 c2 c3 c4 c5 c6 TV Q J V XV M S;go_wp2_with(fail);refine H.mono ?_;rintro e w5 ⟨rfl,hW⟩;clear H
    go_wp2
    go_ret;exact⟨rfl,hW.from (Kept.iT B v.ownBlock y)⟩
  ·have S7:code=2:=by simpa using h22
   subst S7;have HID:Hid _:=pT;clear h22 pT
   go_in
   go_wp2_with(fail);rw[HW.out,HZ.out]
   go_quiet(fail)
   go_wp2_with(fail);obtain⟨Y,J⟩:=gg (U.drewN nq);have V:eE U Y:=by rw[<-J];exact below_drewN (av _ _) _
   rw[J];have S:=Q.below V;have e0:Y.cell? ⟨Z,0,ν⟩=μ (ι κ 2):=(V.cell (p:=⟨Z,0,ν⟩) M).trans d0;have e1:Y.cell? ⟨Z,1,ν⟩=μ (ι κ id):=(V.cell (p:=⟨Z,1,ν⟩) M).trans d1;have e2:Y.cell? ⟨Z,2,ν⟩=μ (σ a n cap):=(V.cell (p:=⟨Z,2,ν⟩) M).trans d2;have f4:Y.cell? ⟨B,4,ν⟩=μ (ι κ s.qs):=S.lk.cell 4;have f5:Y.cell? ⟨B,5,ν⟩=μ (ι κ s.qm):=S.lk.cell 5;have ae5:=S.lk.lt;have I3:Z<Y.heap.size:=ag Y _ e1;have y:=gk hk V;clear d0 d1 d2 c2 c3 c4 c5 c6 TV Q J V XV M Ta
   go_region_with(first
    |(go_at_call 224;refine(Ka s.qs s.qm _).mono ?_;rintro e T ⟨u,rfl,hM⟩;obtain⟨ua,uc,rfl,un,ul⟩:=hM.shape;have k3:=hM.below;have g2:T.cell? ⟨Z,2,none⟩=some (.slice a n cap):=(k3.cell (p:=⟨Z,2,none⟩) I3).trans e2)
    |(go_at_call 230;refine(AR a ua cap uc n _ os (od s.qs s.qm) T (ho.below (gk (jD y) k3)) hM.opts.2 eh (by have:=G8 s.qs s.qm;omega)).mono ?_;rintro e w4 ⟨rfl,m4,rfl⟩))
   all_goals
    have k04:eE w (T.drewN m4):=below_drewN (gk (jD y) k3) m4;have k24:eE Y (T.drewN m4):=below_drewN (gk (jD (av _ _)) k3) m4;have R4:=S.below k24;have g1:(T.drewN m4).cell? ⟨Z,1,ν⟩=μ (ι κ id):=(k24.cell (p:=⟨Z,1,ν⟩) I3).trans e1;have ao1:Z<(T.drewN m4).heap.size:=ag _ _ g1;have H:=uj B X s v ps ⟨0,id,ν,0,0,[]⟩ 8 _ (hT.below k04) R4 hb (qS _ _ _ _ _) hn;have HR4:Hid _:=R4;clear S R4 k24 hM;by_cases GF:os=od s.qs s.qm
    ·have hd:decide (os=od s.qs s.qm)=true:=by simp[GF]
     have D:tP s 2 id os=sW s 8 (0,id,[]):=by
      unfold tP;rw[af (by simpa using HID.out),ai rfl,af (by simpa using GF)]
     clear GF
     try rw[hd]
     go_wp2_with(fail);refine H.mono ?_;rintro e w5 ⟨rfl,hW⟩;clear H
     go_wp2
     go_ret;rw[D];exact⟨rfl,hW.from (Kept.iT B v.ownBlock k04)⟩
    ·have hd:decide (os=od s.qs s.qm)=false:=by simp[GF]
     have D:tP s 2 id os=(s,[],6):=by
      unfold tP;rw[af (by simpa using HID.out),ai rfl,ai GF]
     clear GF H
     try rw[hd]
     go_wp2
     go_ret;rw[D];exact⟨rfl,nE.still HR4.out (Kept.iT B v.ownBlock k04)⟩
 ·have pT:id≠s.ow:=by simpa using Ta
  have D:tP s code id os=(s,[],6):=by
   unfold tP;rw[ai pT]
  rw[D];clear D pT
  go_in
  go_wp2_with(fail);rw[HW.out,HZ.out]
  go_quiet(fail)
  go_wp2
  go_ret;exact⟨rfl,nE.still (Q.below (below_drewN (av _ _) _)) (Kept.iT B v.ownBlock (below_drewN hk _))⟩
def jK(s:LS)(p:kM):LS×List kM×Nat:=
 if jS p.1 p.2.1 p.2.2≠0 then(s,[],jS p.1 p.2.1 p.2.2)else if p.1=1 then uk s p.2.1 p.2.2 else if p.1=5 then sW s 10 (0,p.2.1,[])else if p.1=6 then sW s 11 (0,p.2.1,[])else tP s p.1 p.2.1 p.2.2
theorem Uo(B:Nat)(X:Nat->Prop)(s:LS)(v:dZ)(ps:List PV)(p:PV)(w:dY)(hT:jf w)(xe:B≠0)(S8:v.ownBlock≠μ 0)(h:rI w B X s v ps)(hb:Bd s 100)(hn:ps.length<=50)(hp:vz w X v p)(m1:0<=s.nm)(m2:s.nm<=255):
 eW eX 185 #[π (μ ⟨B,0,ν⟩),.agg #[ι κ p.code,ι κ p.id,σ p.a p.n p.cap]] w λe w'=>e=ρ (jm (jK s p.abs).2.2)/\nE w w' B X (jK s p.abs).1 v ps (jK s p.abs).2.1:=by
 obtain⟨code,id,a,n,cap,os⟩:=p;obtain⟨M,kh,E,yn,uK⟩:=hp;simp only at M kh E yn;have D:∀k,uH a n=μ k->¬X k/\v.ownBlock≠μ k/\k<w.heap.size:=uK;have De:PV.abs ⟨code,id,a,n,cap,os⟩=(code,id,os):=rfl;rw[De];have J:=gW w (γ #[ι κ code,ι κ id,σ a n cap] 37);have hA:=λj=>ar w #[ι κ code,ι κ id,σ a n cap] 37 (0,0) j;have hC:=uf code id a n cap os _ eh E (M.below J);have hz:∀w:dY,(zeroValue 37).run eX w=.ok (.agg #[ι κ 0,ι κ 0,σ ν 0 0]) w:=λw=>gq;obtain⟨Z,hZ⟩:=gg (w.heap.size);have V:∀j,(w.alloc (γ #[ι κ code,ι κ id,σ a n cap] 37)).cell? ⟨Z,j,ν⟩= #[ι κ code,ι κ id,σ a n cap][j]? :=by rw[<-hZ];exact hA
 have U:Z<(w.alloc (γ #[ι κ code,ι κ id,σ a n cap] 37)).heap.size:=by simp;omega
 have A:Hid _:=hZ;clear hA hZ uK De;by_cases H:jS code id os=0
 ·have e0:jm 0=η:=rfl;rw[H,e0]at hC;have main:∀(ev:Int),∀Y:dY,eE w Y->eW eX 171 #[π (μ ⟨B,0,ν⟩),ι κ ev,.agg #[ι κ 0,ι κ id,σ ν 0 0]] Y λe w'=>e=ρ (jm (sW s ev (0,id,[])).2.2)/\nE w w' B X (sW s ev (0,id,[])).1 v ps (sW s ev (0,id,[])).2.1:=by
   intro ev Y k;refine(uj B X s v ps ⟨0,id,ν,0,0,[]⟩ ev Y (hT.below k) (h.below k) hb (qS _ _ _ _ _) hn).mono ?_;rintro e w' ⟨rfl,T⟩;exact⟨rfl,T.from (Kept.iT B v.ownBlock k)⟩
  have S:jK s (code,id,os)=if code=1 then uk s id os else if code=5 then sW s 10 (0,id,[])else if code=6 then sW s 11 (0,id,[])else tP s code id os:=by
   unfold jK;rw[af (by simpa using H)]
  rw[S];clear S H e0;by_cases u:code=1
  ·subst u;rw[ai rfl];have HH:∀Y:dY,eE w Y->eW eX 211 #[π (μ ⟨B,0,ν⟩),.agg #[ι κ 1,ι κ id,σ a n cap]] Y λe w'=>e=ρ (jm (uk s id os).2.2)/\nE w w' B X (uk s id os).1 v ps (uk s id os).2.1:=by
    intro Y k;refine(KI B X s v ps id a n cap os Y (hT.below k) (h.below k) hb hn (M.below k) (λj OB=>by obtain⟨q1,q2,q3⟩:=D j OB;exact⟨q1,q2,Nat.lt_of_lt_of_le q3 k.size⟩) kh eh m1 m2).mono ?_;rintro e w' ⟨rfl,T⟩;exact⟨rfl,T.from (Kept.iT B v.ownBlock k)⟩
   clear main D h M
   go_in
   go_wp2_with(fail);refine hC.mono ?_;rintro e w1 ⟨rfl,k1⟩;have d0:w1.cell? ⟨Z,0,ν⟩=μ (ι κ 1):=(k1.cell (p:=⟨Z,0,ν⟩) U).trans (V 0);have d1:w1.cell? ⟨Z,1,ν⟩=μ (ι κ id):=(k1.cell (p:=⟨Z,1,ν⟩) U).trans (V 1);have d2:w1.cell? ⟨Z,2,ν⟩=μ (σ a n cap):=(k1.cell (p:=⟨Z,2,ν⟩) U).trans (V 2);have IC:Z<w1.heap.size:=ag w1 _ d0;have Q:=HH w1 (gk J k1);clear hC V U HH;rw[A.out];go_wp2_with(fail);refine Q.mono ?_;rintro e w2 ⟨rfl,T⟩;clear Q
   go_wp2
   go_ret;exact⟨rfl,T⟩
  ·rw[af u];have b1:(code==1)=false:=by simpa using u
   by_cases h5:code=5
   ·subst h5;rw[ai rfl];clear D h M
    go_in
    go_wp2_with(fail);refine hC.mono ?_;rintro e w1 ⟨rfl,k1⟩;have d0:w1.cell? ⟨Z,0,ν⟩=μ (ι κ 5):=(k1.cell (p:=⟨Z,0,ν⟩) U).trans (V 0);have d1:w1.cell? ⟨Z,1,ν⟩=μ (ι κ id):=(k1.cell (p:=⟨Z,1,ν⟩) U).trans (V 1);have IC:Z<w1.heap.size:=ag w1 _ d0;have Q:=main 10 w1 (gk J k1);clear hC V U main;rw[A.out];go_wp2_with(fail);refine Q.mono ?_;rintro e w2 ⟨rfl,T⟩;clear Q
    go_wp2
    go_ret;exact⟨rfl,T⟩
   ·rw[af h5];have b5:(code==5)=false:=by simpa using h5
    by_cases y:code=6
    ·subst y;rw[ai rfl];clear D h M
     go_in
     go_wp2_with(fail);refine hC.mono ?_;rintro e w1 ⟨rfl,k1⟩;have d0:w1.cell? ⟨Z,0,ν⟩=μ (ι κ 6):=(k1.cell (p:=⟨Z,0,ν⟩) U).trans (V 0);have d1:w1.cell? ⟨Z,1,ν⟩=μ (ι κ id):=(k1.cell (p:=⟨Z,1,ν⟩) U).trans (V 1);have IC:Z<w1.heap.size:=ag w1 _ d0;have Q:=main 11 w1 (gk J k1);clear hC V U main;rw[A.out];go_wp2_with(fail);refine Q.mono ?_;rintro e w2 ⟨rfl,T⟩;clear Q
     go_wp2
     go_ret;exact⟨rfl,T⟩
    ·rw[af y];have b6:(code==6)=false:=by simpa using y
     have HH:∀Y:dY,eE w Y->eW eX 212 #[π (μ ⟨B,0,ν⟩),.agg #[ι κ code,ι κ id,σ a n cap]] Y λe w'=>e=ρ (jm (tP s code id os).2.2)/\nE w w' B X (tP s code id os).1 v ps (tP s code id os).2.1:=by
      intro Y k;refine(Nc B X s v ps code id a n cap os Y (hT.below k) xe S8 (h.below k) hb hn (M.below k) eh).mono ?_;rintro e w' ⟨rfl,T⟩;exact⟨rfl,T.from (Kept.iT B v.ownBlock k)⟩
     clear main D h M u h5 y
     go_in
     go_wp2_with(fail);refine hC.mono ?_;rintro e w1 ⟨rfl,k1⟩;have d0:w1.cell? ⟨Z,0,ν⟩=μ (ι κ code):=(k1.cell (p:=⟨Z,0,ν⟩) U).trans (V 0);have d1:w1.cell? ⟨Z,1,ν⟩=μ (ι κ id):=(k1.cell (p:=⟨Z,1,ν⟩) U).trans (V 1);have d2:w1.cell? ⟨Z,2,ν⟩=μ (σ a n cap):=(k1.cell (p:=⟨Z,2,ν⟩) U).trans (V 2);have IC:Z<w1.heap.size:=ag w1 _ d0;have Q:=HH w1 (gk J k1);clear hC V U HH;rw[A.out];go_wp2_with(fail);refine Q.mono ?_;rintro e w2 ⟨rfl,T⟩;clear Q
     go_wp2
     go_ret;exact⟨rfl,T⟩
 ·have S:jK s (code,id,os)=(s,[],jS code id os):=by
   unfold jK;rw[ai H]
  rw[S];have ee:jm (jS code id os)=.iface 128 (ι κ (jS code id os:Int)):=by simp only[jm];rw[af H]
  simp only[ee]at hC⊢;have HR:Hid (∀Y:dY,eE w Y->rI Y B X s v ps):=λY k=>h.below k;clear S H ee h M;generalize jS code id os=f at hC⊢
  go_in
  go_wp2_with(fail);refine hC.mono ?_;rintro e w1 ⟨rfl,k1⟩;clear hC
  go_wp2
  go_ret;exact⟨rfl,nE.still (HR.out _ (gk J k1)) (Kept.iT B v.ownBlock (gk J k1))⟩
def kY(s:LS)(ev:Int):LS×List kM×Nat:=if ev=0 \/ev=1 \/ev=2 \/ev=3 then sW s ev (0,0,[])else(s,[],1)
theorem abF(ev:Int)(B:Nat)(X:Nat->Prop)(s:LS)(v:dZ)(ps:List PV)(w:dY)(Y:jf w)(h:rI w B X s v ps)(hb:Bd s 100)(U:ps.length<=50):
 eW eX 120 #[π (μ ⟨B,0,ν⟩),ι κ ev] w λe w'=>e=ρ (jm (kY s ev).2.2)/\nE w w' B X (kY s ev).1 v ps (kY s ev).2.1:=by
 have hz:=sG;have hc:=uj B X s v ps ⟨0,0,ν,0,0,[]⟩ ev w Y h hb (qS _ _ _ _ _) U;by_cases Z:ev=0 \/ev=1 \/ev=2 \/ev=3
 ·have e:kY s ev=sW s ev (0,0,[]):=by unfold kY;rw[ai Z]
  rw[e];clear h Y hb e;rcases Z with rfl|rfl|rfl|rfl
  all_goals
   go_in
   go_wp2_with(fail);refine hc.mono ?_;rintro e w1 ⟨rfl,V⟩;clear hc
   go_wp2
   go_ret;exact⟨rfl,V⟩
 ·have e:kY s ev=(s,[],1):=by unfold kY;rw[af Z]
  rw[e];have b0:(ev==0)=false:=by simp;omega
  have b1:(ev==1)=false:=by simp;omega
  have b2:(ev==2)=false:=by simp;omega
  have b3:(ev==3)=false:=by simp;omega
  have T:Hid (nE w w B X s v ps []):=nE.still h (Kept.refl _ _ _);clear hc h Y hb e Z
  go_in
  go_wp2
  go_ret;exact⟨rfl,T.out⟩
def X4:List UInt8->Int->Int
 |[],x=>x
 |c::r,x=>X4 r (if c=105 then 4 else if c=122 then 0 else if c=114 then x-1 else if c=116 then x-1 else x)
def X5:List UInt8->Int->Int
 |[],x=>x
 |c::r,x=>X5 r (if c=105 then x else if c=122 then 3 else if c=114 then 3 else if c=116 then 3 else x)
theorem Ha:∀(L:List UInt8) (s:LS),0<=s.ow->s.ow<=255->(qJ L s).st=s.st/\(qJ L s).sz=s.sz/\(qJ L s).fs=s.fs/\(qJ L s).fm=s.fm/\(qJ L s).ns=s.ns/\(qJ L s).nm=s.nm/\(qJ L s).lf=X4 L s.lf/\(qJ L s).wt=X5 L s.wt/\0<=(qJ L s).ow/\(qJ L s).ow<=255
 |[],s,h1,h2=>⟨rfl,rfl,rfl,rfl,rfl,rfl,rfl,rfl,h1,h2⟩
 |c::r,s,h1,h2=>by
  have e:qJ (c::r) s=qJ r (pS c s):=rfl;have u:(pS c s).st=s.st/\(pS c s).sz=s.sz/\(pS c s).fs=s.fs/\(pS c s).fm=s.fm/\(pS c s).ns=s.ns/\(pS c s).nm=s.nm/\(pS c s).lf=(if c=105 then 4 else if c=122 then 0 else if c=114 then s.lf-1 else if c=116 then s.lf-1 else s.lf)/\(pS c s).wt=(if c=105 then s.wt else if c=122 then 3 else if c=114 then 3 else if c=116 then 3 else s.wt)/\0<=(pS c s).ow/\(pS c s).ow<=255:=by
   by_cases c1:c=105
   ·subst c1;exact⟨rfl,rfl,rfl,rfl,rfl,rfl,rfl,rfl,h1,h2⟩
   ·by_cases c2:c=122
    ·subst c2;exact⟨rfl,rfl,rfl,rfl,rfl,rfl,rfl,rfl,h1,h2⟩
    ·by_cases c3:c=114
     ·subst c3;exact⟨rfl,rfl,rfl,rfl,rfl,rfl,rfl,rfl,by show 0<=(s.ow+1) %256;omega,by show(s.ow+1) %256<=255;omega⟩
     ·by_cases c4:c=116
      ·subst c4;exact⟨rfl,rfl,rfl,rfl,rfl,rfl,rfl,rfl,by show 0<=(s.ow+1) %256;omega,by show(s.ow+1) %256<=255;omega⟩
      ·have J:pS c s=s:=by simp[pS,c1,c2,c3,c4]
       rw[J,af c1,af c2,af c3,af c4,af c1,af c2,af c3,af c4];exact⟨rfl,rfl,rfl,rfl,rfl,rfl,rfl,rfl,h1,h2⟩
  obtain⟨y,j,p3,h,S,U,H,Q,D,Z⟩:=u;obtain⟨q1,q2,X,T,A,q6,V,M,E,Y⟩:=Ha r (pS c s) D Z;rw[e];exact⟨q1.trans y,q2.trans j,X.trans p3,T.trans h,A.trans S,q6.trans U,by rw[V,H];rfl,by rw[M,Q];rfl,E,Y⟩
def xJ(st lf wt:Int):Bool:=decide (0<=st)&&decide (st<=9)&&decide (0<=lf)&&decide (lf<=4)&& (!(decide (st=7)||decide (st=9))||decide (lf=4))&&decide (0<=wt)&&decide (wt<=3)&& (!(decide (4<=st)&&decide (st<=8))||decide (1<=wt))
theorem sH(st lf wt:Int):xJ st lf wt=true↔(0<=st/\st<=9/\0<=lf/\lf<=4/\(st=7 \/st=9->lf=4)/\0<=wt/\wt<=3/\(4<=st/\st<=8->1<=wt)):=by
 simp only[xJ,Bool.and_eq_true,Bool.or_eq_true,Bool.not_eq_true',decide_eq_true_eq,decide_eq_false_iff_not,Bool.or_eq_false_iff,Bool.and_eq_false_iff];constructor
 ·rintro⟨⟨⟨⟨⟨⟨⟨a,b⟩,c⟩,d⟩,e⟩,f⟩,g⟩,h⟩;exact⟨a,b,c,d,eh,f,g,eh⟩
 ·rintro⟨a,b,c,d,e,f,g,h⟩;exact⟨⟨⟨⟨⟨⟨⟨a,b⟩,c⟩,d⟩,eh⟩,f⟩,g⟩,eh⟩
theorem abG:((fW 12).all λe=>(fW 10).all λs=>(fW 5).all λl=>(fW 4).all λt=> !(e !=4&&e !=5&&xJ (s:Int) (l:Int) (t:Int)&& ((lp s e).2.2==0))||xJ (lp s e).2.1 (X4 (lp s e).1 (l:Int)) (X5 (lp s e).1 (t:Int)))=true:=by decide+kernel
theorem Up(e:Nat)(U:e<12)(s:Nat)(hs:s<10)(l:Nat)(hl:l<5)(t:Nat)(Y:t<4)(h:e≠4/\e≠5/\xJ (s:Int) (l:Int) (t:Int)=true/\(lp s e).2.2=0):xJ (lp s e).2.1 (X4 (lp s e).1 (l:Int)) (X5 (lp s e).1 (t:Int))=true:=by
 have Z:=a8.1 (a8.1 (a8.1 (a8.1 abG e (aQ.2 U)) s (aQ.2 hs)) l (aQ.2 hl)) t (aQ.2 Y);obtain⟨S,V,X,T⟩:=h;have b4:(e !=4)=true:=by simpa using S
 have b5:(e !=5)=true:=by simpa using V
 have b7:((lp s e).2.2==0)=true:=by simpa using T
 rw[b4,b5,X,b7]at Z;simpa using Z
theorem KK:∀s:Nat,s<10->∀l:Nat,l<5->(4<=s/\s<=8/\1<=l/\xJ (s:Int) (l:Int) 1=true)->xJ (lp s 4).2.1 (X4 (lp s 4).1 (l:Int)) (X5 (lp s 4).1 0)=true:=by decide+kernel
theorem KL:∀s:Nat,s<10->(4<=s/\s<=8/\xJ (s:Int) 0 1=true)->xJ (lp s 5).2.1 (X4 (lp s 5).1 0) (X5 (lp s 5).1 0)=true:=by decide+kernel
structure zt(s:LS):Prop where
 ok:xJ s.st s.lf s.wt=true
 o1:0<=s.ow
 o2:s.ow<=255
 m1:0<=s.nm
 m2:s.nm<=255
 f1:0<=s.fm
 f2:s.fm<=255
theorem zt.bd {s:LS} (h:zt s):Bd s 100:=by
 obtain⟨a,b,c,d,_⟩:=(sH _ _ _).1 h.ok;exact⟨h.o1,h.o2,eh,eh⟩
theorem zt.wt {s:LS} (h:zt s):0<=s.wt/\s.wt<=3:=by
 obtain⟨_,_,_,_,_,a,b,_⟩:=(sH _ _ _).1 h.ok;exact⟨a,b⟩
theorem yx {s:LS} (h1:0<=s.ow)(h2:s.ow<=255)(m1:0<=s.nm)(m2:s.nm<=255)(f1:0<=s.fm)(f2:s.fm<=255)(ev:Int)(Y:xJ (jh s.st ev).2.1 (X4 (jh s.st ev).1 s.lf) (X5 (jh s.st ev).1 s.wt)=true):zt (nW s ev):=by
 unfold nW;obtain⟨D,nx,f,J⟩:∃D nx f,jh s.st ev=(D,nx,f):=⟨_,_,_,rfl⟩
 rw[J]at Y⊢;simp only at Y⊢;have S:(s.next nx).st=nx/\(s.next nx).lf=s.lf/\(s.next nx).wt=s.wt/\(s.next nx).ow=s.ow/\(s.next nx).fm=s.fm/\((s.next nx).nm=s.nm \/(s.next nx).nm=s.fm):=by
  unfold LS.next;split
  ·exact⟨rfl,rfl,rfl,rfl,rfl,.inr rfl⟩
  ·exact⟨rfl,rfl,rfl,rfl,rfl,.inl rfl⟩
 obtain⟨n1,M,n3,n4,X,n6⟩:=S;obtain⟨q1,_,_,V,_,q6,U,T,Q,Z⟩:=Ha D (s.next nx) eh eh;refine⟨by rw[q1,U,T,n1,M,n3];exact Y,Q,Z,?_,?_,by rw[V,X];exact f1,by rw[V,X];exact f2⟩
 ·rw[q6];rcases n6 with e|e<;>rw[e] <;>assumption
 ·rw[q6];rcases n6 with e|e<;>rw[e] <;>assumption
theorem zt.ev {s:LS} (h:zt s)(e:Nat)(Y:e<12)(T:e≠4)(U:e≠5)(zo:kM):zt (sW s e zo).1:=by
 by_cases hf:(jh s.st e).2.2=0
 ·rw[tO _ hf];obtain⟨a,b,c,d,_,f,g,_⟩:=(sH _ _ _).1 h.ok;refine yx h.o1 h.o2 h.m1 h.m2 h.f1 h.f2 e ?_;have V:=h.ok;obtain⟨st,Z⟩:∃st:Nat,s.st=st:=⟨s.st.toNat,eh⟩
  obtain⟨l,hl⟩:∃l:Nat,s.lf=l:=⟨s.lf.toNat,eh⟩
  obtain⟨t,X⟩:∃t:Nat,s.wt=t:=⟨s.wt.toNat,eh⟩
  rw[Z]at hf;rw[nA st e eh Y]at hf;rw[Z,hl,X,nA st e eh Y];rw[Z,hl,X]at V;exact Up e Y st eh l eh t eh ⟨T,U,V,hf⟩
 ·rw[wa _ hf];exact h
theorem zt.kY {s:LS} (h:zt s)(ev:Int):zt (kY s ev).1:=by
 unfold Go.Proofs.YtieklnlbljejdaaGreatDoor.kY;split
 ·rename_i Z
  rcases Z with rfl|rfl|rfl|rfl
  ·exact h.ev 0 eA eA eA _
  ·exact h.ev 1 eA eA eA _
  ·exact h.ev 2 eA eA eA _
  ·exact h.ev 3 eA eA eA _
 ·exact h
theorem zt.tick {s:LS} (h:zt s):zt (kj s):=by
 obtain⟨a,b,c,d,J,f,g,M⟩:=(sH _ _ _).1 h.ok;unfold kj;by_cases Q:4<=s.st/\s.st<=8
 ·rw[af (by simp;omega)];by_cases S:0<s.wt-1
  ·rw[ai S];exact⟨(sH _ _ _).2 ⟨a,b,c,d,J,by show 0<=s.wt-1;omega,by show s.wt-1<=3;omega,λ_=>by show 1<=s.wt-1;omega⟩,h.o1,h.o2,h.m1,h.m2,h.f1,h.f2⟩
  ·rw[af S];have T:s.wt=1:=by have:=M Q;omega
   have U:s.wt-1=0:=eh;have X:=h.ok;obtain⟨st,Y⟩:∃st:Nat,s.st=st:=⟨s.st.toNat,eh⟩
   obtain⟨l,hl⟩:∃l:Nat,s.lf=l:=⟨s.lf.toNat,eh⟩
   by_cases Z:0<s.lf
   ·rw[ai Z];refine yx (s:={s with wt:=s.wt-1}) h.o1 h.o2 h.m1 h.m2 h.f1 h.f2 4 ?_;show xJ (jh s.st 4).2.1 (X4 (jh s.st 4).1 s.lf) (X5 (jh s.st 4).1 (s.wt-1))=true;rw[U,Y,hl,show(4:Int)=((4:Nat):Int)from rfl,nA st 4 eh eA];rw[Y,hl,T]at X;exact KK st eh l eh ⟨eh,eh,eh,X⟩
   ·rw[af Z];refine yx (s:={s with wt:=s.wt-1}) h.o1 h.o2 h.m1 h.m2 h.f1 h.f2 5 ?_;show xJ (jh s.st 5).2.1 (X4 (jh s.st 5).1 s.lf) (X5 (jh s.st 5).1 (s.wt-1))=true;have V:s.lf=0:=eh;rw[U,Y,V,show(5:Int)=((5:Nat):Int)from rfl,nA st 5 eh eA];rw[Y,V,T]at X;exact KL st eh ⟨eh,eh,X⟩
 ·rw[ai (by simp;omega)];exact h
theorem Ea:∀(os seen:List jE),pW seen os=0->∀o∈os,yq o.1=true/\yq o.2=true
 |[],_,_=>λo Y=>by simp at Y
 |o::r,seen,h=>by
  unfold pW at h;split at h
  ·simp at h
  ·rename_i Z
   split at h
   ·simp at h
   ·intro x hx;rcases aP.1 hx with rfl|hx
    ·simpa using Z
    ·exact Ea r (seen++ [o]) h x hx
theorem KM {code id:Int} {os:List jE} (h:jS code id os=0):∀o∈os,yq o.1=true/\yq o.2=true:=by
 unfold jS at h;split at h
 ·simp at h
 ·split at h
  ·simp at h
  ·split at h
   ·simp at h
   ·exact Ea os [] h
theorem O9(code:Int):∀(os:List jE) (p:Int×Int),(∀o∈os,yq o.1=true/\yq o.2=true)->0<=p.2->p.2<=255->0<=(oY code os p).2/\(oY code os p).2<=255
 |[],_,_,h1,h2=>⟨h1,h2⟩
 |o::r,p,hb,h1,h2=>by
  have e:oY code (o::r) p=oY code r (j7 code p o):=rfl;rw[e];have Y:=(Db o.2).1 (hb o gY).2;have Z:0<=(j7 code p o).2/\(j7 code p o).2<=255:=by
   unfold j7;split
   ·split
    ·exact⟨h1,h2⟩
    ·split
     ·exact⟨Int.le_refl _,show(0:Int)<=255 by decide⟩
     ·exact⟨h1,h2⟩
   ·split
    ·split
     ·exact⟨h1,h2⟩
     ·split
      ·exact Y
      ·exact⟨h1,h2⟩
    ·exact⟨h1,h2⟩
  exact O9 code r _ (λx hx=>hb x (by simp[hx])) Z.1 Z.2
theorem zt.sized {s:LS} (h:zt s)(os:List jE):zt (s.sized os):=by
 unfold LS.sized;split
 ·exact⟨h.ok,h.o1,h.o2,h.m1,h.m2,h.f1,h.f2⟩
 ·exact h
theorem zt.jK {s:LS} (h:zt s)(p:kM):zt (jK s p).1:=by
 unfold Go.Proofs.YtieklnlbljejdaaGreatDoor.jK;split
 ·exact h
 ·rename_i Y
  have Z:jS p.1 p.2.1 p.2.2=0:=by simpa using Y
  split
  ·unfold uk;split
   ·split
    ·exact(h.ev 6 eA eA eA _).sized _
    ·exact h.ev 6 eA eA eA _
   ·exact h.ev 7 eA eA eA _
  ·split
   ·exact h.ev 10 eA eA eA _
   ·split
    ·exact h.ev 11 eA eA eA _
    ·unfold tP;split
     ·exact h
     ·split
      ·split
       ·exact h
       ·exact h.ev 8 eA eA eA _
      ·have X:zt (s.tell p.1 p.2.2):=by
        unfold LS.tell;split
        ·have:=O9 p.1 p.2.2 (s.ns,s.nm) (KM Z) h.m1 h.m2;exact⟨h.ok,h.o1,h.o2,this.1,this.2,h.f1,h.f2⟩
        ·exact h
       exact X.ev 9 eA eA eA _
def qp(w:dY)(g o m:Nat)(F:Nat->dZ):Prop:=∀j,j<m->w.cell? ⟨g,o+j,ν⟩=μ (F j)/\w.frozen? ⟨g,o+j,ν⟩=false
def sZ(F:Nat->dZ)(i:Nat)(v:dZ):Nat->dZ:=λj=>if j=i then v else F j
theorem pM(F:Nat->dZ)(i:Nat)(v:dZ):sZ F i v i=v:=by simp[sZ]
theorem jJ(F:Nat->dZ) {i j:Nat} (v:dZ)(h:j≠i):sZ F i v j=F j:=by simp[sZ,h]
theorem mE(w:dY)(a x:Addr)(v:dZ):(w.setCell a v).frozen? x=w.frozen? x:=gY
theorem qp.cell {w:dY} {g o m:Nat} {F:Nat->dZ} (h:qp w g o m F)(j:Nat)(Z:j<m):w.cell? ⟨g,o+j,ν⟩=μ (F j):=(h j Z).1
theorem qp.fz(h:qp w g o m F)(j:Nat)(Z:j<m):w.frozen? ⟨g,o+j,ν⟩=false:=(h j Z).2
theorem qp.lt(h:qp w g o m F)(Z:0<m):g<w.heap.size:=ag w _ (h.cell 0 Z)
theorem qp.set(h:qp w g o m F)(i:Nat)(hi:i<m)(v:dZ):qp (w.setCell ⟨g,o+i,ν⟩ v) g o m (sZ F i v):=by
 intro j Z;refine⟨?_,(mE _ _ _ _).trans (h.fz j Z)⟩;by_cases e:j=i
 ·subst e;rw[pM];exact World.cell?_setCell_same _ _ _ (h.cell j Z)
 ·rw[jJ F v e,aW _ _ _ _ (λe=>by have:=congrArg Addr.off e;simp at this;omega)];exact h.cell j Z
theorem qp.keep(h:qp w g o m F)(hb:w'.heap[g]? =w.heap[g]?):qp w' g o m F:=λj Z=>by
 refine⟨(aj (a:=⟨g,o+j,ν⟩) hb).trans (h.cell j Z),?_⟩;have:w'.frozen? ⟨g,o+j,ν⟩=w.frozen? ⟨g,o+j,ν⟩:=by
  simp only[World.frozen?,hb]
 exact this.trans (h.fz j Z)
theorem qp.below(h:qp w g o m F)(Z:0<m)(hb:eE w w'):qp w' g o m F:=h.keep (hb.block g (h.lt Z))
theorem qp.sub(h:qp w g o m F)(a k:Nat)(hk:a+k<=m):qp w g (o+a) k (λj=>F (a+j)):=λj hj=>by
 have:=h (a+j) eh;rw[Nat.add_assoc];exact this
theorem qp.congr(h:qp w g o m F)(e:∀j,j<m->F j=G j):qp w g o m G:=λj Z=>by rw[<-e j Z];exact h j Z
structure lh(w w':dY)(g o m:Nat):Prop where
 os:w'.os=w.os
 tape:w'.tape=w.tape
 output:w'.output=w.output
 size:w.heap.size<=w'.heap.size
 block:∀i,i<w.heap.size->i≠g->w'.heap[i]? =w.heap[i]?
 cell:∀j,j<o \/o+m<=j->w'.cell? ⟨g,j,ν⟩=w.cell? ⟨g,j,ν⟩
 fz:∀j,w'.frozen? ⟨g,j,ν⟩=w.frozen? ⟨g,j,ν⟩
theorem lh.refl(w:dY)(g o m:Nat):lh w w g o m:=⟨rfl,rfl,rfl,Nat.le_refl _,λ_ _ _=>rfl,λ_ _=>rfl,λ_=>rfl⟩
theorem lh.trans {a b c:dY} {g o m:Nat} (h:lh a b g o m)(k:lh b c g o m):lh a c g o m:=
 ⟨k.os.trans h.os,k.tape.trans h.tape,k.output.trans h.output,Nat.le_trans h.size k.size,λi hi Z=>(k.block i (Nat.lt_of_lt_of_le hi h.size) Z).trans (h.block i hi Z),λj Y=>(k.cell j Y).trans (h.cell j Y),λj=>(k.fz j).trans (h.fz j)⟩
theorem lh.set {x:dY} (h:lh w x g o m)(j:Nat)(h1:o<=j)(h2:j<o+m)(v:dZ):lh w (x.setCell ⟨g,j,ν⟩ v) g o m:=by
 have b1:Below 0 x (x.setCell ⟨g,j,ν⟩ v):=(av 0 x).setCell (Nat.zero_le _) _;exact⟨b1.os.trans h.os,b1.tape.trans h.tape,b1.output.trans h.output,Nat.le_trans h.size b1.size,λi hi Z=>(aq _ _ _ i Z).trans (h.block i hi Z),
  λi hi=>(aW _ _ _ _ (λe=>by have:=congrArg Addr.off e;simp at this;omega)).trans (h.cell i hi),λi=>(mE _ _ _ _).trans (h.fz i)⟩
theorem lh.drewN {w x:dY} {g o m:Nat} (h:lh w x g o m)(n:Nat):lh w (x.drewN n) g o m:=⟨h.os,h.tape,h.output,h.size,h.block,h.cell,h.fz⟩
theorem lh.drew {w x:dY} {g o m:Nat} (h:lh w x g o m):lh w x.drew g o m:=⟨h.os,h.tape,h.output,h.size,h.block,h.cell,h.fz⟩
theorem qp.join {a k:Nat} (h:qp w g o m F)(Y:lh w w' g (o+a) k)(V:qp w' g (o+a) k G):qp w' g o m (λj=>if a<=j/\j<a+k then G (j-a)else F j):=λj X=>by
 by_cases e:a<=j/\j<a+k
 ·have Z:=V (j-a) eh;have U:o+a+(j-a)=o+j:=eh;rw[U]at Z;simp only[if_pos e];exact Z
 ·simp only[if_neg e];exact⟨(Y.cell (o+j) eh).trans (h.cell j X),(Y.fz _).trans (h.fz j X)⟩
open Plain
structure Df(F:Nat->dZ)(l:List UInt8)(e d:Bool):Prop where
 len:l.length<=62
 live:∀i:Nat,i<62->∃x:Int,F i=.int .u8 x
 body:∀(i:Nat) (h:i<l.length),F i=.int .u8 (l[i].toNat:Int)
 many:F 62=ι κ (l.length:Int)
 esc:F 63=.bool e
 bad:F 64=.bool d
def Rd(w:dY)(g o:Nat)(l:List UInt8)(e d:Bool):Prop:=∃F,qp w g o 65 F/\Df F l e d
theorem Df.I4(h:Df F l e d)(d':Bool):Df (sZ F 64 (.bool d')) l e d':=by
 have hlen:=h.len;refine⟨hlen,λi hi=> ?_,λi hi=> ?_,?_,?_,pM _ _ _⟩
 ·obtain⟨x,hx⟩:=h.live i hi;exact⟨x,by rw[jJ _ _ eh];exact hx⟩
 ·rw[jJ _ _ eh];exact h.body i hi
 ·rw[jJ _ _ eh];exact h.many
 ·rw[jJ _ _ eh];exact h.esc
theorem Df.Nf(h:Df F l e d)(e':Bool):Df (sZ F 63 (.bool e')) l e' d:=by
 have hlen:=h.len;refine⟨hlen,λi hi=> ?_,λi hi=> ?_,?_,pM _ _ _,?_⟩
 ·obtain⟨x,hx⟩:=h.live i hi;exact⟨x,by rw[jJ _ _ eh];exact hx⟩
 ·rw[jJ _ _ eh];exact h.body i hi
 ·rw[jJ _ _ eh];exact h.many
 ·rw[jJ _ _ eh];exact h.bad
theorem Df.push(h:Df F l e d)(hl:l.length<62)(c:UInt8):
 Df (sZ (sZ F l.length (.int .u8 (c.toNat:Int))) 62 (ι κ ((l.length:Int)+1))) (l++ [c]) e d:=by
 refine⟨by simp;omega,λi hi=> ?_,λi hi=> ?_,?_,?_,?_⟩
 ·rw[jJ _ _ eh];by_cases Z:i=l.length
  ·rw[Z,pM];exact⟨_,rfl⟩
  ·rw[jJ _ _ Z];exact h.live i hi
 ·have kS:i<l.length+1:=by simpa using hi
  rw[jJ _ _ eh];by_cases Z:i=l.length
  ·subst Z;rw[pM];simp
  ·rw[jJ _ _ Z,h.body i eh,List.getElem_append_left eh]
 ·rw[pM];simp
 ·rw[jJ _ _ eh,jJ _ _ eh];exact h.esc
 ·rw[jJ _ _ eh,jJ _ _ eh];exact h.bad
def rV:List UInt8×Bool×Bool->UInt8->List UInt8×Bool×Bool
 |(l,e,d),c=>
  if c<32 \/(c=125/\e=true)then(l,e,true)
  else if c=125 then(l,true,d)
  else if l.length=62 then(l,false,true)
  else(l++ [if e then c^^^32 else c],false,d)
theorem Uq(g o:Nat)(l:List UInt8)(e d:Bool)(c:UInt8)(w:dY)(h:Rd w g o l e d):
 eW eX 182 #[π (μ ⟨g,o,ν⟩),.int .u8 (c.toNat:Int)] w λe' w'=>e'=ρ (τ #[])/\Rd w' g o (rV (l,e,d) c).1 (rV (l,e,d) c).2.1 (rV (l,e,d) c).2.2/\lh w w' g o 65:=by
 obtain⟨F,hC,M⟩:=h;have S:Hid _:=M;have hlen:=M.len;have Z:c<32↔(c.toNat:Int)<32:=by rw[UInt8.lt_iff_toNat_lt];show c.toNat<32↔_;omega
 have Q:c=125↔((c.toNat:Int)==125)=true:=by
  rw[<-UInt8.toNat_inj,dU];show c.toNat=125↔_;omega
 have ae9:w.cell? ⟨g,o+62,ν⟩=μ (ι κ (l.length:Int)):=(hC.cell 62 eA).trans (congrArg μ M.many);have ajR:w.cell? ⟨g,o+63,ν⟩=μ (.bool e):=(hC.cell 63 eA).trans (congrArg μ M.esc);have wh:w.cell? ⟨g,o+64,ν⟩=μ (.bool d):=(hC.cell 64 eA).trans (congrArg μ M.bad);have X:∀i,i<65->w.frozen? ⟨g,o+i,ν⟩=false:=λi hi=>hC.fz i hi;have f62:=X 62 eA;have f63:=X 63 eA;have f64:=X 64 eA;have OT:=hC.lt eA;have T:Hid (qp w g o 65 F):=hC;clear hC M;by_cases u:(c.toNat:Int)<32
 ·have V:rV (l,e,d) c=(l,e,true):=by simp[rV,Z.mpr u]
  rw[V];clear Z Q X
  go_in
  go_wp2
  first|go_end0|refine iJ rfl rfl ?_
  exact⟨rfl,⟨_,T.out.set 64 eA _,S.out.I4 true⟩,(lh.refl _ _ _ _).set _ eh eh _⟩
 ·have Y:¬c<32:=λx=>u (Z.mp x);by_cases H:((c.toNat:Int)==125)=true
  ·have A:c=125:=Q.mpr H;cases e
   ·have V:rV (l,false,d) c=(l,true,d):=by simp[rV,A]
    rw[V];clear Z Q A Y X
    go_in
    go_wp2
    first|go_end0|refine iJ rfl rfl ?_
    exact⟨rfl,⟨_,T.out.set 63 eA _,S.out.Nf true⟩,(lh.refl _ _ _ _).set _ eh eh _⟩
   ·have V:rV (l,true,d) c=(l,true,true):=by simp[rV,A]
    rw[V];clear Z Q A Y X
    go_in
    go_wp2
    first|go_end0|refine iJ rfl rfl ?_
    exact⟨rfl,⟨_,T.out.set 64 eA _,S.out.I4 true⟩,(lh.refl _ _ _ _).set _ eh eh _⟩
  ·have AB:((c.toNat:Int)==125)=false:=by simpa using H
   have E:¬c=125:=λx=>H (Q.mp x);have hx:=ZR c;by_cases D:((l.length:Int)==62)=true
   ·have U:l.length=62:=by have:=dU.mp D;omega
    have V:rV (l,e,d) c=(l,false,true):=by simp[rV,E,Y,U]
    rw[V];have L62:Hid _:=U;clear Z Q E Y U H X;cases e
    ·go_in
     go_wp2
     first|go_end0|refine iJ rfl rfl ?_
     exact⟨rfl,⟨_,T.out.set 64 eA _,S.out.I4 true⟩,(lh.refl _ _ _ _).set _ eh eh _⟩
    ·go_in
     go_wp2
     first|go_end0|refine iJ rfl rfl ?_
     exact⟨rfl,⟨_,(T.out.set 63 eA _).set 64 eA _,(S.out.Nf false).I4 true⟩,((lh.refl _ _ _ _).set _ eh eh _).set _ eh eh _⟩
   ·have tN:((l.length:Int)==62)=false:=by simpa using D
    have U:l.length<62:=by
     have:¬(l.length:Int)=62:=λe=>D (by simp[e]);omega
    have amJ:(l.length:Int)<62:=eh;have V:rV (l,e,d) c=(l++ [if e then c^^^32 else c],false,d):=by simp[rV,E,Y,Nat.ne_of_lt U]
    rw[V];obtain⟨x,J⟩:=S.out.live _ U;have hcell:w.cell? ⟨g,o+l.length,ν⟩=μ (.int .u8 x):=(T.out.cell _ eh).trans (congrArg μ J);have fl:=X l.length eh;clear Z Q E Y H D J X;cases e
    ·go_in
     go_wp2
     go_region
     go_wp2_with(fail)
     go_end0
     exact⟨rfl,⟨_,(T.out.set _ eh _).set 62 eA _,S.out.push U c⟩,(((lh.refl _ _ _ _).set _ eh eh _).set _ eh eh _).drew⟩
    ·go_in
     go_wp2
     go_region
     go_wp2_with(fail)
     go_end0
     refine⟨rfl,⟨_,((T.out.set 63 eA _).set _ eh _).set 62 eA _,?_⟩,((((lh.refl _ _ _ _).set _ eh eh _).set _ eh eh _).set _ eh eh _).drew⟩;have y:=(S.out.Nf false).push U (c^^^32);rw[UInt8.toNat_xor]at y;exact y
def nF(l:List UInt8)(e d:Bool):List UInt8×Bool×Nat:=
 if d=true \/e=true then([],true,4)
 else if l.length=0 then([],false,0)
 else if l.length<2 then([],true,4)
 else if(Plain.sum (l.take (l.length-2)):Int)=((l.getD (l.length-2) 0).toNat:Int)+256*((l.getD (l.length-1) 0).toNat:Int)then(l.take (l.length-2),true,0)
 else([],true,5)
theorem afa(s:ByteArray)(w:dY)(hs:s.size<=maxLen):
 eW eX 210 #[.string s] w λe w'=>e=ρ (ι κ (Plain.sum s.data.toList:Nat))/\w'=w:=(OQ s w hs).mono λ_ _ ⟨a,b⟩=>⟨a,b.symm⟩
theorem Pa(a b:UInt8):fX (fX (a.toNat:Int)+fX (256*fX (b.toNat:Int)))=(a.toNat:Int)+256*(b.toNat:Int):=by
 have ha:=a.toNat_lt;have hb:=b.toNat_lt;rw[cG (a.toNat:Int) ⟨eh,eh⟩,cG (b.toNat:Int) ⟨eh,eh⟩,cG (256*(b.toNat:Int)) ⟨eh,eh⟩,cG _ ⟨eh,eh⟩]
theorem Ni(l:List UInt8)(Y:¬l.length<2)
 (Z:(((Plain.sum (l.take (l.length-2)):Nat):Int) !=fX (fX ((l[l.length-2]'(by omega)).toNat:Int)+fX (256*fX ((l[l.length-1]'(by omega)).toNat:Int))))=true):nF l false false=([],true,5):=by
 rw[Pa]at Z;have V:¬((Plain.sum (l.take (l.length-2)):Nat):Int)=((l[l.length-2]'(by omega)).toNat:Int)+256*((l[l.length-1]'(by omega)).toNat:Int):=by simpa using Z
 have X:l.getD (l.length-2) 0=l[l.length-2]'(by omega):=by simp[show l.length-2<l.length by omega]
 have U:l.getD (l.length-1) 0=l[l.length-1]'(by omega):=by simp[show l.length-1<l.length by omega]
 unfold nF;rw[af gY,af eh,af Y,X,U,af V]
theorem KN(l:List UInt8)(Y:¬l.length<2)
 (Z:(((Plain.sum (l.take (l.length-2)):Nat):Int) !=fX (fX ((l[l.length-2]'(by omega)).toNat:Int)+fX (256*fX ((l[l.length-1]'(by omega)).toNat:Int))))=false):nF l false false=(l.take (l.length-2),true,0):=by
 rw[Pa]at Z;have V:((Plain.sum (l.take (l.length-2)):Nat):Int)=((l[l.length-2]'(by omega)).toNat:Int)+256*((l[l.length-1]'(by omega)).toNat:Int):=by simpa using Z
 have X:l.getD (l.length-2) 0=l[l.length-2]'(by omega):=by simp[show l.length-2<l.length by omega]
 have U:l.getD (l.length-1) 0=l[l.length-1]'(by omega):=by simp[show l.length-1<l.length by omega]
 unfold nF;rw[af gY,af eh,af Y,X,U,ai V]
theorem zv:eX.arrayLen 137=62:=gq
theorem Eb:eX.underlying 137=μ (.array (eX.arrayLen 137) (eX.elem 137)):=gq
theorem Nj(w:dY):(sizeOf (eX.elem 137)).run eX w=.ok 1 w:=gq
theorem QH(g o:Nat)(l:List UInt8)(e d:Bool)(w:dY)(h:Rd w g o l e d):
 eW eX 183 #[π (μ ⟨g,o,ν⟩)] w λe' w'=>e'=ρ (τ #[.string ⟨(nF l e d).1.toArray⟩,.bool (nF l e d).2.1,jm (nF l e d).2.2])/\∃n,w'=w.drewN n:=by
 obtain⟨F,hC,X⟩:=h;have hlen:=X.len;have ae9:w.cell? ⟨g,o+62,ν⟩=μ (ι κ (l.length:Int)):=(hC.cell 62 eA).trans (congrArg μ X.many);have ajR:w.cell? ⟨g,o+63,ν⟩=μ (.bool e):=(hC.cell 63 eA).trans (congrArg μ X.esc);have wh:w.cell? ⟨g,o+64,ν⟩=μ (.bool d):=(hC.cell 64 eA).trans (congrArg μ X.bad);have Y:∀i (h:i<l.length),w.cell? ⟨g,o+i,ν⟩=μ (.int .u8 (l[i].toNat:Int)):=λi h=>(hC.cell i eh).trans (congrArg μ (X.body i h));have OT:=hC.lt eA;clear hC X;by_cases hd:d=true \/e=true
 ·have Z:nF l e d=([],true,4):=by simp[nF,hd]
  rw[Z];clear Z Y;rcases hd with rfl|rfl
  ·go_in
   go_wp2
   go_ret3
   exact⟨rfl,0,rfl⟩
  ·cases d
   ·go_in
    go_wp2
    go_ret3
    exact⟨rfl,0,rfl⟩
   ·go_in
    go_wp2
    go_ret3
    exact⟨rfl,0,rfl⟩
 ·obtain⟨rfl,rfl⟩:d=false/\e=false:=by cases d<;>cases e<;>simp_all
  by_cases V:l.length=0
  ·have Z:nF l false false=([],false,0):=by simp[nF,V]
   rw[Z];have U:((l.length:Int)==0)=true:=by simp[V]
   have H0:Hid _:=V;clear Z Y V hd
   go_in
   go_wp2
   go_ret3
   exact⟨rfl,0,rfl⟩
  ·have U:((l.length:Int)==0)=false:=by rw[cT];omega
   by_cases T:l.length<2
   ·have Z:nF l false false=([],true,4):=by simp[nF,V,T]
    rw[Z];clear Z Y hd
    go_in
    go_wp2
    go_ret3
    exact⟨rfl,0,rfl⟩
   ·have hsl:∀W:dY,(Instr.sliceAt 137 (π (μ ⟨g,o,ν⟩)) ν (μ (ι κ ((l.length:Int)-2))) ν).run eX W=.ok (σ (μ ⟨g,o,ν⟩) (l.length-2) 62) W:=by
     intro W;rw[run_sliceAt_array_h W 137 ⟨g,o,ν⟩ Eb .i64 _ eh (by rw[zv];omega),Nj,zv];have J:((l.length:Int)-2).toNat=l.length-2:=eh;simp[slicedAt,Result.andThen,J,m9]
    have vS:(convert 140 9 (σ (μ ⟨g,o,ν⟩) (l.length-2) 62)).run eX w=.ok (.string ⟨(l.take (l.length-2)).toArray⟩) w:=by
     have Q:(l.take (l.length-2)).length=l.length-2:=gY;have:=dL (P:=eX) w 140 9 5 ⟨g,o,ν⟩ 62 (l.take (l.length-2)) Tryz.underlying140 Tryz.underlying5 Tryz.underlying9 (λj hj=>by
      rw[m9,Y j eh];simp)
     rw[Q]at this;exact this
    have hA:=Y (l.length-2) eh;have hB:=Y (l.length-1) eh;have tA:(((l.length:Int)-2).toNat)=l.length-2:=eh;have tB:(((l.length:Int)-2+1).toNat)=l.length-1:=eh;have M:(ByteArray.mk (l.take (l.length-2)).toArray).size<=maxLen:=by
     show(l.take (l.length-2)).toArray.size<=maxLen;unfold maxLen;simp;omega
    go_in
    go_wp2
    go_quiet((go_at_call 210;exact Calls.quiet_of_same (afa _ _ M)))
    go_wp2_with(fail)
    ·have S:=Ni l T je;rw[S]
     go_ret3
     exact⟨rfl,_,rfl⟩
    ·have S:=KN l T je;rw[S]
     go_ret3
     exact⟨rfl,_,rfl⟩
def Hd:Array dZ:= #[] ++Array.replicate 62 (.int .u8 0)++ #[ι κ 0,.bool false,.bool false]
theorem abJ:(eX.info? 139).map (λi=>(i.zero,i.size))=μ (μ (.agg Hd),65):=gq
theorem Ur:(∀w,(zeroValue 139).run eX w=.ok (.agg Hd) w)/\(eX.info? 139).map (·.size)=μ 65:=bV abJ
theorem zw:Hd.size=65:=eA
def Nk(j:Nat):dZ:=Hd.getD j (.bool false)
theorem Df.zero:Df Nk [] false false:=by
 refine⟨gY,λi hi=>⟨0,?_⟩,λi hi=>by simp at hi,gq,gq,gq⟩;have h:Hd[i]? =μ (.int .u8 0):=by
  unfold Hd;rw[cR (by simp;omega)];simp[hi]
 unfold Nk;rw[du,h];rfl
theorem X9:∀v∈Hd.toList,v.oneCell'=true:=by
 have:Hd.toList.all (·.oneCell')=true:=gq;exact a8.mp this
theorem Ec(h:qp w g o 65 F):
 (storeCells ⟨g,o,ν⟩ Hd.toList).run eX w=.ok () (w.setCells g o Hd.toList)/\qp (w.setCells g o Hd.toList) g o 65 Nk/\lh w (w.setCells g o Hd.toList) g o 65:=by
 have hl:Hd.toList.length=65:=by simp[zw]
 have T:=run_storeCells_cells (P:=eX) g o Hd.toList 0 w (λj Z=>by rw[Nat.add_zero,h.cell j eh];rfl) (λj Z=>by rw[Nat.add_zero];exact h.fz j eh) X9;have U:∀(vs:List dZ) (o:Nat) (w:dY),(w.setCells g o vs).heap.size=w.heap.size/\(w.setCells g o vs).os=w.os/\(w.setCells g o vs).tape=w.tape/\(w.setCells g o vs).output=w.output/\∀k,k≠g->(w.setCells g o vs).heap[k]? =w.heap[k]? :=by
  intro vs
  induction vs with
  |nil=>intro o w;exact⟨rfl,rfl,rfl,rfl,λ_ _=>rfl⟩
  |cons u r ih=>
   intro o w;have:=ih (o+1) (w.setCell ⟨g,o,ν⟩ u);have b1:Below 0 w (w.setCell ⟨g,o,ν⟩ u):=(av 0 w).setCell (Nat.zero_le _) _;refine⟨this.1.trans gY,this.2.1.trans b1.os,this.2.2.1.trans b1.tape,this.2.2.2.1.trans b1.output,λk Y=>(this.2.2.2.2 k Y).trans (aq _ _ _ k Y)⟩
 have B:=U Hd.toList o w;refine⟨by simpa using T,λj Z=>⟨?_,?_⟩,⟨B.2.1,B.2.2.1,B.2.2.2.1,by rw[B.1];exact Nat.le_refl _,λi _ X=>B.2.2.2.2 i X,λj Z=>bD g _ _ _ _ (λ_ _=>by show j<o \/o+Hd.toList.length<=j;omega),λj=>bY g _ _ _ _⟩⟩
 ·have V:=bL g Hd.toList o w (λk Y=>by rw[h.cell k eh];rfl) j eh;rw[V];unfold Nk;rw[du,Array.getElem?_eq_getElem (by rw[zw];exact Z)];simp
 ·exact(bY g _ _ _ _).trans (h.fz j Z)
def pY(l:List UInt8)(e d:Bool)(c:UInt8):List UInt8×Bool×Bool:=if c=126 then([],false,false)else rV (l,e,d) c
def pZ(l:List UInt8)(e d:Bool)(c:UInt8):List UInt8×Bool×Nat:=if c=126 then nF l e d else([],false,0)
theorem QI(g o:Nat)(l:List UInt8)(e d:Bool)(c:UInt8)(w:dY)(h:Rd w g o l e d):
 eW eX 132 #[π (μ ⟨g,o,ν⟩),.int .u8 (c.toNat:Int)] w λe' w'=>e'=ρ (τ #[.string ⟨(pZ l e d c).1.toArray⟩,.bool (pZ l e d c).2.1,jm (pZ l e d c).2.2])/\
  Rd w' g o (pY l e d c).1 (pY l e d c).2.1 (pY l e d c).2.2/\lh w w' g o 65:=by
 have X:c=126↔((c.toNat:Int)==126)=true:=by
  rw[<-UInt8.toNat_inj,dU];show c.toNat=126↔_;omega
 by_cases hc:c=126
 ·have M:((c.toNat:Int) !=126)=false:=by rw[bne,X.mp hc];rfl
  have Z:pZ l e d c=nF l e d:=by simp[pZ,hc]
  have Y:pY l e d c=([],false,false):=by simp[pY,hc]
  rw[Z,Y];clear Z Y X hc;have Q:=QH g o l e d w h;obtain⟨F,hC,V⟩:=h;have ki:∀n,(storeCells ⟨g,o,ν⟩ Hd.toList).run eX (w.drewN n)=.ok () ((w.drewN n).setCells g o Hd.toList):=λn=>(Ec (w:=w.drewN n) (F:=F) hC).1;have hz:=Ur.1;have hZ:=zw;have S:Hid (qp w g o 65 F):=hC;clear V hC
  go_in
  go_wp2_with(go_at_call 183;refine Q.mono ?_;rintro e' w' ⟨rfl,n,rfl⟩)
  go_ret3
  have U:=Ec (w:=w.drewN n) (F:=F) S.out;exact⟨rfl,⟨Nk,U.2.1,Df.zero⟩,((lh.refl w g o 65).drewN n).trans U.2.2⟩
 ·have M:((c.toNat:Int) !=126)=true:=by
   rw[bne];cases J:((c.toNat:Int)==126)
   ·rfl
   ·exact absurd (X.mpr J) hc
  have Z:pZ l e d c=([],false,0):=by simp[pZ,hc]
  have Y:pY l e d c=rV (l,e,d) c:=by simp[pY,hc]
  rw[Z,Y];clear Z Y X hc
  go_in
  go_wp2_with(go_at_call 182;refine(Uq g o l e d c _ h).mono ?_;rintro e' w' ⟨rfl,V,T⟩)
  go_ret3
  exact⟨rfl,V,T⟩
abbrev kC:=List UInt8×Bool×Bool
def mF(a:List (List UInt8)×Nat×kC)(c:UInt8):List (List UInt8)×Nat×kC:=
 let t:=pZ a.2.2.1 a.2.2.2.1 a.2.2.2.2 c
 let r:=pY a.2.2.1 a.2.2.2.1 a.2.2.2.2 c
 if t.2.2≠0 then(a.1,a.2.1+1,r)else if t.2.1=true then(a.1++ [t.1],a.2.1,r)else(a.1,a.2.1,r)
def kx(st:kC)(l:List UInt8):List (List UInt8)×Nat×kC:=l.foldl mF ([],0,st)
def strs(l:List (List UInt8)):List dZ:=l.map λs=>Value.string ⟨s.toArray⟩
theorem QJ(st:kC)(l:List UInt8)(c:UInt8):kx st (l++ [c])=mF (kx st l) c:=by simp[kx]
theorem Us(a:List (List UInt8)×Nat×kC)(c:UInt8):(mF a c).1.length+(mF a c).2.1<=a.1.length+a.2.1+1:=by
 unfold mF;simp only;split
 ·simp only;omega
 ·split
  ·simp only[List.length_append,eZ,eQ];omega
  ·simp only;omega
theorem KO:∀(l:List UInt8) (a:List (List UInt8)×Nat×kC),(l.foldl mF a).1.length+(l.foldl mF a).2.1<=a.1.length+a.2.1+l.length
 |[],a=>gY
 |c::l,a=>by
  have h1:=KO l (mF a c);have h2:=Us a c;simp only[List.foldl_cons,eZ];omega
theorem Dg(st:kC)(l:List UInt8):(kx st l).1.length+(kx st l).2.1<=l.length:=by
 have:=KO l ([],0,st);unfold kx;simp only[eQ]at this;omega
theorem Yb:(eX.info? 9).map (λi=>(i.zero,i.size,i.bytes))=μ (μ (.string fE),1,16):=gq
theorem Ut {w1 w2:dY} {ob:Obj} {g2 n cap2:Nat} (U:g<w.heap.size)(T:∀k,v.ownBlock=μ k->w.heap.size<=k)(J:Rd w1 g o l e d)(Z:lh w w1 g o 65)
 (X:(w1.alloc ob).grownBy w2 v.ownBlock) (Q:v.ownBlock=μ g2 \/w1.heap.size+1<=g2):
 (∀k,eu (σ (μ ⟨g2,0,ν⟩) n cap2)=μ k->w.heap.size<=k)/\Rd w2 g o l e d/\lh w w2 g o 65:=by
 have hs:=Z.size;have D7:(w1.alloc ob).heap.size=w1.heap.size+1:=gY;have Y:∀k,k<w.heap.size->w2.heap[k]? =w1.heap[k]? :=λk Y=>by
  rw[X.block k eh (λe=>by have:=T k e.symm;omega)];exact aU w1 ob k eh
 refine⟨λk Y=> ?_,?_,⟨X.os.trans Z.os,X.tape.trans Z.tape,X.output.trans Z.output,by have:=X.size;omega,λk S V=>(Y k S).trans (Z.block k S V),λj M=>(aj (a:=⟨g,j,ν⟩) (Y g U)).trans (Z.cell j M),λj=>(aM (a:=⟨g,j,ν⟩) (Y g U)).trans (Z.fz j)⟩⟩
 ·have:g2=k:=by simpa[eu]using Y
  rcases Q with h|h
  ·have:=T g2 h;omega
  ·omega
 ·obtain⟨F,hC,V⟩:=J;exact⟨F,hC.keep (Y g U),V⟩
theorem Uu(g o:Nat)(st:kC)(s:ByteArray)(w:dY)(h:Rd w g o st.1 st.2.1 st.2.2)(hs:s.size<=100000):
 eW eX 78 #[π (μ ⟨g,o,ν⟩),.string s] w λe w'=>∃v,e=ρ (τ #[v,ι κ ((kx st s.data.toList).2.1:Int)])/\
  Row w' 1 v (kx st s.data.toList).1.length (strs (kx st s.data.toList).1)/\(∀k,v.ownBlock=μ k->w.heap.size<=k)/\((kx st s.data.toList).1=[]->v=σ ν 0 0)/\
  Rd w' g o (kx st s.data.toList).2.2.1 (kx st s.data.toList).2.2.2.1 (kx st s.data.toList).2.2.2.2/\lh w w' g o 65:=by
 obtain⟨i0,hi,ox,nh,mO⟩:=aY Yb;have Aw:g<w.heap.size:=by
  obtain⟨F,hC,_⟩:=h;exact hC.lt eA
 go_in
 go_wp2
 go_loopw [4,5,12] (λv n i wr=>∃(k:Nat) (A:List (List UInt8)×Nat×kC),A=kx st (s.data.toList.take k)/\k<=s.size/\i=ι κ k/\n=ι κ (A.2.1:Int)/\
  Row wr 1 v A.1.length (strs A.1)/\(∀k,v.ownBlock=μ k->w.heap.size<=k)/\(A.1=[]->v=σ ν 0 0)/\Rd wr g o A.2.2.1 A.2.2.2.1 A.2.2.2.2/\lh w wr g o 65)
  (λ_ _ i _=>s.size-(intOf i).toNat)
 case atStart=>exact⟨0,_,rfl,Nat.zero_le _,rfl,rfl,Row.nil _ _,λk hk=>by simp[eu]at hk,λ_=>rfl,h,lh.refl _ _ _ _⟩
 case round=>
  obtain⟨k,A,hA,hk,rfl,rfl,J,T,Z8,u,hg⟩:=hrel;have kh:Hid _:=Z8;clear Z8;have H:Hid (A.1.length+A.2.1<=k):=by
   have:=Dg st (s.data.toList.take k);rw[<-hA]at this;have h2:(s.data.toList.take k).length<=k:=cy _ _;exact(by omega:A.1.length+A.2.1<=k)
  have HA:Hid _:=hA;clear hA h;by_cases kB:k<s.size
  ·obtain⟨t,dn,Z,hT⟩:∃t dn Z,pZ A.2.2.1 A.2.2.2.1 A.2.2.2.2 s[k] =(t,dn,Z):=⟨_,_,_,rfl⟩
   obtain⟨R',KP⟩:∃R',pY A.2.2.1 A.2.2.2.1 A.2.2.2.2 s[k] =R':=⟨_,rfl⟩
   have U:eW eX 132 #[π (μ ⟨g,o,ν⟩),.int .u8 (s[k].toNat:Int)] wr λe' w'=>e'=ρ (τ #[.string ⟨t.toArray⟩,.bool dn,jm Z])/\
    Row w' 1 u4 A.1.length (strs A.1)/\Rd w' g o R'.1 R'.2.1 R'.2.2/\lh w w' g o 65:=by
    have hq:=QI g o A.2.2.1 A.2.2.2.1 A.2.2.2.2 s[k] wr u;rw[hT,KP]at hq;refine hq.mono λe' w' ⟨h1,h2,E⟩=>⟨h1,J.keep E.size (λj hj=>E.block j (J.lt j hj) (λe1=>by have:=T j hj;omega)),h2,hg.trans E⟩
   have Q:(kx st (s.data.toList.take (k+1))=if Z≠0 then(A.1,A.2.1+1,R')else if dn=true then(A.1++ [t],A.2.1,R')else(A.1,A.2.1,R')):=by
    have:s.data.toList.take (k+1)=s.data.toList.take k++ [s[k]] :=GU s k kB;rw[this,QJ,<-HA.out];unfold mF;simp only[hT,KP]
   have y:Hid _:=Q;clear Q;have hn:A.2.1<=100000:=by have:=H.out;omega
   clear hT KP J u hg;by_cases Y:Z=0
   ·subst Y;have S:jm 0=η:=rfl;rw[S]at U;clear S;cases dn
    ·go_wp2_with(go_at_call 132;refine U.mono ?_;rintro e w1 ⟨rfl,M,V,X⟩);go_roundw
     case rel=>exact⟨k+1,_,y.out.symm,eh,by go_num,rfl,M,T,kh.out,V,X⟩
     case measure=>simp[intOf];omega
    ·have m1:A.1.length+1<=maxLen:=by have:=H.out;unfold maxLen;omega
     have b1:(A.1.length+1)*16<=140737488355328:=by have:=H.out;omega
     go_wp2_with(first
      |(go_at_call 132;refine U.mono ?_;rintro e w1 ⟨rfl,M,V,X⟩)
      |(at_builtin;go_must(refine iG _ rfl (.tmp 29) (.tmp 31) 164 rfl 9 i0 (.string fE) 1 16 Tryz.underlying164 hi ox nh mO rfl eA u4 A.1.length (strs A.1) rfl (Row.alloc je _) _ 1 1 [.string ⟨t.toArray⟩] rfl rfl eA (qE _ _ _) (MB _) m1 b1 ?_)))
     intro g2 cap2 w2 sT sv kU;have D:=Ut (n:=A.1.length+1) (cap2:=cap2) Aw T V X sv kU;clear sv kU M V X
     go_wp2
     go_roundw
     case rel=>exact⟨k+1,(A.1++ [t],A.2.1,R'),by rw[y.out];rfl,eh,by go_num,rfl,by simpa[strs]using sT,D.1,λh=>by simp at h,D.2.1,D.2.2⟩
     case measure=>simp[intOf];omega
   ·have S:jm Z=.iface 128 (ι κ (Z:Int)):=by simp[jm,Y]
    rw[S]at U;clear S;go_wp2_with(go_at_call 132;refine U.mono ?_;rintro e w1 ⟨rfl,M,V,X⟩);go_roundw
    case rel=>exact⟨k+1,(A.1,A.2.1+1,R'),by rw[y.out,ai Y],eh,by go_num,by go_num,M,T,kh.out,V,X⟩
    case measure=>simp[intOf];omega
  ·go_wp2
   have hA:kx st s.data.toList=A:=by
    rw[HA.out,aJ];show s.size<=k;omega
   rw[hA]
   go_ret2
   exact⟨u4,rfl,J,T,kh.out,u,hg⟩
theorem wi(s:ByteArray)(a b:Nat):(s.extract a b).data.toList=(s.data.toList.take b).drop a:=by
 rw[ByteArray.data_extract];simp[List.drop_take]
theorem QK:∀c:UInt8,rR c=true->(c^^^32≠126/\¬c^^^32<32/\c^^^32≠125)/\c^^^32^^^32=c:=by
 have h:∀n:Fin 256,rR (UInt8.ofNat n)=true->(UInt8.ofNat n^^^32≠126/\¬UInt8.ofNat n^^^32<32/\UInt8.ofNat n^^^32≠125)/\UInt8.ofNat n^^^32^^^32=UInt8.ofNat n:=by decide+kernel
 intro c;have:=h ⟨c.toNat,c.toNat_lt⟩;simpa using this
theorem KQ:∀c:UInt8,rR c=false->c≠126/\¬c<32/\c≠125:=by
 intro c h;unfold rR at h;simp at h;exact⟨h.1.1,by rw[UInt8.lt_iff_toNat_lt];have:=h.2;rw[UInt8.le_iff_toNat_le]at this;omega,h.1.2⟩
theorem AW:∀(l:List UInt8) (o:List (List UInt8)) (n:Nat) (st:kC),l.foldl mF (o,n,st)=(o++(l.foldl mF ([],0,st)).1,n+(l.foldl mF ([],0,st)).2.1,(l.foldl mF ([],0,st)).2.2)
 |[],o,n,st=>gY
 |c::l,o,n,st=>by
  have key:∀(o:List (List UInt8)) (n:Nat),mF (o,n,st) c=(o++(mF ([],0,st) c).1,n+(mF ([],0,st) c).2.1,(mF ([],0,st) c).2.2):=by
   intro o n;unfold mF;simp only;split
   ·simp
   ·split<;>simp
  rw[bH,bH,key o n,AW l (o++_) _ _];obtain⟨x,y,z,e⟩:∃x y z,mF ([],0,st) c=(x,y,z):=⟨_,_,_,rfl⟩
  rw[e];simp only;rw[AW l x y z];simp[Nat.add_assoc]
theorem rk(st:kC)(a b:List UInt8):kx st (a++b)=((kx st a).1++(kx (kx st a).2.2 b).1,(kx st a).2.1+(kx (kx st a).2.2 b).2.1,(kx (kx st a).2.2 b).2.2):=by
 unfold kx;rw[da];exact AW b _ _ _
theorem Ee(o:List (List UInt8))(n:Nat)(l:List UInt8)(e d:Bool)(c:UInt8)(h:c≠126):mF (o,n,(l,e,d)) c=(o,n,rV (l,e,d) c):=by
 simp[mF,pZ,pY,h]
theorem QL(o:List (List UInt8))(n:Nat)(l:List UInt8)(c:UInt8)(h:l.length<62):(CH c).foldl mF (o,n,(l,false,false))=(o,n,(l++ [c],false,false)):=by
 unfold CH;by_cases hc:rR c=true
 ·obtain⟨⟨Y,X,Z⟩,S⟩:=QK c hc;rw[ai hc,bH,bH,fY,Ee o n l false false 125 eA];have U:rV (l,false,false) 125=(l,true,false):=by simp[rV]
  rw[U,Ee _ _ _ _ _ _ Y];have V:rV (l,true,false) (c^^^32)=(l++ [c^^^32^^^32],false,false):=by
   simp[rV,X,Z,Nat.ne_of_lt h]
  rw[V,S]
 ·have T:rR c=false:=by simpa using hc
  obtain⟨Y,X,Z⟩:=KQ c T;rw[af hc,bH,fY,Ee _ _ _ _ _ _ Y];have V:rV (l,false,false) c=(l++ [c],false,false):=by
   simp[rV,X,Z,Nat.ne_of_lt h]
  rw[V]
theorem He(o:List (List UInt8))(n:Nat):∀(m l:List UInt8),l.length+m.length<=62->(sC m).foldl mF (o,n,(l,false,false))=(o,n,(l++m,false,false))
 |[],l,_=>by simp[sC]
 |c::m,l,h=>by
  have h':l.length+(m.length+1)<=62:=by simpa using h
  have e:sC (c::m)=CH c++sC m:=by simp[sC]
  rw[e,da,QL o n l c eh,He o n m (l++ [c]) (by simp;omega)];simp
theorem I5(l:List UInt8):nF (lT l) false false=(l,true,0):=by
 have hl:(lT l).length=l.length+2:=oz l;have Z:(lT l).take ((lT l).length-2)=l:=by rw[hl];simp[lT]
 have Y:(lT l).getD ((lT l).length-2) 0=Ko l:=by
  rw[hl];simp[lT]
 have X:(lT l).getD ((lT l).length-1) 0=Kp l:=by
  rw[hl];simp[lT]
 unfold nF;rw[af gY,af eh,af eh,Y,X,Z,ai];rw[GV,GX];omega
theorem Nm(l:List UInt8)(h:l.length<=60):kx ([],false,false) (lL l)=([l],0,([],false,false)):=by
 unfold kx lL;rw[bH,da];have Z:mF ([],0,([],false,false)) 126=([],0,([],false,false)):=by simp[mF,pZ,pY,nF]
 rw[Z,He [] 0 (lT l) [] (by rw[oz];simp;omega)];simp[mF,pZ,pY,I5]
theorem xS(l:List UInt8):(lL l).length=(sC (lT l)).length+2:=by simp[lL]
theorem QM(l:List UInt8)(h:l.length<=60):(lL l).length<=126:=by
 rw[xS];have:=Dc (lT l);rw[oz]at this;omega
theorem Uv(w:dY):(zeroValue 254).run eX w=.ok (.agg #[ι κ 0,ι κ 0,ι κ 0,ι κ 0,ι κ 0,ι κ 0,ι κ 0,ι κ 0,ι κ 0,ι κ 0,ι κ 0,σ ν 0 0]) w:=gq
theorem CQ(w:dY)(o:Obj):(w.alloc o).heap[w.heap.size]? =μ o:=aZ w o
theorem Yc(S M:Int)(w:dY)(V:¬S<40)(U:¬255<S)(Y:¬M<1)(Q:¬255<M):
 eW eX 119 #[ι κ S,ι κ M] w λe w'=>∃B,e=ρ (τ #[π (μ ⟨B,0,ν⟩),η])/\Lk w' B (Tx S M S M 0 0 0 255 0 0 0 (σ ν 0 0))/\w.heap.size<=B/\eE w w':=by
 have hz:=zd;have hzl:=Uv;have T:=aa8 S M w V U Y Q;clear V U Y Q
 go_in
 go_wp2_with(fail);refine T.mono ?_;rintro e w1 ⟨rfl,hb⟩;have hs:=hb.size;have D:=(hb.alloc hb.size (γ #[ι κ S,ι κ M] 252))
 have X:=gk D (gW _ (γ (Tx S M S M 0 0 0 255 0 0 0 (σ ν 0 0)) 254));have Z:=CQ (w1.alloc (γ #[ι κ S,ι κ M] 252)) (γ (Tx S M S M 0 0 0 255 0 0 0 (σ ν 0 0)) 254);have H:(w1.alloc (γ #[ι κ S,ι κ M] 252)).heap.size=w1.heap.size+1:=gY;rw[H]at Z;have E:Hid _:=Z;have J:Hid _:=X;clear Z X T
 go_wp2
 go_ret2
 exact⟨w1.heap.size+1,rfl,E.out,eh,J.out⟩
theorem rI.rest {s:LS} (h:Lk w B (s.c (σ ν 0 0))):rI w B (λk=>k<w.heap.size) s (σ ν 0 0) [] :=
 ⟨h,Row.nil _ 3,λg Z=>by simp[eu]at Z,h.lt,λ_ Y=>Y,λp X=>by simp at X⟩
def Nn(S M:Int):LS:=⟨S,M,S,M,0,0,0,255,0,0,0⟩
theorem Ef(S M:Int):(kY {Nn S M with st:=1} 0).2.2=0/\(kY {Nn S M with st:=1} 0).1.st=6/\(kY {Nn S M with st:=1} 0).2.1.length=1:=⟨gq,gq,gq⟩
theorem rI.far {M:Nat} {X:Nat->Prop} {s:LS} {ps:List PV} (h:rI w B X s v ps)(k:Kept w w' M ν)(U:X M)(T:B≠M):rI w' B X s v ps:=by
 have hb:∀j,j<w.heap.size->j≠M->w'.heap[j]? =w.heap[j]? :=λj Z J=>k.block j Z J gY;refine⟨h.lk.keep (hb B h.lk.lt T),h.row.keep k.size (λj Z=>hb j (h.row.lt j Z) (λe=>h.own j Z (by rw[e];exact U))),h.own,h.self,λj Z=>Nat.lt_of_lt_of_le (h.old j Z) k.size,λp S=> ?_⟩;obtain⟨o,z,l,f,fr⟩:=h.pk p S;exact⟨o.OC (λj Z=>by obtain⟨Y,_,V⟩:=fr j Z;exact hb j V (λe=>Y (by rw[e];exact U))),z,l,f,λj Z=>by obtain⟨Y,Q,V⟩:=fr j Z;exact⟨Y,Q,Nat.lt_of_lt_of_le V k.size⟩⟩
theorem Eg:∀(L:List UInt8) (s:LS) (a:kM),(yu L s a).length<=L.length
 |[],_,_=>Nat.le_refl _
 |c::r,s,a=>by
  have e:yu (c::r) s a=Gi c s a++yu r (pS c s) a:=rfl;have h1:=Eg r (pS c s) a;have h2:=KC c s a;rw[e,aA,cO];omega
theorem tC(s:LS)(ev:Int)(a:kM):(sW s ev a).2.1.length<=4:=by
 by_cases hf:(jh s.st ev).2.2=0
 ·rw[tO _ hf];have h1:=Eg (jh s.st ev).1 (s.next (jh s.st ev).2.1) a;have h2:=AU s.st ev;show(pL s ev a).length<=4;unfold pL;omega
 ·rw[wa _ hf];simp
theorem zx(s:LS)(ev:Int):(kY s ev).2.1.length<=4:=by
 unfold kY;split
 ·exact tC _ _ _
 ·simp
theorem Hf(s:LS):(lM s).length<=4:=by
 have hc:∀(s:LS) (ev:Int),(pL s ev (0,0,[])).length<=4:=λs ev=>by
  have h1:=Eg (jh s.st ev).1 (s.next (jh s.st ev).2.1) (0,0,[]);have h2:=AU s.st ev;unfold pL;omega
 unfold lM;split
 ·simp
 ·split
  ·simp
  ·split
   ·exact hc _ _
   ·exact hc _ _
theorem Hg(s:LS)(p:kM):(jK s p).2.1.length<=4:=by
 unfold jK;split
 ·simp
 ·split
  ·unfold uk;split
   ·split
    ·exact tC _ _ _
    ·exact tC _ _ _
   ·exact tC _ _ _
  ·split
   ·exact tC _ _ _
   ·split
    ·exact tC _ _ _
    ·unfold tP;split
     ·simp
     ·split
      ·split
       ·simp
       ·exact tC _ _ _
      ·exact tC _ _ _
