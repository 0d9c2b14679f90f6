import Derived.Test.YtieklnlbljejdaaGreatDoorG05
open Go.Value renaming int → ι, slice → σ, pointer → π, tuple → τ
open Go.IntKind renaming i64 → κ
open Go.Ending renaming returned → ρ
open Go.Obj renaming cells → γ
open Option renaming none → ν, some → μ
open Go renaming World → eB
open Go.Proofs.Tryz renaming prog → fk
open Go.RowKit renaming intOf → ft
open Go.IntKind renaming i64 → fY
open Go.Value renaming int → eI, ownBlock → eF
set_option maxRecDepth 100000
set_option maxHeartbeats 8000000
namespace Go.Proofs.YtieklnlbljejdaaGreatDoor
open Go.RowKit
variable {B:Nat} {C:nj} {m s:Int} {w:World}
theorem JR.set(h:JR w B s m)(s' m':Int):JR ((w.setCell ⟨B,0,ν⟩ (ι κ s')).setCell ⟨B,1,ν⟩ (ι κ m')) B s' m':=by
 refine⟨?_,?_,?_,?_⟩
 ·exact(aU _ ⟨B,1,ν⟩ ⟨B,0,ν⟩ _ iC).trans (dK _ _ _ (by rw[h.c0];rfl))
 ·exact dK _ _ _ (by rw[aU _ ⟨B,0,ν⟩ ⟨B,1,ν⟩ _ iC,h.c1];rfl)
 ·simp[h.f0]
 ·simp[h.f1]
theorem JR.other {B':Nat} (h:JR w B s m)(jV:B'≠B)(x y:Value):JR ((w.setCell ⟨B',0,ν⟩ x).setCell ⟨B',1,ν⟩ y) B s m:=by
 refine⟨?_,?_,?_,?_⟩
 ·rw[aO _ _ _ _ jV,aO _ _ _ _ jV];exact h.c0
 ·rw[aO _ _ _ _ jV,aO _ _ _ _ jV];exact h.c1
 ·simp[h.f0]
 ·simp[h.f1]
theorem QR(sz mg code:Int)(a:Option Addr)(n cap:Nat)(os:List j2)(w:eB)(hn:n<=1000000)(ho:jm w a n os):
 Calls fk 231 #[.agg #[ι κ sz,ι κ mg],ι κ code,σ a n cap] w λe w'=>
  e=ρ (.agg #[ι κ (oG code os (sz,mg)).1,ι κ (oG code os (sz,mg)).2])/\eN w w':=by
 have hz:=xK;have P0:JR ((w.alloc (γ #[ι κ sz,ι κ mg] 252)).alloc (γ #[ι κ 0,ι κ 0] 252)) w.heap.size sz mg:=by
  have hA:=λj=>aq w #[ι κ sz,ι κ mg] 252 (0,0) j;have hF:=λj=>cR w #[ι κ sz,ι κ mg] 252 0 0 j;exact JR.below ⟨hA 0,hA 1,by rw[hF];rfl,by rw[hF];rfl⟩ (iB _ _)
 have P1:JR ((w.alloc (γ #[ι κ sz,ι κ mg] 252)).alloc (γ #[ι κ 0,ι κ 0] 252)) (w.heap.size+1) 0 0:=by
  have hA:=λj=>aq (w.alloc (γ #[ι κ sz,ι κ mg] 252)) #[ι κ 0,ι κ 0] 252 (0,0) j;have hF:=λj=>cR (w.alloc (γ #[ι κ sz,ι κ mg] 252)) #[ι κ 0,ι κ 0] 252 0 0 j;have e:(w.alloc (γ #[ι κ sz,ι κ mg] 252)).heap.size=w.heap.size+1:=iC;rw[e]at hA hF;exact⟨hA 0,hA 1,by rw[hF];rfl,by rw[hF];rfl⟩
 have pN:eN w ((w.alloc (γ #[ι κ sz,ι κ mg] 252)).alloc (γ #[ι κ 0,ι κ 0] 252)):=(iB _ _).alloc iC _
 go_in
 go_wp2
 go_loopw [11] (λi wr=>∃(k:Nat) (s m:Int),k<=n/\i=ι κ k/\oG code os (sz,mg)=oG code (os.drop k) (s,m)/\JR wr w.heap.size s m/\JR wr (w.heap.size+1) 0 0/\eN w wr) (λi _=>n-(ft i).toNat)
 case atStart=>exact⟨0,sz,mg,Nat.zero_le _,rfl,rfl,P0,P1,pN⟩
 case round=>
  obtain⟨k,s,m,hk,rfl,WD,hP,WE,ja⟩:=hrel;have HF:Hid _:=WD;clear WD P0 P1;have Q0:=hP;have Q1:=WE;obtain⟨c0,c1,f0,f1⟩:=hP;obtain⟨d0,d1,g0,g1⟩:=WE;have wy:w.heap.size<wr.heap.size:=af wr _ c0;have Qq:w.heap.size+1<wr.heap.size:=af wr _ d0;by_cases kH:k<n
  ·have Dz:=ho.below ja;rcases Dz.2 with h0|⟨b,off,rfl,hc⟩
   ·omega
   have pK:k<os.length:=by rw[ho.1];exact kH
   obtain⟨e1,e2⟩:=hc k pK;have HD:Hid (os.drop k=os[k] ::os.drop (k+1)):=aR pK;generalize os[k] =o at e1 e2 HD;clear hc;have nG:(k:Int)<(n:Int):=eE;have wz:oG code os (sz,mg)=oG code (os.drop (k+1)) (kc code (s,m) o):=by rw[HF.out,HD.out];rfl
   have qC:=iB wr (γ #[ι κ o.1,ι κ o.2] 276);have kt:=iA ja qC;cases q4:(code==4)
   ·cases q3:(code==3)
    ·have hv:kc code (s,m) o=(s,m):=by simp at q3 q4;simp[kc,q3,q4]
     rw[hv]at wz;have HS:Hid _:=wz;clear wz hv
     go_wp2
     go_roundw
     case rel=>exact⟨k+1,s,m,eE,by go_num,HS.out,Q0.below qC,Q1.below qC,kt⟩
     case measure=>simp[ft];omega
    ·have H9:code=3:=by simpa using q3
     have HS:Hid (oG code os (sz,mg)=oG code (os.drop (k+1)) ((kc 3 (s,m) o).1,(kc 3 (s,m) o).2)):=by
      show _=_;rw[wz,H9]
     clear wz H9;go_wp2_with(fail);refine(Qu s m o.1 o.2 _).mono ?_;rintro e w1 ⟨rfl,A8⟩;have mf:=iA kt A8;obtain⟨c0,c1,f0,f1⟩:=(Q0.below qC).below A8;obtain⟨d0,d1,g0,g1⟩:=(Q1.below qC).below A8;have wy:w.heap.size<w1.heap.size:=af w1 _ c0;have R0:=(((Q0.below qC).below A8).set (kc 3 (s,m) (o.1,o.2)).1 (kc 3 (s,m) (o.1,o.2)).2)
     have R1:=(((Q1.below qC).below A8).other (B':=w.heap.size) eE (ι κ (kc 3 (s,m) (o.1,o.2)).1) (ι κ (kc 3 (s,m) (o.1,o.2)).2))
     have sL:eN w ((w1.setCell ⟨w.heap.size,0,ν⟩ (ι κ (kc 3 (s,m) (o.1,o.2)).1)).setCell ⟨w.heap.size,1,ν⟩ (ι κ (kc 3 (s,m) (o.1,o.2)).2)):=(mf.setCell (Nat.le_refl _) _).setCell (Nat.le_refl _) _
     go_wp2
     go_roundw
     case rel=>exact⟨k+1,_,_,eE,by go_num,HS.out,R0,R1,sL⟩
     case measure=>simp[ft];omega
   ·have H9:code=4:=by simpa using q4
    have h41:kc 4 (s,m) o=kc 4 (s,m) (o.1,0):=by simp[kc]
    have HS:Hid (oG code os (sz,mg)=oG code (os.drop (k+1)) ((kc 4 (s,m) (o.1,0)).1,(kc 4 (s,m) (o.1,0)).2)):=by
     show _=_;rw[wz,H9,h41]
    clear wz H9 h41;go_wp2_with(fail);refine(Hm s m o.1 _).mono ?_;rintro e w1 ⟨rfl,A8⟩;have mf:=iA kt A8;obtain⟨c0,c1,f0,f1⟩:=(Q0.below qC).below A8;obtain⟨d0,d1,g0,g1⟩:=(Q1.below qC).below A8;have wy:w.heap.size<w1.heap.size:=af w1 _ c0;have R0:=(((Q0.below qC).below A8).set (kc 4 (s,m) (o.1,0)).1 (kc 4 (s,m) (o.1,0)).2)
    have R1:=(((Q1.below qC).below A8).other (B':=w.heap.size) eE (ι κ (kc 4 (s,m) (o.1,0)).1) (ι κ (kc 4 (s,m) (o.1,0)).2))
    have sL:eN w ((w1.setCell ⟨w.heap.size,0,ν⟩ (ι κ (kc 4 (s,m) (o.1,0)).1)).setCell ⟨w.heap.size,1,ν⟩ (ι κ (kc 4 (s,m) (o.1,0)).2)):=(mf.setCell (Nat.le_refl _) _).setCell (Nat.le_refl _) _
    go_wp2
    go_roundw
    case rel=>exact⟨k+1,_,_,eE,by go_num,HS.out,R0,R1,sL⟩
    case measure=>simp[ft];omega
  ·have Mm:os.drop k=[] :=aX (by rw[ho.1];omega);have HS:Hid (oG code os (sz,mg)=(s,m)):=by
    show _=_;rw[HF.out,Mm];rfl
   clear HF Mm;have sL:eN w ((wr.setCell ⟨w.heap.size+1,0,ν⟩ (ι κ s)).setCell ⟨w.heap.size+1,1,ν⟩ (ι κ m)):=(ja.setCell iC _).setCell iC _;have R1:=Q1.set s m;go_wp2_with(fail);rw[HS.out];obtain⟨r0,r1,_,_⟩:=R1;refine aj (v:=.agg #[ι κ s,ι κ m]) (by simp[results,Tryz.results231,go_sem,r0,r1]) rfl ?_;exact⟨rfl,sL⟩
open St
def zR(C:nj)(r b n:Nat)(H:Nat->HP):Nat->HP:=
 if(H b).far=0 \/C b n=0 \/n=r then H
 else if FO ⟨n,(H b).far+C b n,(H b).uf⟩ (H n)=true then BX H n ⟨n,(H b).far+C b n,(H b).uf⟩else H
def uF(C:nj)(r b:Nat)(H:Nat->HP):Nat->Nat->HP
 |0=>H
 |n+1=>zR C r b n (uF C r b H n)
def P4(C:nj)(r:Nat)(H:Nat->HP):Nat->Nat->HP
 |0=>H
 |b+1=>uF C r b (P4 C r H b) 7
def qK(H:Nat->HP)(m:Int):Prop:=∀n,0<=(H n).far/\(H n).far<=m
theorem qK.step {r b n:Nat} {H:Nat->HP} (h:qK H m)(hC:∀x y,0<=C x y/\C x y<=20):qK (zR C r b n H) (m+20):=by
 intro x;have hx:=h x;have hb:=h b;have hc:=hC b n;unfold zR;split
 ·omega
 ·split
  ·simp only[BX];split
   ·simp only;omega
   ·omega
  ·omega
theorem qK.row {C:nj} {r b:Nat} {H:Nat->HP} {m:Int} (h:qK H m)(hC:∀x y,0<=C x y/\C x y<=20):∀n,qK (uF C r b H n) (m+20*n)
 |0=>λx=>by have:=h x;simp only[uF];omega
 |n+1=>λx=>by
  have:=(qK.step (C:=C) (r:=r) (b:=b) (n:=n) (qK.row (r:=r) (b:=b) h hC n) hC) x;simp only[uF];push_cast;omega
theorem qK.go {C:nj} {r:Nat} {H:Nat->HP} {m:Int} (h:qK H m)(hC:∀x y,0<=C x y/\C x y<=20):∀b,qK (P4 C r H b) (m+140*b)
 |0=>λx=>by have:=h x;simp only[P4];omega
 |b+1=>λx=>by
  have:=(qK.row (C:=C) (r:=r) (b:=b) (qK.go (r:=r) h hC b) hC 7) x;simp only[P4];push_cast at this⊢;omega
theorem Km {a:eB} {o:Option Nat} (h:a.grownBy w o):a.grownBy w.drew o:=⟨h.os,h.tape,h.output,h.size,h.block⟩
theorem QS(C:nj)(r:Nat)(hr:r<7)(H:Nat->HP)(B:Nat)(m:Int)(w:eB)(hB:jr w B (hC H) 259)(Ye:∀x y,0<=C x y/\C x y<=20)(hm:qK H m)(yH:m<=1000000):
 Calls fk 165 #[π (μ ⟨B,0,ν⟩),.agg (gC C),ι κ (r:Int)] w λe w'=>e=ρ (τ #[])/\jr w' B (hC (P4 C r H 7)) 259/\w.grownBy w' (μ B):=by
 obtain⟨c,hc⟩:=gH (gC C);rw[hc];have hr7:(r:Int)<7:=eE
 go_in
 go_wp2_with(fail);obtain⟨W0,nL⟩:=gH (w.alloc (γ c 256));have Ht:eN w W0:=by rw[<-nL];exact iB _ _
 have wT:w.grownBy W0 (μ B):=⟨Ht.os,Ht.tape,Ht.output,Ht.size,λi hi _=>Ht.block i hi⟩
 have A7:jr W0 w.heap.size c 256:=by rw[<-nL];exact jr.new w c _
 have wi:jr W0 B (hC (P4 C r H 0)) 259:=hB.below Ht;have hBC:B<w.heap.size:=hB.lt;rw[nL];clear nL Ht hB;obtain⟨C0,H5⟩:=gH (w.heap.size);have wy:w.heap.size<=C0:=eE;rw[H5]at A7 hBC;rw[H5];clear H5;have HFL:=λb=>hm.go (r:=r) Ye b;have HM:Hid _:=HFL;clear HFL hm
 go_loopw [9] (λv wr=>∃b:Nat,b<=7/\v=ι κ b/\jr wr B (hC (P4 C r H b)) 259/\jr wr C0 c 256/\w.grownBy wr (μ B)) (λv _=>7-(ft v).toNat)
 case atStart=>exact⟨0,eE,rfl,wi,A7,wT⟩
 case round=>
  clear A7 wi wT;obtain⟨b,hb,rfl,hG,qD,ja⟩:=hrel;by_cases Yc:b<7
  ·have Yd:(b:Int)<7:=eE;have HG:Hid _:=hG;have DP:Hid _:=qD;have HB:Hid _:=ja;have UQ:Hid (P4 C r H (b+1)=uF C r b (P4 C r H b) 7):=rfl;have hmb:=HM.out b;clear hG qD ja;obtain⟨Hb,hHb⟩:=gH (P4 C r H b);rw[hHb]at HG UQ hmb;have HMB:Hid (∀n,qK (uF C r b Hb n) (m+140*b+20*n)):=λn=>hmb.row Ye n;clear hmb hHb
   go_wp2
   go_loopw [12] (λv wr=>∃n:Nat,n<=7/\v=ι κ n/\jr wr B (hC (uF C r b Hb n)) 259/\jr wr C0 c 256/\w.grownBy wr (μ B)) (λv _=>7-(ft v).toNat)
   case atStart=>exact⟨0,eE,rfl,HG.out,DP.out,HB.out⟩
   case round=>
    clear HG DP HB;obtain⟨n,hn,rfl,hG,qD,ja⟩:=hrel;by_cases UO:n<7
    ·have QP:(n:Int)<7:=eE;have WG:Hid (uF C r b Hb (n+1)=zR C r b n (uF C r b Hb n)):=rfl;have DC:=HMB.out n b;obtain⟨G,hGe⟩:=gH (uF C r b Hb n);rw[hGe]at hG WG DC;clear hGe;have r1:wr.cell? ⟨C0,b*7+n,ν⟩=μ (ι κ (C b n)):=(qD.cell _).trans (by rw[<-hc];exact yP C b n Yc UO);obtain⟨p0,p1,p2⟩:=FK G b Yc;have b0:=(hG.cell (b*3)).trans p0;have b1:=(hG.cell (b*3+1)).trans p1;have b2:=(hG.cell (b*3+2)).trans p2;clear p0 p1 p2;have HG:Hid _:=hG;have DP:Hid _:=qD;have HB:Hid _:=ja;clear hG qD ja;by_cases h1:(G b).far=0
     ·have wU:((G b).far==0)=true:=by simpa using h1
      have BO:Hid (uF C r b Hb (n+1)=G):=by show _=_;rw[WG.out,zR,ag (.inl h1)]
      generalize (G b).far=bf at b1 wU;clear h1
      go_wp2
      go_roundw
      case rel=>exact⟨n+1,eE,by go_num,by rw[BO.out];exact HG.out,DP.out,HB.out⟩
      case measure=>simp[ft];omega
     have wU:((G b).far==0)=false:=by simpa using h1
     by_cases h2:C b n=0
     ·have yU:(C b n==0)=true:=by simpa using h2
      have BO:Hid (uF C r b Hb (n+1)=G):=by show _=_;rw[WG.out,zR,ag (.inr (.inl h2))]
      generalize (G b).far=bf at b1 wU;generalize C b n=cbn at r1 yU;clear h1 h2
      go_wp2
      go_roundw
      case rel=>exact⟨n+1,eE,by go_num,by rw[BO.out];exact HG.out,DP.out,HB.out⟩
      case measure=>simp[ft];omega
     have yU:(C b n==0)=false:=by simpa using h2
     by_cases h3:n=r
     ·have su:((n:Int)==(r:Int))=true:=by simp[h3]
      have BO:Hid (uF C r b Hb (n+1)=G):=by show _=_;rw[WG.out,zR,ag (.inr (.inr h3))]
      generalize (G b).far=bf at b1 wU;generalize C b n=cbn at r1 yU;clear h1 h2 h3
      go_wp2
      go_roundw
      case rel=>exact⟨n+1,eE,by go_num,by rw[BO.out];exact HG.out,DP.out,HB.out⟩
      case measure=>simp[ft];omega
     have su:((n:Int)==(r:Int))=false:=by
      have:¬(n:Int)=(r:Int):=eE;simpa using this
     have BO:Hid (uF C r b Hb (n+1)=if FO ⟨n,(G b).far+C b n,(G b).uf⟩ (G n)=true then BX G n ⟨n,(G b).far+C b n,(G b).uf⟩else G):=by
      show _=_;rw[WG.out,zR,ae (by simp[h1,h2,h3])]
     have wj:=Ye b n;have Ub:fY.wrap ((G b).far+C b n)=(G b).far+C b n:=aS _ ⟨eE,eE⟩;have UR:=H8 ⟨n,(G b).far+C b n,(G b).uf⟩ (G n);obtain⟨p0,p1,p2⟩:=FK G n UO;have HN:Hid (∀W,jr W B (hC G) 259->W.cell? ⟨B,n*3,ν⟩=μ (ι κ (G n).dst)/\W.cell? ⟨B,n*3+1,ν⟩=μ (ι κ (G n).far)/\W.cell? ⟨B,n*3+2,ν⟩=μ (ι κ (G n).uf)):=
      λW hW=>⟨(hW.cell _).trans p0,(hW.cell _).trans p1,(hW.cell _).trans p2⟩
     clear p0 p1 p2 WG h1 h2 h3 DC wj;generalize FO ⟨n,(G b).far+C b n,(G b).uf⟩ (G n)=bt at BO UR;simp only at UR;generalize FJ:(G b).far+C b n=ff at BO UR Ub;generalize (G b).far=bf at b1 wU FJ Ub;generalize C b n=cbn at r1 yU FJ Ub;generalize (G b).uf=bx at b2 BO UR;generalize (G n).dst=nd at HN UR;generalize (G n).far=nf at HN UR;generalize (G n).uf=nx at HN UR;have afr:fY.wrap (bf+cbn)=ff:=by rw[FJ];exact Ub
     have d0:wr.drew.cell? ⟨B,b*3+1,ν⟩=μ (ι κ bf):=b1;have d1:wr.drew.cell? ⟨B,b*3+2,ν⟩=μ (ι κ bx):=b2;have d2:wr.drew.cell? ⟨C0,b*7+n,ν⟩=μ (ι κ cbn):=r1;have lB:B<wr.heap.size:=jr.lt HG.out;have lC:C0<wr.heap.size:=jr.lt DP.out;have kz:=iB wr (γ #[ι κ 0,ι κ 0,ι κ 0] 98);have e0:=(kz.cell (p:=⟨B,b*3+1,ν⟩) lB).trans b1;have e1:=(kz.cell (p:=⟨B,b*3+2,ν⟩) lB).trans b2;have e2:=(kz.cell (p:=⟨C0,b*7+n,ν⟩) lC).trans r1;clear FJ Ub kz
     go_upto_region 8 with fail
     clear wU yU su
     go_region
     all_goals
      obtain⟨W3,wh⟩:=gH ((wr.alloc (γ #[ι κ (n:Int),ι κ ff,ι κ bx] 98)).drew);have k3:eN wr W3:=by rw[<-wh];exact below_drewN (iB _ _) 1
      have hY:jr W3 wr.heap.size #[ι κ (n:Int),ι κ ff,ι κ bx] 98:=by rw[<-wh];exact jr.drewN (jr.new wr _ _) 1
      obtain⟨Y,NU⟩:=gH (wr.heap.size);have Yb:=jr.below HG.out k3;have Hc3:Hid _:=jr.below DP.out k3;have JV:Hid (w.grownBy W3 (μ B)):=⟨k3.os.trans HB.out.os,k3.tape.trans HB.out.tape,k3.output.trans HB.out.output,Nat.le_trans HB.out.size k3.size,λi hi jV=>(k3.block i (Nat.lt_of_lt_of_le hi HB.out.size)).trans (HB.out.block i hi jV)⟩
      have HYB:Hid (B<Y/\C0<Y):=by show _/\_;rw[<-NU];exact⟨lB,lC⟩
      rw[NU]at hY;have HY:Hid _:=hY;have HG3:Hid _:=Yb;have HF:Hid (∀W,eN W3 W->(W.cell? ⟨Y,0,ν⟩=μ (ι κ (n:Int))/\W.cell? ⟨Y,1,ν⟩=μ (ι κ ff)/\W.cell? ⟨Y,2,ν⟩=μ (ι κ bx))/\W.cell? ⟨B,n*3,ν⟩=μ (ι κ nd)/\W.cell? ⟨B,n*3+1,ν⟩=μ (ι κ nf)/\W.cell? ⟨B,n*3+2,ν⟩=μ (ι κ nx)):=by
       intro W hW;have q:=jr.below HY.out hW;exact⟨⟨jr.cell q 0,jr.cell q 1,jr.cell q 2⟩,HN.out W (jr.below HG3.out hW)⟩
      have KD:eN W3 W3.drew:=below_drewN (au _ _) 1;have F0:=HF.out _ KD;rw[wh,NU];clear wh k3 NU Yb hY d0 d1 d2 e0 e1 e2 b0 b1 b2 r1 lB lC afr
      go_wp2
      go_region_held3(λx=>(x.cell? ⟨Y,0,ν⟩=μ (ι κ (n:Int))/\x.cell? ⟨Y,1,ν⟩=μ (ι κ ff)/\x.cell? ⟨Y,2,ν⟩=μ (ι κ bx))/\x.cell? ⟨B,n*3,ν⟩=μ (ι κ nd)/\x.cell? ⟨B,n*3+1,ν⟩=μ (ι κ nf)/\x.cell? ⟨B,n*3+2,ν⟩=μ (ι κ nx))
       (first|assumption|exact F0|exact F1)
       ((go_at_call 205;refine(UR _).mono ?_;rintro e w5 ⟨rfl,k5⟩;have F1:=HF.out _ (iA KD k5)))
      all_goals
       have WH:=iA KD k5;have hG5:=jr.below HG3.out WH;have HG5:Hid _:=hG5;have Hc5:Hid _:=jr.below Hc3.out WH;have HB5:Hid (w.grownBy w5 (μ B)):=⟨WH.os.trans JV.out.os,WH.tape.trans JV.out.tape,WH.output.trans JV.out.output,Nat.le_trans JV.out.size WH.size,λi hi jV=>(WH.block i (Nat.lt_of_lt_of_le hi JV.out.size)).trans (JV.out.block i hi jV)⟩
       obtain⟨⟨y0,y1,y2⟩,g0,g1,g2⟩:=F1;have f0:=hG5.frozen (n*3);have f1:=hG5.frozen (n*3+1);have f2:=hG5.frozen (n*3+2);have lB:=hG5.lt;clear HF HN UR F0 k5 KD WH hG5;cases bt
       ·have HS3:Hid (uF C r b Hb (n+1)=G):=by show _=_;rw[BO.out];simp
        go_wp2
        go_roundw
        case rel=>exact⟨n+1,eE,by go_num,by rw[HS3.out];exact HG5.out,Hc5.out,HB5.out⟩
        case measure=>simp[ft];omega
       ·have HS3:Hid (uF C r b Hb (n+1)=BX G n ⟨n,ff,bx⟩):=by show _=_;rw[BO.out];simp
        go_wp2
        go_region
        all_goals
         go_wp2
         go_roundw
         case rel=>
          have jV:C0≠B:=by have:=HB5.out.size;omega
          refine⟨n+1,eE,by go_num,?_,jr.other (jr.other (jr.other Hc5.out jV _) jV _) jV _,Km (od (od (od HB5.out _ _) _ _) _ _)⟩;rw[HS3.out,<-QI _ n _ UO];exact jr.set (jr.set (jr.set HG5.out _ _) _ _) _ _
         case measure=>simp[ft];omega
    ·have QP:¬(n:Int)<7:=eE;have jV:n=7:=eE;have HG:Hid _:=hG;have DP:Hid _:=qD;have HB:Hid _:=ja;clear hG qD ja
     go_wp2
     go_roundw
     case rel=>exact⟨b+1,eE,by go_num,by rw[UQ.out,<-jV];exact HG.out,DP.out,HB.out⟩
     case measure=>simp[ft];omega
  ·have Yd:¬(b:Int)<7:=eE;have hbe:b=7:=eE;have HG:Hid (jr wr B (hC (P4 C r H 7)) 259):=by rw[<-hbe];exact hG
   have HB:Hid _:=ja;clear hG qD ja hbe
   go_wp2
   first|go_end0|refine aj (ar rfl _ _ _) rfl ?_
   exact⟨rfl,HG.out,HB.out⟩
def uG(H:Nat->HP):Nat->List HP
 |0=>[]
 |n+1=>if 0<(H n).far then uG H n++ [H n]else uG H n
theorem uH(H:Nat->HP):∀n,(uG H n).length<=n
 |0=>Nat.le_refl _
 |n+1=>by
  have:=uH H n;simp only[uG];split
  ·simp;omega
  ·omega
def P5(L:List HP):List Value:=L.flatMap λh=>[ι κ h.dst,ι κ h.far,ι κ h.uf]
theorem QT(L:List HP)(h:HP):P5 (L++ [h])=P5 L++ [ι κ h.dst,ι κ h.far,ι κ h.uf] :=by simp[P5]
theorem Mz:∀(L:List HP) (j:Nat) (h:HP),L[j]? =μ h->(P5 L)[j*3]? =μ (ι κ h.dst)/\(P5 L)[j*3+1]? =μ (ι κ h.far)/\(P5 L)[j*3+2]? =μ (ι κ h.uf)
 |[],j,s,h=>by simp at h
 |x::l,0,s,h=>by
  have:x=s:=by simpa using h
  subst this;exact⟨rfl,rfl,rfl⟩
 |x::l,j+1,s,h=>by
  have h':l[j]? =μ s:=by simpa using h
  obtain⟨a,b,c⟩:=Mz l j s h';have e:P5 (x::l)=ι κ x.dst::ι κ x.far::ι κ x.uf::P5 l:=rfl;have e1:(j+1)*3=j*3+3:=eE;have e2:(j+1)*3+1=j*3+1+3:=eE;have e3:(j+1)*3+2=j*3+2+3:=eE;rw[e,e2,e3,e1];simp only[List.getElem?_cons_succ];exact⟨a,b,c⟩
theorem Row.hs {v:Value} {L:List HP} (h:Row w 3 v L.length (P5 L)):∃a cap,v=σ a L.length cap/\QJ w a L.length L:=by
 rcases h.2 with⟨rfl,e⟩|⟨g,cap,rfl,_⟩
 ·rw[e];exact⟨ν,0,rfl,⟨e,.inl rfl⟩⟩
 ·refine⟨_,cap,rfl,⟨rfl,.inr ⟨g,0,rfl,λj s e=> ?_⟩⟩⟩;obtain⟨a,b,c⟩:=Mz L j s e;rw[show 0+j*3=j*3 by omega];exact⟨Row.cell h _ _ a,Row.cell h _ _ b,Row.cell h _ _ c⟩
theorem FP(w:eB)(x y z:Value)(t:TypeId)(g:Nat)(hg:w.heap.size=g):∀(j:Nat) (u:Value),[x,y,z][j]? =μ u->(w.alloc (γ #[x,y,z] t)).cell? ((⟨g,0,ν⟩:Addr).add j)=μ u:=by
 subst hg;intro j u hu;rw[add_plain,aq];simpa using hu
theorem Yf(x y z:Int):∀u∈ [eI .i64 x,eI .i64 y,eI .i64 z],u.oneCell'=true:=by simp[Value.oneCell']
theorem US:(fk.info? 98).map (λi=>(i.zero,i.size,i.bytes))=μ (μ (.agg #[ι κ 0,ι κ 0,ι κ 0]),3,24):=gT
theorem QU(H:Nat->HP)(B:Nat)(w:eB)(hB:jr w B (hC H) 259):
 Calls fk 166 #[π (μ ⟨B,0,ν⟩)] w λe w'=>∃a cap,e=ρ (σ a (uG H 7).length cap)/\HsN w w' a (uG H 7).length (uG H 7)/\eN w w':=by
 obtain⟨i0,hi,oz,mW,nT⟩:=aW US
 go_in
 go_wp2
 go_loopw [3,8] (λs v wr=>∃n:Nat,n<=7/\v=ι κ n/\Row wr 3 s (uG H n).length (P5 (uG H n))/\(∀g,s.ownBlock=μ g->w.heap.size<=g)/\eN w wr) (λ_ v _=>7-(ft v).toNat)
 case atStart=>exact⟨0,eE,rfl,Row.nil _ _,λg hg=>by simp[eF]at hg,au _ _⟩
 case round=>
  obtain⟨n,hn,rfl,ji,jC,ja⟩:=hrel;have HL:Hid _:=uH H n;have HS:Hid (uG H (n+1)=if 0<(H n).far then uG H n++ [H n]else uG H n):=rfl;by_cases UO:n<7
  ·have QP:(n:Int)<7:=eE;obtain⟨p0,p1,p2⟩:=FK H n UO;have hBw:=hB.below ja;have c0:=(hBw.cell (n*3)).trans p0;have c1:=(hBw.cell (n*3+1)).trans p1;have c2:=(hBw.cell (n*3+2)).trans p2;clear p0 p1 p2 hBw;obtain⟨p,hp⟩:=gH (H n);rw[hp]at c0 c1 c2 HS;clear hp;obtain⟨pd,pf,px⟩:=p;simp only at c0 c1 c2 HS;have Ya:=ja.alloc ja.size (γ #[ι κ pd,ι κ pf,ι κ px] 98);have HBA:Hid _:=Ya;have hws:Hid (w.heap.size<=wr.heap.size):=ja.size;have uI:=ji.alloc (γ #[ι κ pd,ι κ pf,ι κ px] 98);have Yg:Hid _:=jC;by_cases hf:0<pf
   ·rw[ag hf]at HS;obtain⟨L,hLe⟩:=gH (uG H n);rw[hLe]at HS HL uI;have hLl:L.length<=n:=HL.out;clear hLe ji jC ja Ya;go_wp2_with(at_builtin;go_must(refine iX _ rfl (.tmp 16) (.tmp 18) 94 rfl 98 i0 (.agg #[ι κ 0,ι κ 0,ι κ 0]) 3 24 Tryz.underlying94 hi oz mW nT rfl eH u3 L.length (P5 L) rfl (uI.alloc _) _ 1 1 [ι κ pd,ι κ pf,ι κ px] rfl rfl eH (FP _ _ _ _ _ _ iC) (Yf _ _ _) (by unfold maxLen;omega) eE ?_));intro g' jL w3 sM tI uh;have HR3:Hid (Row w3 3 (σ (μ ⟨g',0,ν⟩) (L.length+1) jL) (L++ [(⟨pd,pf,px⟩:HP)]).length (P5 (L++ [(⟨pd,pf,px⟩:HP)]))):=by
     show Row _ _ _ _ _;rw[QT,aA];exact sM
    have kb:eN w ((wr.alloc (γ #[ι κ pd,ι κ pf,ι κ px] 98)).alloc (γ #[ι κ pd,ι κ pf,ι κ px] 98)):=Below.alloc HBA.out HBA.out.size _;have JV:Hid (eN w w3):=⟨tI.os.trans kb.os,tI.tape.trans kb.tape,tI.output.trans kb.output,Nat.le_trans kb.size tI.size,λi hi=>(tI.block i (Nat.lt_of_lt_of_le hi kb.size) (λe=>by have:=Yg.out i e.symm;omega)).trans (kb.block i hi)⟩
    have HG3:Hid (∀g,eF (σ (μ ⟨g',0,ν⟩) (L.length+1) jL)=μ g->w.heap.size<=g):=by
     intro g hg;have Qw:g'=g:=by simpa[eF]using hg
     subst Qw;rcases uh with e|e
     ·exact Yg.out _ e
     ·have:=hws.out;omega
    clear sM tI uh kb uI c0 c1 c2
    go_wp2
    go_roundw
    case rel=>exact⟨n+1,eE,by go_num,by rw[HS.out];exact HR3.out,HG3.out,JV.out⟩
    case measure=>simp[ft];omega
   ·rw[ae hf]at HS;have HR2:Hid _:=uI;clear ji jC ja Ya uI
    go_wp2
    go_roundw
    case rel=>exact⟨n+1,eE,by go_num,by rw[HS.out];exact HR2.out,Yg.out,HBA.out⟩
    case measure=>simp[ft];omega
  ·have QP:¬(n:Int)<7:=eE;have jV:n=7:=eE;subst jV;obtain⟨a,cap,rfl,hR⟩:=Row.hs ji;have HR:Hid (HsN w wr a (uG H 7).length (uG H 7)):=⟨hR,λx e=>by subst e;exact jC _ rfl⟩
   clear hR ji jC
   go_wp2
   go_ret
   first|exact⟨a,cap,rfl,HR.out,ja⟩|exact⟨a,⟨cap,rfl⟩,HR.out,ja⟩
def ql(C:nj)(r:Nat):Nat->Nat->HP
 |0=>nO C r 7
 |k+1=>P4 C r (ql C r k) 7
def xQ(C:nj)(r:Nat):List HP:=uG (ql C r 6) 7
theorem zS {C:nj} (r:Nat)(hC:∀x y,0<=C x y/\C x y<=20):∀k,qK (ql C r k) (20+980*k)
 |0=>λn=>by
  simp only[ql,nO];have:=hC r n;split
  ·simp only;omega
  ·simp[HP.zero]
 |k+1=>λn=>by
  have:=(zS r hC k).go (r:=r) hC 7 n;simp only[ql];push_cast at this⊢;omega
theorem Ia(hC:∀x y,0<=C x y/\C x y<=20):∀x y,0<=oH C x y/\oH C x y<=20:=by
 intro x y;have:=hC x y;simp only[oH];split<;>omega
theorem QV(a:Option Addr)(n cap:Nat)(S:Nat->SV)(E:Nat->List j2)(r:Nat)(w:eB)(h:yO w a n S E)(hn:n<=1000)(jb:∀j,j<n->pj (S j).own (S j).seq (E j)=0)(kU:1<=r)(hr6:r<=6):
 Calls fk 116 #[σ a n cap,ι κ (r:Int)] w λe w'=>∃b c,e=ρ (σ b (xQ (oH (lP S E n)) r).length c)/\HsN w w' b (xQ (oH (lP S E n)) r).length (xQ (oH (lP S E n)) r)/\eN w w':=by
 have htl:=NT a n cap S E w h hn jb;have hz:=yQ;have nT:=H4;have H7:=Ia (zQ S E n jb);have HRG:Hid _:=H7;have r1:¬(r:Int)<1:=eE;have r2:¬6<(r:Int):=eE;obtain⟨Z,hZ⟩:=gH (gC (λ_ _=>0));obtain⟨Z2,hZ2⟩:=gH (hC (λ_=>HP.zero));have zs:Z.size=49:=by rw[<-hZ];exact pz _
 have zs2:Z2.size=21:=by rw[<-hZ2];exact rT _
 rw[hZ]at hz;rw[hZ2]at nT;clear hZ hZ2 H7 jb
 go_in
 go_wp2_with(fail);refine htl.mono ?_;rintro e w1 ⟨rfl,k1⟩;have A8:=QO (lP S E n) w1;obtain⟨C,hCe⟩:=gH (oH (lP S E n));rw[hCe]at A8 HRG;have HCe:Hid _:=hCe;clear htl hCe;go_wp2_with(fail);refine A8.mono ?_;rintro e w2 ⟨rfl,k2⟩;have mf:=iA k1 k2;clear A8 k1 k2;have gs:(gC C).size=49:=pz _;have g1:(gC C).all (·.oneCell')=true:=Kj _;have uD:(fk.info? 256).map (·.size)=μ (gC C).size:=by rw[gs];exact vJ
 have qI:Z.size=(gC C).size:=by rw[gs,zs]
 have hB:jr (w2.alloc (γ Z 256)) w2.heap.size Z 256:=jr.new _ _ _;have DB:jr ((w2.alloc (γ Z 256)).setRow w2.heap.size (gC C)) w2.heap.size (gC C) 256:=hB.setRow;have Hb3:Hid (eN w ((w2.alloc (γ Z 256)).setRow w2.heap.size (gC C))):=oe (mf.alloc mf.size _) mf.size _;have Mx:=NW C r eE ((w2.alloc (γ Z 256)).setRow w2.heap.size (gC C));have yS:Hid _:=DB;have Hs2:Hid _:=mf.size;clear mf;go_wp2_with(first
  |refine nI _ rfl (.tmp 5) 256 rfl w2.heap.size (gC C) _ _ rfl DB bW uD ?_
  |refine l8 _ rfl (.tmp 5) (.tmp 15) 256 rfl w2.heap.size Z (gC C) rfl rfl hB qI uD g1 ?_)
 refine Mx.mono ?_;rintro e w3 ⟨rfl,k3⟩;have xG:=jr.below yS.out k3;have sL:=iA Hb3.out k3;obtain⟨X,JU⟩:=gH (w2.heap.size);have HsX:Hid (w.heap.size<=X):=by show _<=_;rw[<-JU];exact Hs2.out
 rw[JU]at xG;rw[JU];have HLX:Hid (X<w3.heap.size):=xG.lt;clear Mx hB DB yS Hb3 k3 Hs2 JU uD qI;obtain⟨F,hF⟩:=gH (hC (nO C r 7));have fs:F.size=21:=by rw[<-hF];exact rT _
 have f1:F.all (·.oneCell')=true:=by rw[<-hF];exact QH _
 have hi2:(fk.info? 259).map (·.size)=μ F.size:=by rw[fs];exact FL
 have abp:Z2.size=F.size:=by rw[fs,zs2]
 rw[hF];have hB:jr (w3.alloc (γ Z2 259)) w3.heap.size Z2 259:=jr.new _ _ _;have hY4:jr ((w3.alloc (γ Z2 259)).setRow w3.heap.size F) w3.heap.size F 259:=hB.setRow;have hX4:jr ((w3.alloc (γ Z2 259)).setRow w3.heap.size F) X (gC C) 256:=(xG.below (iB _ _)).QF (by have:=HLX.out;omega);have Hb4:Hid (eN w ((w3.alloc (γ Z2 259)).setRow w3.heap.size F)):=oe (sL.alloc sL.size _) sL.size _;have HY4:Hid (jr ((w3.alloc (γ Z2 259)).setRow w3.heap.size F) w3.heap.size (hC (ql C r 0)) 259):=by show jr _ _ (hC (nO C r 7)) _;rw[hF];exact hY4
 have HX4:Hid _:=hX4;have HS3:Hid _:=sL.size;clear sL hF xG;go_wp2_with(first
  |refine l8 _ rfl (.tmp 6) (.tmp 18) 259 rfl w3.heap.size Z2 F rfl rfl hB abp hi2 f1 ?_)
 obtain⟨Y,NU⟩:=gH (w3.heap.size);rw[NU]at HY4 HX4 Hb4 HLX HS3;rw[NU];clear NU hB hY4 hX4 hi2 abp fs f1;obtain⟨W4,tR⟩:=gH ((w3.alloc (γ Z2 259)).setRow Y F);rw[tR]at HY4 HX4 Hb4;rw[tR];clear tR;have HRF:=zS r HRG.out;have afw:Hid _:=HRF;clear HRF
 go_loopw [19] (λv wr=>∃k:Nat,k<=6/\v=ι κ k/\jr wr X (gC C) 256/\jr wr Y (hC (ql C r k)) 259/\eN w wr) (λv _=>6-(ft v).toNat)
 case atStart=>exact⟨0,eE,rfl,HX4.out,HY4.out,Hb4.out⟩
 case round=>
  clear HX4 HY4 Hb4;obtain⟨k,hk,rfl,hX,hY,ja⟩:=hrel;by_cases hk6:k<6
  ·have afx:(k:Int)<6:=eE;have uD:(fk.info? 256).map (·.size)=μ (gC C).size:=by rw[gs];exact vJ
   have hgo:=QS C r eE (ql C r k) Y (20+980*k) wr hY HRG.out (afw.out k) eE;have HX:Hid _:=hX;have HB:Hid _:=ja;clear hY ja;go_wp2_with(first
    |refine nI _ rfl (.tmp 5) 256 rfl X (gC C) _ _ rfl hX bW uD ?_)
   refine hgo.mono ?_;rintro e w5 ⟨rfl,hY5,Yh⟩;have hXl:=jr.lt HX.out;have HX5:Hid (jr w5 X (gC C) 256):=jr.keep HX.out (Yh.block X hXl (λe=>by have:=HLX.out;simp at e;omega));have HY5:Hid _:=hY5;have HB5:Hid (eN w w5):=⟨Yh.os.trans HB.out.os,Yh.tape.trans HB.out.tape,Yh.output.trans HB.out.output,Nat.le_trans HB.out.size Yh.size,λi hi=>(Yh.block i (Nat.lt_of_lt_of_le hi HB.out.size) (λe=>by have:=HS3.out;simp at e;omega)).trans (HB.out.block i hi)⟩
   clear hgo hY5 Yh hX uD
   go_wp2
   go_roundw
   case rel=>exact⟨k+1,eE,by go_num,HX5.out,HY5.out,HB5.out⟩
   case measure=>simp[ft];omega
  ·have afx:¬(k:Int)<6:=eE;have hke:k=6:=eE;have hli:=QU (ql C r k) Y wr hY;have HL:Hid (uG (ql C r k) 7=xQ (oH (lP S E n)) r):=by show _=_;rw[HCe.out,hke];rfl
   rw[HL.out]at hli;clear hX hY hke HL;go_wp2_with(fail);refine hli.mono ?_;rintro e w5 ⟨ra,rc,rfl,hR,k5⟩;have HR:Hid (HsN w w5 ra (xQ (oH (lP S E n)) r).length (xQ (oH (lP S E n)) r)):=⟨hR.r,λx e=>Nat.le_trans ja.size (hR.nw x e)⟩
   have HB:Hid _:=iA ja k5;clear hli hR k5 ja
   go_wp2
   go_ret
   first|exact⟨_,_,rfl,HR.out,HB.out⟩|exact⟨_,⟨_,rfl⟩,HR.out,HB.out⟩
theorem FQ(a b:Option Addr)(n ca cb:Nat)(L:List HP)(w:eB)(hS:QJ w a n L)(hT:QJ w b n L)(hn:n<=1000):
 Calls fk 46 #[σ a n ca,σ b n cb] w λe w'=>e=ρ (.bool true)/\eN w w':=by
 have hl:=hS.len
 go_in
 go_wp2
 go_loopw [5] (λi wr=>∃k:Nat,k<=n/\i=ι κ k/\eN w wr) (λi _=>n-(ft i).toNat)
 case atStart=>exact⟨0,Nat.zero_le _,rfl,au _ _⟩
 case round=>
  obtain⟨k,hk,rfl,ja⟩:=hrel;by_cases kH:k<n
  ·have nG:(k:Int)<(n:Int):=eE;have r1:=(hS.below ja).row;have r2:=(hT.below ja).row;rcases r1 with h1|⟨b1,o1,rfl,hc1⟩
   ·omega
   rcases r2 with h1|⟨b2,o2,rfl,P6⟩
   ·omega
   have hg:L[k]? =μ (L[k]'(by omega)):=ay eE;obtain⟨c0,c1,c2⟩:=hc1 k _ hg;obtain⟨d0,d1,d2⟩:=P6 k _ hg;generalize L[k]'(by omega)=p at c0 c1 c2 d0 d1 d2 hg;obtain⟨pd,pf,px⟩:=p;simp only at c0 c1 c2 d0 d1 d2;clear hc1 P6 hg;have HB:Hid _:=ja;clear ja
   go_wp2
   go_quiet(fail)
   go_wp2
   go_roundw
   case rel=>exact⟨k+1,eE,by go_num,below_drewN HB.out _⟩
   case measure=>simp[ft];omega
  ·have yG:¬(k:Int)<(n:Int):=eE
   go_wp2
   go_ret;exact⟨rfl,ja⟩
end Go.Proofs.YtieklnlbljejdaaGreatDoor
