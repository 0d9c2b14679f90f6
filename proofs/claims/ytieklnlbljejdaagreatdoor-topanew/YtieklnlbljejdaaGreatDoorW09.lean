import Derived.Test.YtieklnlbljejdaaGreatDoorW08
open Go.Value renaming int → ι, slice → σ, pointer → π, tuple → τ, nilIface → η
open Go.IntKind renaming i64 → κ
open Go.Ending renaming returned → ρ
open Go.Obj renaming cells → γ
open Option renaming none → ν, some → μ
open Go renaming World → dY, Calls → eZ, Value → dZ
open Go.Proofs.Tryz renaming prog → e7
open Go.Value renaming ownBlock → eu
open Go.RowKit renaming intOf → fa
open Go.Instr renaming loadAt → fT, index → gT
open Go.Act renaming put → gG
open List renaming setIfInBounds_toArray → gH, set_cons_zero → gJ, set_cons_succ → gK, length_take → gQ, take → gS
open Go.Builtin renaming append_ → fN
open Go.Region renaming wanted → eP
open Go.Addr renaming off → gU
set_option maxRecDepth 100000
set_option maxHeartbeats 8000000
open Go.Proofs.Tryz
namespace Go.Proofs.YtieklnlbljejdaaGreatDoor
open Go.RowKit St
namespace Rt
variable {D b c d g i k k' p:Nat} {id:Int} {m:Nat->Int} {r:iO} {t u v:Value} {w w' x:World} {y:Yt}
theorem VX(id:Int)(b off n cap:Nat)(ms:Nat->Int)(w:dY)(hT:jh w)(pZ:1<=id/\id<=6)(hn:1<=n/\n<=3)(hms:∀i,i<n->w.cell? ⟨b,off+i,ν⟩=μ (ι κ (ms i)))(hm:∀i,i<n->1<=ms i/\ms i<=20)(X:Nat->Prop)(hX:∀k,X k->k<w.heap.size):
 eZ e7 17 #[ι κ id,σ (μ ⟨b,off,ν⟩) n cap] w λe w'=>∃z,e=ρ (τ #[π (μ ⟨z.R,0,ν⟩),η])/\mC w' z (jO id n ms)/\eE w w'/\(∀k,z.mine n k->w.heap.size<=k)/\w.heap.size<=z.fm.bm/\(∀x∈z.fm.bs,w.heap.size<=x)/\∀k,X k->z.fm.no k:=by
 have hz:=NW;have rV:=NY;obtain⟨i0,hi,oB,np,mI⟩:=aX VQ;obtain⟨Zp,TE⟩:=gq (rowOf 71 zPt);have Ry:Zp.size=71:=by rw[<-TE];exact mM _ _
 rw[TE]at hz oB;have alq:¬Zp= #[] :=λe=>by rw[e]at Ry;simp at Ry
 have hnb:=Vi n w hn;have g1:¬id<1:=eh;have g2:¬6<id:=eh;clear TE
 go_in
 go_wp2_with(fail);refine hnb.mono ?_;rintro e w1 ⟨rfl,m,CR,rN,b1,m1,m2,m3⟩;have rN:=rN.avoid X (λk e=>Nat.lt_of_lt_of_le (hX k e) b1.size);obtain⟨m',U2⟩:∃m':FM,({m with no:=X}:FM)=m':=⟨_,rfl⟩
 have lh:m'.no=X:=by rw[<-U2]
 have CR:m'.bs.length=n:=by rw[<-U2];exact CR
 have m1:w.heap.size<=m'.bm:=by rw[<-U2];exact m1
 have m3:∀x∈m'.bs,w.heap.size<=x:=by rw[<-U2];exact m3
 have m2:w.heap.size<=m'.g:=by rw[<-U2];exact m2
 rw[U2]at rN;have TI:=Li (w.heap.size+1) m' 0 (λ_=>ν) (λ_ _=>ν) id 1 ν 0 0 [] w1 rN (sC eh) ⟨rfl,.inl rfl⟩ (λ_=>rfl) eh (by unfold oD;rw[af eh];rfl);clear hnb;go_wp2_with(fail);refine TI.mono ?_;rintro e J ⟨rfl,hBR,hKM⟩;clear TI;have bb:eE w J:=jF.below b1 hKM m1 m3;have H0:Making J (J.alloc (γ #[ι κ id,σ ν 0 0,π (μ ⟨w.heap.size+1,0,ν⟩),σ ν 0 0,ι κ 0] 135)) id ms 0 J.heap.size (w.heap.size+1) (λ_=>0) (σ ν 0 0):=⟨iZ.new J _ _,Row.nil _ _,λi hi=>eh,gY _ _,Nat.le_refl _,λi hi=>eh,λk hk=>by simp[eu]at hk,λi j hi=>eh⟩
 have Gi:∀W,eE J W->∀i,i<n->W.cell? ⟨b,off+i,ν⟩=μ (ι κ (ms i)):=λW hW i hi=>by
  have hc:=(aj (a:=⟨b,off+i,ν⟩) (bb.block b (ag _ _ (hms i hi)))).trans (hms i hi);exact(aj (a:=⟨b,off+i,ν⟩) (hW.block b (ag _ _ hc))).trans hc
 have hTb:jh J:=hT.below bb;have HBR:Hid _:=hBR;have YX:Hid _:=bb;have HCM:Hid _:=Gi;have HH0:Hid _:=H0;have Q:Hid (w.heap.size<=m'.bm/\(∀x∈m'.bs,w.heap.size<=x)/\m'.bs.length=n/\(¬m'.no (w.heap.size+1)/\¬m'.no m'.g/\∀b,(b=m'.bm \/b∈m'.bs)->¬m'.no b)/\∀k,X k->m'.no k):=by
  refine⟨m1,m3,CR,⟨λe=> ?_,λe=> ?_,λb hb e=> ?_⟩,λk hk=>by rw[lh];exact hk⟩
  ·rw[lh]at e;have H:=hX _ e;omega
  ·rw[lh]at e;have H:=hX _ e;omega
  ·rw[lh]at e;have H:=hX _ e;rcases hb with rfl|hb
   ·omega
   ·have h2:=m3 b hb;omega
 obtain⟨Bb,JC⟩:=gq (w.heap.size+1);rw[JC]at HH0 HBR Q;clear hBR bb Gi H0 b1 hKM rN m1 m2 m3 CR hms lh U2;go_wp2_with(fail)
 try rw[JC]
 obtain⟨M,E⟩:=gq (J.heap.size);rw[E]at HH0;rw[E];have HRR:Hid _:=E;have mT:=hn.1;have vQ:=hn.2;have alw:=pZ.1;have acY:=pZ.2;clear hn pZ E
 go_loopw [39] (λx wr=>∃(q:Nat) (B:Nat->Nat) (v:dZ),q<=n/\x=ι κ q/\Making J wr id ms q M Bb B v) (λx _=>n-(fa x).toNat)
 case atStart=>exact⟨0,_,_,Nat.zero_le _,rfl,HH0.out⟩
 case round=>
  obtain⟨q,B,v,hq,rfl,G⟩:=hrel;by_cases kD:q<n
  ·have nS:(q:Int)<(n:Int):=eh;have hq0:(0:Int)<=(q:Int):=eh;have hmc:=HCM.out _ G.nU q kD;have CR:=ag _ _ hmc;have hmq:=hm q kD;have hnp:=Ly (ms q) (8*id+q+1) wr (hTb.below G.nU) hmq eh;have HM:Hid _:=G;clear G;go_wp2_with(fail);refine hnp.mono ?_;rintro e w1 ⟨B',rfl,hLk,hBg,bN⟩;clear hnp;obtain⟨D,hD⟩:=gq (rowOf 71 (xB (Bq (ms q) (8*id+q+1)) B' (σ ν 0 0) Nk));have Ke:D.size=71:=by rw[<-hD];exact mM _ _
   have py:D.all (·.oneCell')=true:=by rw[<-hD];exact Js Dp.zero rfl
   have hDl:D.toList.length=1*71:=by rw[Array.length_toList,Ke]
   have aaW:∀u∈D.toList,u.oneCell'=true:=λu hu=>(b9.1 py) u (by simpa using hu);rw[hD];have jn:=dP w1 Zp D 142;have M1:=HM.out.below bN;have bA:=gY w1 (γ D 142);have M2:=M1.below bA;have hV:iZ (w1.alloc (γ D 142)) w1.heap.size D 142:=iZ.new _ _ _;have acZ:=hLk.below bA;go_wp2_with(refine oo _ rfl (.tmp 11) (.tmp 52) 142 rfl rfl w1.heap.size Zp D rfl rfl (iZ.new _ _ _) (by rw[Ry,Ke]) (by rw[Ke];exact rV) py ?_;rw[jn]);obtain⟨W2,ny⟩:=gq (w1.alloc (γ D 142));obtain⟨Y,hY⟩:=gq (w1.heap.size);rw[ny]at M2 hV acZ;rw[hY]at hV;rw[ny,hY];have hBf:B'<Y:=by rw[<-hY];exact hLk.lt
   have hMY:J.heap.size<=B':=by have H:=HM.out.nU.size;omega
   have c1:W2.cell? ⟨M,1,ν⟩=μ v:=M2.oh.cell 1;have cl:=M2.oh.lt;have oz:=M2.oh;have iX:=M2.row;have HO:Hid (v.ownBlock≠μ M):=λe=>(M2.gV _ e).2 rfl;have Hq:Hid _:=M2;have aqI:wr.heap.size<B':=hBg;have HOY:Hid (v.ownBlock≠μ Y):=λe=>by have H:=M1.row.lt Y e;omega
   have aly:M<Y:=by have H:=M1.oh.lt;omega
   clear jn M1 bA M2 ny hLk bN;have hYR:Y≠M:=by intro e;have H:=aly;omega
   have R7:iZ (W2.alloc (γ D 142)).drew Y D 142:=iZ.below hV (jG (gY _ _));have c1b:(W2.alloc (γ D 142)).drew.cell? ⟨M,1,ν⟩=μ v:=mN c1;have kj:∀T:dY,iZ T Y D 142->(fT 142 (π (μ ⟨Y,0,ν⟩))).run e7 T=.ok (.agg D) T:=λT hS=>by
    simp only[fT,Instr.sureAddr,Sem.run_bind,Sem.run_pure,Result.andThen];exact bU T Y 142 142 D (0,0) _ hS underlying142 rfl (by rw[Ke];exact rV)
   have mX:B'≠M:=by have H:=HM.out.oh.lt;omega
   have sy:v.ownBlock≠μ B':=λe=>by have H:=HM.out.row.lt B' e;omega
   have R8:∀i,i<q->B i≠B':=λi hi e=>by have H:=(HM.out.lk i hi).lt;omega
   have HD:Hid _:=hD;clear hD;refine cu (S:=λx=>iZ x Y D 142) gX hV (λlK=> ?_);refine jr 0 (μ 57) rfl rfl gX gX gX (λ_ _ _ h=>h) (by rfl) (v:= ?_) ?_ jf ?_
   rotate_left
   ·intro T V
    (try dsimp only at V)
    go_simp
    try with_reducible rfl
   simp only[gG,gH,gJ,gK];refine jr 1 (μ 58) rfl rfl gX gX gX (λ_ _ _ h=>h) (by rfl) (v:= ?_) ?_ jf ?_
   rotate_left
   ·intro T V
    (try dsimp only at V)
    go_simp
    try with_reducible rfl
   simp only[gG,gH,gJ,gK];refine jr 2 (μ 59) rfl rfl gX gX gX (λ_ _ _ h=>h) (by rfl) (v:= ?_) ?_ jf ?_
   rotate_left
   ·intro T V
    (try dsimp only at V)
    go_simp
    try with_reducible rfl
   simp only[gG,gH,gJ,gK];refine jr 3 (μ 60) rfl rfl gX gX gX (λ_ _ _ h=>h) (by rfl) (v:= ?_) ?_ jf ?_
   rotate_left
   ·intro T V
    (try dsimp only at V)
    go_simp
    try with_reducible rfl
   simp only[gG,gH,gJ,gK];refine jr 5 (μ 62) rfl rfl gX gX gX (λ_ _ _ h=>h) (by rfl) (v:=.agg D) ?_ jf ?_
   ·intro T V;have h7:=kj T V;simp[execOp,Act.eval,h7]
   simp only[gG,gH,gJ,gK];refine aR (rs:=[4,6]) gX gZ ?_;refine aG (o:=_) rfl (λK Z=> ?_) (aG (o:=_) rfl (λK Z=> ?_) aN)
   ·go_simp
    (try go_wp2_with(fail))
    refine Z.out _ _ (by exact hV) (λlK=> ?_);clear Z K;refine aR (rs:=[6]) gX gZ ?_;refine aG (o:=_) rfl (λK Z=> ?_) aN
    go_simp
    rw[EZ D _ (by rw[Ke];rfl) 71 Ke];refine Z.out _ _ (by exact R7) (λlK=> ?_);clear Z K;refine aR (rs:=[7]) gX gZ ?_;refine aG (o:=_) rfl (λK Z=> ?_) aN;refine l8 (by rfl) (.tmp 61) (.tmp 63) 133 (by rfl) 142 i0 (.agg Zp) 71 144 underlying133 hi oB np mI Ry eA v q (yV id ms B q) (by rfl) ((iX.alloc _).drew) _ 1 1 D.toList (by rfl) hDl eA (E4 _ _ _ _ rfl) aaW (by unfold maxLen;omega) eh ?_;intro g' jv x1 lg A jI;have MV:=uB oz A HO.out;have U:=uB hV A HOY.out;have f1:=MV.frozen 1;have k1:x1.cell? ⟨M,1,ν⟩=μ v:=MV.cell 1;refine Z.out _ _ (by exact U) (λlK=> ?_);clear Z K;refine jr 8 (μ 65) rfl rfl gX gX gX (λ_ _ _ h=>h) (by rfl) (v:= ?_) ?_ jf ?_
    rotate_left
    ·intro T V
     (try dsimp only at V)
     go_simp
     try with_reducible rfl
    simp only[gG,gH];refine jr 9 (μ 66) rfl rfl gX gX gX (λ_ _ _ h=>h) (by rfl) (v:= ?_) ?_ jf ?_
    rotate_left
    ·intro T V
     (try dsimp only at V)
     go_simp
     try with_reducible rfl
    simp only[gG];refine aR (rs:=[10]) gX gZ ?_;refine aG (o:=_) rfl (λK Z=> ?_) aN
    go_simp
    (try go_wp2_with(fail))
    refine Z.out _ _ (by exact U.other hYR _) (λlK=> ?_);clear Z K;refine cQ gX ?_ _;have HAdd:Hid _:=Making.add Hq.out HD.out acZ hMY mX sy R8 lg A jI;clear lg A jI MV U f1 k1
    go_wp2
    go_roundw
    case rel=>exact⟨q+1,_,_,eh,by go_num,HAdd.out⟩
    case measure=>simp[fa];omega
   ·go_simp
    rw[EZ D _ (by rw[Ke];rfl) 71 Ke];refine Z.out _ _ (by exact R7) (λlK=> ?_);clear Z K;refine aR (rs:=[4]) gX gZ ?_;refine aG (o:=_) rfl (λK Z=> ?_) aN
    go_simp
    (try go_wp2_with(fail))
    refine Z.out _ _ (by exact R7) (λlK=> ?_);clear Z K;refine aR (rs:=[7]) gX gZ ?_;refine aG (o:=_) rfl (λK Z=> ?_) aN;refine l8 (by rfl) (.tmp 61) (.tmp 63) 133 (by rfl) 142 i0 (.agg Zp) 71 144 underlying133 hi oB np mI Ry eA v q (yV id ms B q) (by rfl) ((iX.alloc _).drew) _ 1 1 D.toList (by rfl) hDl eA (E4 _ _ _ _ rfl) aaW (by unfold maxLen;omega) eh ?_;intro g' jv x1 lg A jI;have MV:=uB oz A HO.out;have U:=uB hV A HOY.out;have f1:=MV.frozen 1;have k1:x1.cell? ⟨M,1,ν⟩=μ v:=MV.cell 1;refine Z.out _ _ (by exact U) (λlK=> ?_);clear Z K;refine jr 8 (μ 65) rfl rfl gX gX gX (λ_ _ _ h=>h) (by rfl) (v:= ?_) ?_ jf ?_
    rotate_left
    ·intro T V
     (try dsimp only at V)
     go_simp
     try with_reducible rfl
    simp only[gG,gH];refine jr 9 (μ 66) rfl rfl gX gX gX (λ_ _ _ h=>h) (by rfl) (v:= ?_) ?_ jf ?_
    rotate_left
    ·intro T V
     (try dsimp only at V)
     go_simp
     try with_reducible rfl
    simp only[gG];refine aR (rs:=[10]) gX gZ ?_;refine aG (o:=_) rfl (λK Z=> ?_) aN
    go_simp
    (try go_wp2_with(fail))
    refine Z.out _ _ (by exact U.other hYR _) (λlK=> ?_);clear Z K;refine cQ gX ?_ _;have HAdd:Hid _:=Making.add Hq.out HD.out acZ hMY mX sy R8 lg A jI;clear lg A jI MV U f1 k1
    go_wp2
    go_roundw
    case rel=>exact⟨q+1,_,_,eh,by go_num,HAdd.out⟩
    case measure=>simp[fa];omega
  ·have hqn:q=n:=eh;subst hqn;obtain⟨g,cp,hv,hR,QH⟩:=G.done ⟨mT,vQ⟩ ⟨alw,acY⟩ hTb HBR.out Q.out.2.2.2.1 Q.out.2.2.1;have HF:Hid (∃z:Zt,z.R=M/\mC wr z (jO id q ms)/\eE w wr/\(∀k,z.mine q k->w.heap.size<=k)/\w.heap.size<=z.fm.bm/\(∀x∈z.fm.bs,w.heap.size<=x)/\∀k,X k->z.fm.no k):=by
    refine⟨_,rfl,hR,gu YX.out G.nU,λk hk=> ?_,Q.out.1,Q.out.2.1,λk hk=>.inl (Q.out.2.2.2.2 k hk)⟩;have hs:=YX.out.size;rcases Ie hk with rfl|rfl|⟨i,hi,rfl⟩
    ·have:=G.gR;omega
    ·omega
    ·have:=(G.gB i hi).1;omega
   have xZ:¬(q:Int)<(q:Int):=eh;clear G hR QH hv
   go_wp2
   go_ret2
   obtain⟨z,np,mI⟩:=HF.out;exact⟨z,by rw[np];rfl,mI⟩
theorem PY:(e7.info? 3).map (λi=>(i.zero,i.size,i.bytes))=μ (μ (ι κ 0),1,8):=gX
def vG(ms:Nat->Int):Nat->List dZ
 |0=>[]
 |q+1=>vG ms q++ [.int .i64 (ms q)]
theorem si(ms:Nat->Int):∀q,(vG ms q).length=q
 |0=>rfl
 |q+1=>by unfold vG;rw[az,si ms q];rfl
theorem Lz(ms:Nat->Int):∀(q i:Nat),i<q->(vG ms q)[i]? =μ (ι κ (ms i))
 |q+1,i,h=>by
  unfold vG;by_cases e:i<q
  ·rw[bE (by rw[si];exact e)];exact Lz ms q i e
  ·have:i=q:=eh;subst this;rw[bu (by rw[si];exact Nat.le_refl _),si,Nat.sub_self];rfl
theorem yh(N b i:Nat)(E:List (Int×Int×Int))(ms:Nat->Int)(w:dY)(hc:w.cell? ⟨N,2,ν⟩=μ (.map (μ b)))(hm:oI w b E)(hE:Dx E)(hi6:i<6)(ht:∀p:Nat,p<3->(kS E ((i:Int)+1) (p:Int)).getD 1=ms p/\1<=ms p/\ms p<=20)(hT:jh w)(X:Nat->Prop)(hX:∀k,X k->k<w.heap.size):
 eZ e7 96 #[π (μ ⟨N,0,ν⟩),ι κ ((i:Int)+1)] w λe w'=>∃z,e=ρ (τ #[π (μ ⟨z.R,0,ν⟩),η])/\mC w' z (jO ((i:Int)+1) 3 ms)/\eE w w'/\(∀k,z.mine 3 k->w.heap.size<=k)/\w.heap.size<=z.fm.bm/\(∀x∈z.fm.bs,w.heap.size<=x)/\∀k,X k->z.fm.no k:=by
 obtain⟨i0,hi,oB,np,mI⟩:=aX PY;have Nl:=ag _ _ hc;have bl:b<w.heap.size:=by
  obtain⟨es,clock,h1,_⟩:=hm;exact(ax.1 h1).1
 have HL:Hid (∀W,eE w W->∀p:Nat,p<3->(Instr.lookup 184 (.map (μ b)) (.agg #[ι κ ((i:Int)+1),ι κ (p:Int)]) true).run e7 W=.ok (τ #[ι κ ((kS E ((i:Int)+1) (p:Int)).getD 0),.bool (kS E ((i:Int)+1) (p:Int)).isSome]) W):=by
  intro W A p hp;exact oI.look (hm.keep (A.block b bl)) hE ⟨eh,eh,eh,eh⟩
 have HC:Hid (∀W,eE w W->W.cell? ⟨N,2,ν⟩=μ (.map (μ b))/\N<W.heap.size):=by
  intro W A;exact⟨(aj (a:=⟨N,2,ν⟩) (A.block N Nl)).trans hc,Nat.lt_of_lt_of_le Nl A.size⟩
 have HT:Hid _:=ht;have RT:Hid _:=hT;clear hm hc ht hT
 go_in
 go_wp2
 go_loopw [6,10] (λv x wr=>∃q:Nat,q<=3/\x=ι κ q/\Row wr 1 v q (vG ms q)/\(∀k,v.ownBlock=μ k->w.heap.size<=k)/\eE w wr) (λ_ x _=>3-(fa x).toNat)
 case atStart=>exact⟨0,Nat.zero_le _,rfl,Row.nil _ _,λk Z=>by simp[eu]at Z,au _ _⟩
 case round=>
  obtain⟨q,hq,rfl,Y,jq,V⟩:=hrel;by_cases kD:q<3
  ·have nS:(q:Int)<3:=eh;have h:=HL.out wr V q kD;obtain⟨d2,dl⟩:=HC.out wr V;obtain⟨t1,t2,t3⟩:=HT.out q kD;have HR:Hid _:=Y;have G:Hid _:=jq;have U:Hid _:=V;clear jq V;cases qK:kS E ((i:Int)+1) (q:Int)with
   |none=>
    rw[qK]at h t1;have T1:Hid (ms q=1):=t1.symm;have e0:(Option.getD (ν:Option Int) 0)=0:=rfl;have e1:(Option.isSome (ν:Option Int))=false:=rfl;rw[e0,e1]at h;clear qK t1;go_wp2_with(at_builtin;go_must(refine iI _ rfl (.tmp 26) (.tmp 28) 22 rfl 3 i0 (ι κ 0) 1 8 underlying22 hi oB np mI rfl eA u6 q (vG ms q) rfl (Y.alloc _) _ 1 1 [ι κ 1] rfl rfl eA (qJ _ _ _) (xm _ _) (by unfold maxLen;omega) eh ?_));intro T Q J S M H;have HN:Hid (Row J 1 (σ (μ ⟨T,0,ν⟩) (q+1) Q) (q+1) (vG ms (q+1))/\(∀k,eu (σ (μ ⟨T,0,ν⟩) (q+1) Q)=μ k->w.heap.size<=k)/\eE w J):=by
     have hs:=U.out.size;refine⟨by unfold vG;rw[T1.out];exact S,λk Z=> ?_,?_⟩
     ·have:T=k:=by simpa[eu]using Z
      subst this;rcases H with e|e
      ·exact G.out _ e
      ·have:(wr.alloc (γ #[ι κ 1] 3)).heap.size=wr.heap.size+1:=gZ;omega
     ·exact(U.out.alloc hs _).grown M (by simp;omega) (λk Z=>G.out k (by rw[<-Z]))
    clear S M H Y
    go_wp2
    go_roundw
    case rel=>exact⟨q+1,eh,by go_num,HN.out⟩
    case measure=>simp[fa];omega
   |some m=>
    rw[qK]at h t1;have T1:Hid (ms q=m):=t1.symm;have e0:(Option.getD (μ m) 0)=m:=rfl;have e1:(Option.isSome (μ m))=true:=rfl;rw[e0,e1]at h;clear qK t1;go_wp2_with(at_builtin;go_must(refine iI _ rfl (.tmp 26) (.tmp 28) 22 rfl 3 i0 (ι κ 0) 1 8 underlying22 hi oB np mI rfl eA u6 q (vG ms q) rfl (Y.alloc _) _ 1 1 [ι κ m] rfl rfl eA (qJ _ _ _) (xm _ _) (by unfold maxLen;omega) eh ?_));intro T Q J S M H;have HN:Hid (Row J 1 (σ (μ ⟨T,0,ν⟩) (q+1) Q) (q+1) (vG ms (q+1))/\(∀k,eu (σ (μ ⟨T,0,ν⟩) (q+1) Q)=μ k->w.heap.size<=k)/\eE w J):=by
     have hs:=U.out.size;refine⟨by unfold vG;rw[T1.out];exact S,λk Z=> ?_,?_⟩
     ·have:T=k:=by simpa[eu]using Z
      subst this;rcases H with e|e
      ·exact G.out _ e
      ·have:(wr.alloc (γ #[ι κ m] 3)).heap.size=wr.heap.size+1:=gZ;omega
     ·exact(U.out.alloc hs _).grown M (by simp;omega) (λk Z=>G.out k (by rw[<-Z]))
    clear S M H Y
    go_wp2
    go_roundw
    case rel=>exact⟨q+1,eh,by go_num,HN.out⟩
    case measure=>simp[fa];omega
  ·obtain rfl:q=3:=eh;have S:=Y;have YL:∃g cap,u6=σ (μ ⟨g,0,ν⟩) 3 cap:=by
    rcases Y.2 with⟨_,e2⟩|⟨g,cap,e,_⟩
    ·omega
    ·exact⟨g,cap,e⟩
   obtain⟨g,cap,rfl⟩:=YL;have jn:=VX ((i:Int)+1) g 0 3 cap ms wr (jh.below (w:=w) RT.out V) eh eh (λj hj=>by
    have:=Row.cell Y j _ (Lz ms 3 j hj);rw[Nat.zero_add];exact this) (λj hj=>(HT.out j hj).2) X (λk Z=>Nat.lt_of_lt_of_le (hX k Z) V.size)
   have U:Hid _:=V;have h33:((3:Nat):Int)=3:=rfl;clear Y jq V S;go_wp2_with(fail);refine jn.mono ?_;rintro e w1 ⟨z,rfl,hz⟩;have HZ:Hid _:=hz;clear jn hz
   go_wp2
   go_ret2
   have hs:=U.out.size;obtain⟨z1,z2,z3,z4,z5,z6⟩:=HZ.out;exact⟨z,rfl,z1,gu U.out z2,λk Z=>Nat.le_trans hs (z3 k Z),Nat.le_trans hs z4,λx hx=>Nat.le_trans hs (z5 x hx),z6⟩
theorem LA(a:Addr)(n cap:Nat)(w:dY):(binOp .eql 140 (σ (μ a) n cap) (σ ν 0 0)).run e7 w=.ok (.bool false) w:=gX
theorem Za(w:dY):(binOp .eql 140 (σ ν 0 0) (σ ν 0 0)).run e7 w=.ok (.bool true) w:=gX
structure Ig(w w':dY)(v:dZ)(l:List UInt8):Prop where
 row:Row w' 1 v l.length (iR l)
 own:∀k,v.ownBlock=μ k->w.heap.size<=k
 below:eE w w'
theorem Co(a:Addr)(cap:Nat)(w:dY):
 eZ e7 201 #[σ (μ a) 0 cap] w λe w'=>∃(v:dZ),e=ρ v/\Ig w w' v [] :=by
 have hq:=LA
 go_in
 go_wp2
 go_ret;exact⟨_,rfl,⟨Row.made w 1 _ #[] (0,0) 0 0 [] rfl rfl (Nat.le_refl _) eA (.inl rfl) gZ,λj Z=>kH (Nat.le_refl _) Z,gY _ _⟩⟩
theorem Ok(w:dY):
 eZ e7 201 #[σ ν 0 0] w λe w'=>∃(v:dZ),e=ρ v/\Ig w w' v [] :=by
 have hq:=Za
 go_in
 go_wp2
 go_ret;exact⟨_,rfl,⟨Row.nil w 1,λj Z=>m9 Z,au _ _⟩⟩
theorem Sb(l:List UInt8):∀u∈iR l,u.oneCell'=true:=by
 intro u Z;unfold iR at Z;obtain⟨b,_,rfl⟩:=bH.1 Z;rfl
theorem LB(b off n cap:Nat)(l:List UInt8)(w:dY)(hn:n<=1000000)(qw:0<n)(hl:l.length=n)(hc:∀j u,(iR l)[j]? =μ u->w.cell? ⟨b,off+j,ν⟩=μ u):
 eZ e7 201 #[σ (μ ⟨b,off,ν⟩) n cap] w λe w'=>∃(v:dZ),e=ρ v/\Ig w w' v l:=by
 obtain⟨i0,hi,A,E,H⟩:=aX Vj;have hq:=LA;have T:eE w (w.alloc (γ #[] 5)):=gY _ _;have Q:Row (w.alloc (γ #[] 5)) 1 (σ (μ ⟨w.heap.size,0,ν⟩) 0 0) 0 [] :=Row.made w 1 _ #[] (0,0) 0 0 [] rfl rfl (Nat.le_refl _) eA (.inl rfl) gZ;have h:∀j u,(iR l)[j]? =μ u->(w.alloc (γ #[] 5)).cell? ((⟨b,off,ν⟩:Addr).add j)=μ u:=λj u S=>by
  rw[ni];have X:=hc j u S;exact(aj (a:=⟨b,off+j,ν⟩) (T.block b (ag _ _ X))).trans X
 have Y:(iR l).length=n*1:=by rw[qV,hl,Nat.mul_one]
 go_in
 go_wp2_with(at_builtin;go_must(refine iI _ rfl (.tmp 5) (.tmp 6) 140 rfl 5 i0 (.int .u8 0) 1 1 underlying140 hi A E H rfl eA (σ (μ ⟨w.heap.size,0,ν⟩) 0 0) 0 [] rfl Q _ n cap (iR l) rfl Y qw h (Sb l) (by unfold maxLen;omega) eh ?_));intro g1 CQ w1 J U V;have M:=l9 T U (λj Z=>kH (Nat.le_refl _) Z);have G:=nW (B:=w.heap.size) V eh (λj Z=>kH (Nat.le_refl _) Z);clear U V
 go_wp2
 go_ret;refine⟨_,rfl,⟨?_,λj Z=>kH G Z,M⟩⟩;rw[hl];exact J
theorem Row.front {a:Option Addr} {cp:Nat} {l:List UInt8} (h:Row w 1 (σ a l.length cp) l.length (iR l))(k:Nat)(hk:k<=l.length):
 (convert 140 9 (σ a k cp)).run e7 w=.ok (.string ⟨(l.take k).toArray⟩) w:=by
 have V:(l.take k).length=k:=by rw[gQ];omega
 have Y:Row w 1 (σ a k cp) k (iR (l.take k)):=by
  refine⟨by rw[qV,V,Nat.mul_one],?_⟩;rcases h.2 with⟨e,e0⟩|⟨g,cap,e,Q,Y,U,T,S⟩
  ·obtain⟨rfl,_,rfl⟩:=bO e;exact .inl ⟨by rw[show k=0 by omega],eh⟩
  ·obtain⟨rfl,_,rfl⟩:=bO e;refine .inr ⟨g,cp,rfl,Q,eh,U,λj u Z=>T j u ?_,S⟩;have X:j<(iR (l.take k)).length:=(aK.1 Z).1;rw[qV,V]at X;unfold iR at Z⊢;rw[cE,List.getElem?_take]at Z;rw[ai X]at Z;rw[cE];exact Z
 exact Row.back Y 140 9 5 underlying140 underlying5 underlying9
theorem Sc(g o d:Nat)(c:qF)(ov:Nat->dZ)(many:Int)(w:dY)(hd:d<2)(hC:qz w g o 7 (C8 c ov))(hR:Row w 1 (ov d) (c.on d).length (iR (c.on d)))(hg:(ov d).ownBlock≠μ g)(hl:(c.on d).length<=2000):
 eZ e7 158 #[π (μ ⟨g,o,ν⟩),ι κ (d:Int),ι κ many] w λe w'=>e=ρ (.string ⟨((c.on d).take (min many.toNat (c.on d).length)).toArray⟩)/\∃v',TF w w' g o d {c with on:=jW c.on d ((c.on d).drop (min many.toNat (c.on d).length))} ov v':=by
 have Q:w.cell? ⟨g,o+5+d,ν⟩=μ (ov d):=by rw[Nat.add_assoc,hC.cell (5+d) eh,VF c ov d hd]
 have f5:w.frozen? ⟨g,o+5+d,ν⟩=false:=by rw[Nat.add_assoc];exact hC.fz (5+d) eh
 have gl:=hC.lt eA;have kh:(d:Int)<2:=eh;have hd0:(0:Int)<=(d:Int):=eh;have HC:Hid _:=hC;have HG:Hid _:=hg;obtain⟨k,hk⟩:=gq (min many.toNat (c.on d).length);obtain⟨a,cp,hv⟩:=Row.shape hR;have Xz:k<=(c.on d).length:=eh;have J:max (0:Int) (min many ((c.on d).length:Nat))=(k:Int):=eh;have KI:=hR;rw[hv]at KI Q;have wj:=Row.front KI k Xz;have U:((c.on d).drop k).length=(c.on d).length-k:=dI;rw[hk];have HV:Hid _:=hv;have HR:Hid _:=KI;obtain⟨l,A⟩:=gq (c.on d);rw[A]at J wj Xz hl U Q HR⊢;have HL:Hid _:=A;obtain⟨n,hn⟩:=gq (l.length);have HN:Hid _:=hn;rw[hn]at J Xz hl U Q;clear hC hR hg hv A KI hn;have kj:∀(W w1:dY) (v1:dZ) (L:List UInt8),eE w W->Ig W w1 v1 L->∃S T,v1=σ S L.length T/\w1.cell? ⟨g,o+5+d,ν⟩=w.cell? ⟨g,o+5+d,ν⟩/\w1.frozen? ⟨g,o+5+d,ν⟩=false/\g<w1.heap.size:=by
  intro W w1 v1 L hb hf;obtain⟨S,T,e⟩:=Row.shape hf.row;have b2:=gu hb hf.below;exact⟨S,T,e,aj (a:=⟨g,o+5+d,ν⟩) (b2.block g gl),(aL (a:=⟨g,o+5+d,ν⟩) (b2.block g gl)).trans f5,Nat.lt_of_lt_of_le gl b2.size⟩
 have G:Hid _:=kj;have Pu:∀(W w1:dY) (v1:dZ) (L:List UInt8),L=l.drop k->eE w W->Ig W w1 v1 L->TF w (w1.setCell ⟨g,o+5+d,ν⟩ v1) g o d {c with on:=jW c.on d (l.drop k)} ov v1:=by
  intro W w1 v1 L hL hb hf;have b2:=gu hb hf.below;refine TF.turn hd HC.out HG.out v1 (jW c.on d (l.drop k)) b2.os b2.tape b2.output b2.size (λx hx _=>b2.block x hx) ?_ (λx hx=>.inr (Nat.le_trans hb.size (hf.own x hx)));rw[iF,<-hL];exact hf.row
 have X:Hid _:=Pu;clear kj Pu;rcases HR.out.2 with⟨e,E⟩|⟨H,cap2,e,KF,ui,Gi,hcell,CO⟩
 ·obtain⟨rfl,_,rfl⟩:=bO e;have Ve:n=0:=by have:=HN.out;omega
  subst Ve;obtain rfl:k=0:=eh;have Z:=Ok w.drew;have vY:l=[] :=aH HN.out;have hld:([] :List UInt8)=l.drop 0:=by rw[vY];rfl
  have zj:gS 0 l=[] :=rfl;rw[zj]at wj⊢;have HLD:Hid _:=hld;clear e E J hld hk;by_cases hm:many<=0
  ·go_in
   go_wp2
   go_region_with(first|(go_at_call 201;refine Z.mono ?_;rintro e w1 ⟨v1,rfl,hf⟩;have V:Hid _:=X.out _ _ _ _ HLD.out (jb w) hf;obtain⟨S,T,rfl,Y,z5,h⟩:=G.out _ _ _ _ (jb w) hf;rw[Q]at Y))
   all_goals
    clear Z hf Y z5
    go_wp2
    go_ret;exact⟨rfl,_,V.out⟩
  ·have vX:(0:Int)<=many:=eh
   go_in
   go_wp2
   go_region_with(first|(go_at_call 201;refine Z.mono ?_;rintro e w1 ⟨v1,rfl,hf⟩;have V:Hid _:=X.out _ _ _ _ HLD.out (jb w) hf;obtain⟨S,T,rfl,Y,z5,h⟩:=G.out _ _ _ _ (jb w) hf;rw[Q]at Y))
   all_goals
    clear Z hf Y z5
    go_wp2
    go_ret;exact⟨rfl,_,V.out⟩
 ·obtain⟨rfl,_,rfl⟩:=bO e;have hkc:(k:Int)<=(cp:Int):=by have:=HN.out;omega
  have aqJ:(n:Int)<=(cp:Int):=by have:=HN.out;omega
  have Hr:(0:Int)<=(k:Int):=eh;have AY:(k:Int)<=(n:Int):=eh;have Z:eZ e7 201 #[σ (if cp=k then μ ⟨H,0,ν⟩else μ ⟨H,k,ν⟩) (n-k) (cp-k)] w.drew λe w'=>∃(v:dZ),e=ρ v/\Ig w.drew w' v (l.drop k):=by
   by_cases hz:k=n
   ·have e1:n-k=0:=eh;have e2:l.drop k=[] :=a8 (by have:=HN.out;omega);rw[e1,e2];by_cases sK:cp=k
    ·rw[ai sK];exact Co _ _ _
    ·rw[af sK];exact Co _ _ _
   ·rw[af eh];refine LB H k (n-k) (cp-k) (l.drop k) w.drew eh eh U (λj u hu=> ?_);refine hcell (k+j) u ?_;unfold iR at hu⊢;rw[cE,dq]at hu;rw[cE];exact hu
  clear e ui Gi hcell CO hk;by_cases hm:many<=0
  ·obtain rfl:k=0:=eh;have zj:gS 0 l=[] :=rfl;rw[zj]at wj⊢;have E:(if cp=0 then μ (⟨H,0,ν⟩:Addr)else μ ⟨H,0,ν⟩)=μ ⟨H,0,ν⟩:=by split<;>rfl
   rw[Nat.sub_zero,Nat.sub_zero,E]at Z;clear J hkc Hr AY E
   go_in
   go_wp2
   go_region_with(first|(go_at_call 201;refine Z.mono ?_;rintro e w1 ⟨v1,rfl,hf⟩;have V:Hid _:=X.out _ _ _ _ rfl (jb w) hf;obtain⟨S,T,rfl,Y,z5,h⟩:=G.out _ _ _ _ (jb w) hf;rw[Q]at Y))
   all_goals
    clear Z hf Y z5
    go_wp2
    go_ret;exact⟨rfl,_,V.out⟩
  ·by_cases Ve:n=0
   ·subst Ve;obtain rfl:k=0:=eh;have zj:gS 0 l=[] :=rfl;rw[zj]at wj⊢;have E:(if cp=0 then μ (⟨H,0,ν⟩:Addr)else μ ⟨H,0,ν⟩)=μ ⟨H,0,ν⟩:=by split<;>rfl
    rw[Nat.sub_zero,Nat.sub_zero,E]at Z;have vX:(0:Int)<=many:=eh;clear J hkc Hr AY E
    go_in
    go_wp2
    go_region_with(first|(go_at_call 201;refine Z.mono ?_;rintro e w1 ⟨v1,rfl,hf⟩;have V:Hid _:=X.out _ _ _ _ rfl (jb w) hf;obtain⟨S,T,rfl,Y,z5,h⟩:=G.out _ _ _ _ (jb w) hf;rw[Q]at Y))
    all_goals
     clear Z hf Y z5
     go_wp2
     go_ret;exact⟨rfl,_,V.out⟩
   by_cases sK:cp=k
   ·have zn:k=n:=eh;subst zn;rw[ai sK,Nat.sub_self]at Z;subst sK;rw[Nat.sub_self]at Z;have hp0:¬(cp:Int)<=0:=eh;by_cases hmn:many<=(cp:Int)
    ·obtain rfl:many=(cp:Int):=eh;clear J
     go_in
     go_wp2
     go_region_with(first|(go_at_call 201;refine Z.mono ?_;rintro e w1 ⟨v1,rfl,hf⟩;have V:Hid _:=X.out _ _ _ _ rfl (jb w) hf;obtain⟨S,T,rfl,Y,z5,h⟩:=G.out _ _ _ _ (jb w) hf;rw[Q]at Y))
     all_goals
      clear Z hf Y z5
      go_wp2
      go_ret;have M:=V.out
     simp only[U,Nat.sub_self]at M;exact⟨rfl,_,M⟩
    ·clear J
     go_in
     go_wp2
     go_region_with(first|(go_at_call 201;refine Z.mono ?_;rintro e w1 ⟨v1,rfl,hf⟩;have V:Hid _:=X.out _ _ _ _ rfl (jb w) hf;obtain⟨S,T,rfl,Y,z5,h⟩:=G.out _ _ _ _ (jb w) hf;rw[Q]at Y))
     all_goals
      clear Z hf Y z5
      go_wp2
      go_ret;have M:=V.out
     simp only[U,Nat.sub_self]at M;exact⟨rfl,_,M⟩
   ·rw[af sK]at Z;have hp0:¬(n:Int)<=0:=eh;by_cases hmn:many<=(n:Int)
    ·obtain rfl:many=(k:Int):=eh;clear J
     go_in
     go_wp2
     go_region_with(first|(go_at_call 201;refine Z.mono ?_;rintro e w1 ⟨v1,rfl,hf⟩;have V:Hid _:=X.out _ _ _ _ rfl (jb w) hf;obtain⟨S,T,rfl,Y,z5,h⟩:=G.out _ _ _ _ (jb w) hf;rw[Q]at Y))
     all_goals
      clear Z hf Y z5
      go_wp2
      go_ret;have M:=V.out
     simp only[U]at M;exact⟨rfl,_,M⟩
    ·obtain rfl:k=n:=eh;rw[Nat.sub_self]at Z;clear J
     go_in
     go_wp2
     go_region_with(first|(go_at_call 201;refine Z.mono ?_;rintro e w1 ⟨v1,rfl,hf⟩;have V:Hid _:=X.out _ _ _ _ rfl (jb w) hf;obtain⟨S,T,rfl,Y,z5,h⟩:=G.out _ _ _ _ (jb w) hf;rw[Q]at Y))
     all_goals
      clear Z hf Y z5
      go_wp2
      go_ret;have M:=V.out
     simp only[U,Nat.sub_self]at M;exact⟨rfl,_,M⟩
def j7(r r':iO)(i:Nat):Prop:=∀p,p≠i->Idle (r.P p)->Idle (r'.P p)
theorem j7.refl(r:iO)(i:Nat):j7 r r i:=λ_ _ h=>h
theorem j7.trans {a b c:iO} (h:j7 a b i)(g:j7 b c i):j7 a c i:=λp Z hi=>g p Z (h p Z hi)
theorem j7.iU(r:iO)(i:Nat)(q:jy):j7 r (r.iU i q) i:=λp Z h=>by
 show Idle (ll r.P i q p);rw[ju _ _ Z];exact h
theorem j7.xV {r':iO} (h:r'.P=r.P)(i:Nat):j7 r r' i:=λp _ hi=>by rw[h];exact hi
theorem j7.meet(r:iO)(i:Nat)(q:lr):j7 r (r.meet i q) i:=λp Z h=>by
 rw[(mZ r i q).2.2.2,ju _ _ Z];exact h
theorem Ih(t:zi)(h:Idle (r.P p)):Idle ((r.send t).P p):=by
 unfold iO.send;split
 ·exact h
 ·split
  ·exact h
  ·rename_i b hb
   show Idle (ll r.P b _ p);by_cases e:p=b
   ·subst e;exfalso;split at hb
    ·cases Z:A3 (la r) t.1 with
     |none=>rw[Z]at hb;simp at hb
     |some x=>
      rw[Z]at hb;have Y:jR r.P x.rM r.n=μ p:=hb;have:=(oE Y).2.1;rw[h.pe]at this;exact absurd this eA
    ·simp at hb
   ·rw[ju _ _ e];exact h
theorem j7.send(r:iO)(t:zi)(i:Nat):j7 r (r.send t) i:=λ_ _ h=>Ih t h
theorem j7.state(r:iO)(i:Nat)(l:List UInt8):j7 r (jm r i l) i:=by
 unfold jm;simp only;split
 ·exact j7.refl r i
 ·split
  ·exact j7.xV (oJ _ _).2.2.2 i
  ·split
   ·exact(j7.xV rfl i).trans (j7.iU _ _ _)
   ·exact j7.xV rfl i
theorem j7.take(r:iO)(i:Nat)(c:UInt8)(s:List UInt8):j7 r (r.take i c s) i:=by
 rw[lP];have Z:j7 r (j4 r i c s) i:=by
  unfold j4;split
  ·exact j7.iU _ _ _
  ·exact j7.refl _ _
 split
 ·exact Z.trans (j7.meet _ _ _)
 ·refine Z.trans ?_;unfold mF;split
  ·split
   ·exact j7.meet _ _ _
   ·exact j7.refl _ _
  ·split
   ·exact j7.state _ _ _
   ·split
    ·unfold kF;simp only;split<;>exact j7.xV rfl i
    ·split
     ·unfold rC;split
      ·exact j7.send _ _ _
      ·exact j7.refl _ _
     ·exact j7.refl _ _
theorem j7.takes:∀(l:List (List UInt8)) (r:iO) (i:Nat),j7 r (r.takes i l) i
 |[],r,i=>j7.refl r i
 |t::l,r,i=>by
  show j7 r ((match t with|[] =>r|c::s=>r.take i c s).takes i l) i;refine j7.trans ?_ (j7.takes l _ i);cases t with
  |nil=>exact j7.refl _ _
  |cons c s=>exact j7.take r i c s
theorem j7.recv(r:iO)(i:Nat)(l:List UInt8):j7 r (r.recv i l) i:=by
 unfold iO.recv;simp only;exact(j7.iU r i _).trans (j7.takes _ _ i)
theorem j7.iL(r:iO)(i:Nat)(up:Bool):j7 r (r.iL i up).1 i:=by
 unfold iO.iL;simp only;split
 ·exact j7.refl r i
 ·exact(j7.iU r i _).trans (j7.meet _ _ _)
theorem LC {p:jy} (h:Idle p):p.tick=p:=by
 have X:je p.L=(p.L,[]):=by
  have Z:kt p.L=p.L:=by unfold kt;simp[h.st]
  have Y:lT p.L=[] :=by unfold lT;simp[h.st]
  unfold je;rw[Z,Y];simp[h.st]
 unfold jy.tick;rw[X];rfl
theorem Ol(i:Nat)(h:Idle (r.P p)):Idle ((r.iY i).P p):=by
 rw[ld];by_cases e:p=i
 ·subst e;have Z:(jd r p).P p=r.P p:=by
   show ll r.P p (r.P p).tick p=_;rw[jB,LC h]
  rw[Z,ai (by rw[h.st];decide),(mZ _ _ _).2.2.2,jB,Z];exact⟨h.st,rfl,h.out⟩
 ·have Z:Idle ((jd r i).P p):=by
   show Idle (ll r.P i _ p);rw[ju _ _ e];exact h
  split
  ·exact j7.meet _ _ _ p e Z
  ·exact j7.iU _ i _ p e (j7.meet _ _ _ p e Z)
theorem E5 {r:iO} {p:Nat} (h:Idle (r.P p)):∀q,Idle ((r.jc q).P p)
 |0=>h
 |q+1=>Ol q (E5 h q)
theorem LD(t:Int)(tx:List UInt8)(h:Idle (r.P p)):Idle ((kg r t tx).1.P p):=by
 unfold Rt.kg;split
 ·exact h
 ·show Idle ((r.send (t,8,tx)).P p);exact Ih (t,8,tx) h
structure j5(y:iP)(D k:Nat):Prop where
 n1:1<=y.n
 n6:y.n<=6
 c9:y.nc<=9
 en:∀c d,c<y.nc->d<2->((y.C c).e d).1<y.n/\((y.C c).e d).2<3
 ds:∀c d c' d',c<y.nc->d<2->c'<y.nc->d'<2->(y.C c).e d=(y.C c').e d'->c=c'/\d=d'
 ms:∀i p,i<y.n->p<3->1<=y.ms i p/\y.ms i p<=20
 rn:∀i,i<y.n->(y.R i).n=3/\(y.R i).id=(i:Int)+1
 ok:∀i,i<y.n->lD (y.R i)
 drop:∀i,i<y.n->0<=(y.R i).drop/\(y.R i).drop<=D
 ol:∀c d,c<y.nc->d<2->((y.C c).on d).length<=2000
 ib:∀i,i<y.n->(y.kd i).length<=D
 idle:∀i p,i<y.n->p<3->(∀c d,c<y.nc->d<2->(y.C c).e d≠(i,p))->Idle ((y.R i).P p)
 fit:∀i,i<y.n->(y.R i).kd.length<=k/\∀p,p<3->((y.R i).P p).out.length<=6000*k
theorem j5.mono {y:iP} {D':Nat} (h:j5 y D k)(hD:D<=D')(hk:k<=k'):j5 y D' k':=
 ⟨h.n1,h.n6,h.c9,h.en,h.ds,h.ms,h.rn,h.ok,λi hi=>by have:=h.drop i hi;omega,h.ol,λi hi=>by have:=h.ib i hi;omega,h.idle,λi hi=>⟨by have:=(h.fit i hi).1;omega,λp Z=>by have:=(h.fit i hi).2 p Z;omega⟩⟩
theorem j5.fits {y:iP} (h:j5 y D k)(hD:D<=1000000000000000)(hi:i<y.n):Fit (y.R i) k:=
 ⟨(h.fit i hi).1,by have:=h.drop i hi;omega,λp Z=>(h.fit i hi).2 p (by rw[(h.rn i hi).1]at Z;exact Z)⟩
theorem j5.jA {y:iP} {D k:Nat} (h:j5 y D k) {i:Nat} (hi:i<y.n) {r:iO} {D' k':Nat} (U:D<=D')(hk:k<=k')(V:r.n=3/\r.id=(i:Int)+1)(T:lD r)(hd:0<=r.drop/\r.drop<=D')(hf:Fit r k')
 (S:∀p,p<3->(∀c d,c<y.nc->d<2->(y.C c).e d≠(i,p))->Idle (r.P p)):j5 (y.jA i r) D' k':=by
 have X:∀j,(y.jA i r).R j=if j=i then r else y.R j:=λj=>rfl
 refine⟨h.n1,h.n6,h.c9,h.en,h.ds,h.ms,λj Z=> ?_,λj Z=> ?_,λj Z=> ?_,h.ol,λj Z=>Nat.le_trans (h.ib j Z) U,λj p Z Y hc=> ?_,λj Z=> ?_⟩
 ·rw[X];by_cases e:j=i
  ·rw[ai e];subst e;exact V
  ·rw[af e];exact h.rn j Z
 ·rw[X];by_cases e:j=i
  ·rw[ai e];exact T
  ·rw[af e];exact h.ok j Z
 ·rw[X];by_cases e:j=i
  ·rw[ai e];exact hd
  ·rw[af e];have:=h.drop j Z;omega
 ·rw[X];by_cases e:j=i
  ·rw[ai e];subst e;exact S p Y hc
  ·rw[af e];exact h.idle j p Z Y hc
 ·rw[X];by_cases e:j=i
  ·rw[ai e];exact⟨hf.kd,λp Y=>hf.out p (by rw[V.1];exact Y)⟩
  ·rw[af e];exact⟨by have:=(h.fit j Z).1;omega,λp Y=>by have:=(h.fit j Z).2 p Y;omega⟩
theorem j5.call {y:iP} (h:j5 y D k)(hi:i<y.n)(V:k<=k')(Z:jK (y.R i) r g)(U:lD r)(hf:Fit r k')
 (T:∀p,p<3->(∀c d,c<y.nc->d<2->(y.C c).e d≠(i,p))->Idle ((y.R i).P p)->Idle (r.P p)):j5 (y.jA i r) (D+g) k':=by
 have Y:=h.rn i hi;have h2:=h.drop i hi;have h3:=Z.lo;have h4:=Z.hi;exact h.jA hi eh V ⟨Z.n.trans Y.1,Z.id.trans Y.2⟩ U eh hf (λp X hc=>T p X hc (h.idle i p hi X hc))
theorem j5.lz {y:iP} {D k:Nat} (h:j5 y D k) {c:Nat} {cb:qF} (Y:c<y.nc->cb.e=(y.C c).e)(hl:c<y.nc->∀d,d<2->(cb.on d).length<=2000):j5 (y.lz c cb) D k:=by
 have hC:∀x,x<y.nc->((y.lz c cb).C x).e=(y.C x).e:=λx hx=>by
  show(if x=c then cb else y.C x).e=_;by_cases e:x=c
  ·rw[ai e];subst e;exact Y hx
  ·rw[af e]
 refine⟨h.n1,h.n6,h.c9,λx d hx hd=>by rw[hC x hx];exact h.en x d hx hd,λx d x' d' hx hd Z V e=>by rw[hC x hx,hC x' Z]at e;exact h.ds x d x' d' hx hd Z V e,h.ms,h.rn,h.ok,h.drop,λx d hx hd=> ?_,h.ib,λi p hi X hc=>h.idle i p hi X (λx d hx hd=>by have:=hc x d hx hd;rwa [hC x hx]at this),h.fit⟩;show((if x=c then cb else y.C x).on d).length<=_;by_cases e:x=c
 ·rw[ai e];subst e;exact hl hx d hd
 ·rw[af e];exact h.ol x d hx hd
theorem j5.jd {y:iP} (h:j5 y D k)(Y:D<=1000000000000000)(hi:i<y.n):j5 (y.jA i (y.R i).tick) D (k+6):=by
 have Z:=Bp (h.ok i hi) (h.fits Y hi) (y.R i).n (Nat.le_refl _);rw[(h.rn i hi).1]at Z;have e:(y.R i).tick=(y.R i).jc 3:=by unfold iO.tick;rw[(h.rn i hi).1]
 rw[e];exact h.call hi eh (jK.jc _ 3) Z.2.1 Z.2.2 (λp _ _ X=>E5 X 3)
theorem j5.agx {y:iP} (h:j5 y D k)(X:D<=1000000000000000)(hc:c<y.nc)(hd:d<2)(l:List UInt8)(hl:l.length<=2000):j5 (y.jA ((y.C c).e d).1 ((y.R ((y.C c).e d).1).recv ((y.C c).e d).2 l)) (D+2000) (k+4000):=by
 obtain⟨hi,Y⟩:=h.en c d hc hd;have Z:=VU (h.ok _ hi) (h.fits X hi) ((y.C c).e d).2 l;exact h.call hi eh ((jK.recv _ _ l).mono hl) Z.1 (Z.2.mono eh) (λp _ V Y=>j7.recv _ _ l p (λe=>V c d hc hd (by rw[e])) Y)
theorem j5.VY {y:iP} (h:j5 y D k)(X:D<=1000000000000000)(hc:c<y.nc)(hd:d<2)(up:Bool):j5 (y.lI c d up) D (k+1):=by
 obtain⟨hi,Y⟩:=h.en c d hc hd;have Z:=VW (h.ok _ hi) (h.fits X hi) ((y.C c).e d).2 up;exact h.call hi eh (jK.iL _ _ up) Z.1 Z.2 (λp _ V Y=>j7.iL _ _ up p (λe=>V c d hc hd (by rw[e])) Y)
theorem j5.VZ {y:iP} (h:j5 y D k)(Y:D<=1000000000000000)(hi:i<y.n)(t:Int)(tx:List UInt8):j5 (y.jA i (kg (y.R i) t tx).1) (D+1) (k+1):=by
 have Z:=Oj (h.ok i hi) (h.fits Y hi) t tx;exact h.call hi eh (jK.kg _ t tx) Z.1 Z.2 (λp _ _ X=>LD t tx X)
theorem zW(Z:1<=id/\id<=6)(U:∀i,i<3->1<=m i/\m i<=20):lD (jO id 3 m):=by
 refine⟨Z,U,λi _=>ot.nobody Z.1,⟨(1,[]),?_,?_⟩,λx hx=> ?_⟩
 ·show(if id=id then μ ((1,[]):PS)else ν)=_;rw[ai rfl]
 ·show oD id 1 [] =0;unfold oD;have X:¬id<1:=eh;have V:¬6<id:=eh;simp[X,V,qy]
 ·have Y:(if x=id then μ ((1,[]):PS)else ν).isSome=true:=hx;by_cases e:x=id
  ·omega
  ·rw[af e]at Y;simp at Y
theorem Sd(k:Nat):Fit (jO id 3 m) k:=⟨Nat.zero_le _,⟨Int.le_refl _,by show(0:Int)<=_;omega⟩,λ_ _=>Nat.zero_le _⟩
theorem qQ(id:Int)(m:Nat->Int)(p:Nat):Idle ((jO id 3 m).P p):=⟨rfl,rfl,rfl⟩
theorem j5.kU {y:iP} {D k:Nat} (h:j5 y D k)(T:D<=1000000000000000) {c d:Nat} (hc:c<y.nc)(hd:d<2):j5 (y.kU c d) D k:=by
 obtain⟨hi,X⟩:=h.en c d hc hd;unfold iP.kU;have hf:=h.fits T hi;have Y:=h.ok _ hi;have U:j5 (y.jA ((y.C c).e d).1 ((y.R ((y.C c).e d).1).out ((y.C c).e d).2)) D k:=by
  refine h.jA hi (Nat.le_refl _) (Nat.le_refl _) (h.rn _ hi) (Y.iU _ _ rfl (λhi=>Y.pe _ hi)) (h.drop _ hi) (hf.iU _ _ (λ_=>Nat.zero_le _)) (λp X Z=> ?_);exact j7.iU _ _ _ p (λe=>Z c d hc hd (by rw[e])) (h.idle _ p hi X Z)
 refine U.lz (λ_=> ?_) (λ_ d' V=> ?_)
 ·unfold qF.put;split<;>rfl
 ·unfold qF.put;split
  ·rename_i hx
   show(jW (y.C c).on d _ d').length<=2000;by_cases e:d'=d
   ·subst e;rw[iF,az];exact hx.2
   ·rw[iE _ _ e];exact h.ol c d' hc V
  ·exact h.ol c d' hc V
theorem m7(y:iP)(c d:Nat):(y.kU c d).n=y.n/\(y.kU c d).nc=y.nc/\(y.kU c d).ms=y.ms/\(y.kU c d).kd=y.kd/\∀x,((y.kU c d).C x).e=(y.C x).e/\((y.kU c d).C x).iT=(y.C x).iT:=by
 refine⟨rfl,rfl,rfl,rfl,λx=> ?_⟩;show(if x=c then(y.C c).put d _ else y.C x).e=_/\(if x=c then(y.C c).put d _ else y.C x).iT=_;by_cases e:x=c
 ·rw[ai e];subst e;unfold qF.put;split<;>exact⟨rfl,rfl⟩
 ·rw[af e];exact⟨rfl,rfl⟩
theorem j6(y:iP):∀k,(y.j2 k).n=y.n/\(y.j2 k).nc=y.nc/\(y.j2 k).ms=y.ms/\(y.j2 k).kd=y.kd/\∀x,((y.j2 k).C x).e=(y.C x).e/\((y.j2 k).C x).iT=(y.C x).iT
 |0=>⟨rfl,rfl,rfl,rfl,λ_=>⟨rfl,rfl⟩⟩
 |k+1=>by
  obtain⟨X,V,U,T,Z⟩:=j6 y k;obtain⟨b1,b2,b3,b4,b5⟩:=m7 (y.j2 k) k 0;obtain⟨c1,c2,c3,c4,Y⟩:=m7 ((y.j2 k).kU k 0) k 1;exact⟨c1.trans (b1.trans X),c2.trans (b2.trans V),c3.trans (b3.trans U),c4.trans (b4.trans T),λx=>⟨(Y x).1.trans ((b5 x).1.trans (Z x).1),(Y x).2.trans ((b5 x).2.trans (Z x).2)⟩⟩
theorem j5.j2 {y:iP} {D k:Nat} (h:j5 y D k)(Z:D<=1000000000000000):∀q,q<=y.nc->j5 (y.j2 q) D k
 |0,_=>h
 |q+1,hq=>by
  have X:=j5.j2 h Z q eh;have Y:(y.j2 q).nc=y.nc:=(j6 y q).2.1;have V:=X.kU Z (c:=q) (d:=0) (by rw[Y];omega) eh;exact V.kU Z (c:=q) (d:=1) (by show q<(y.j2 q).nc;rw[Y];omega) eh
theorem Br(y:iP)(c d i p:Nat):((y.kU c d).R i).P p=if(y.C c).e d=(i,p)then {(y.R i).P p with out:=[] }else(y.R i).P p:=by
 show((jW y.R ((y.C c).e d).1 ((y.R ((y.C c).e d).1).out ((y.C c).e d).2)) i).P p=_;by_cases e:i=((y.C c).e d).1
 ·rw[e,iF];show ll _ ((y.C c).e d).2 _ p=_;by_cases Z:p=((y.C c).e d).2
  ·rw[Z,jB,ai rfl]
  ·rw[ju _ _ Z,af (λh=>Z (by rw[h]))]
 ·rw[iE _ _ e,af (λh=>e (by rw[h]))]
theorem wP {y:iP} (c d i p:Nat)(h:(y.C c).e d=(i,p) \/((y.R i).P p).out=[]):(((y.kU c d).R i).P p).out=[] :=by
 rw[Br];rcases h with h|h
 ·rw[ai h]
 ·split
  ·rfl
  ·exact h
theorem E6 {y:iP} (i p:Nat):∀q,((y.R i).P p).out=[] \/(∃c d,c<q/\d<2/\(y.C c).e d=(i,p))->(((y.j2 q).R i).P p).out=[]
 |0,h=>by
  rcases h with h|⟨c,_,hc,_⟩
  ·exact h
  ·omega
 |q+1,h=>by
  have hs:=j6 y q;have U:=m7 (y.j2 q) q 0;by_cases Z:((y.R i).P p).out=[] \/(∃c d,c<q/\d<2/\(y.C c).e d=(i,p))
  ·have ih:=E6 i p q Z;exact wP _ _ _ _ (.inr (wP _ _ _ _ (.inr ih)))
  ·rcases h with h|⟨c,d,hc,hd,X⟩
   ·exact absurd (.inl h) Z
   ·have Y:c=q:=by
     rcases Nat.lt_or_ge c q with V|V
     ·exact absurd (.inr ⟨c,d,V,hd,X⟩) Z
     ·omega
    subst Y;have T:d=0 \/d=1:=eh;rcases T with rfl|rfl
    ·exact wP _ _ _ _ (.inr (wP _ _ _ _ (.inl ((hs.2.2.2.2 c).1▸X))))
    ·refine wP _ _ _ _ (.inl ?_);rw[(U.2.2.2.2 c).1,(hs.2.2.2.2 c).1];exact X
theorem j5.outs {y:iP} (h:j5 y D k)(hi:i<y.n)(Z:p<3):(((y.j2 y.nc).R i).P p).out=[] :=by
 by_cases hx:∃c d,c<y.nc/\d<2/\(y.C c).e d=(i,p)
 ·exact E6 i p _ (.inr hx)
 ·exact E6 i p _ (.inl (h.idle i p hi Z (λc d hc hd e=>hx ⟨c,d,hc,hd,e⟩)).out)
theorem n9(y:iP):∀k,(y.lO k).n=y.n/\(y.lO k).nc=y.nc/\(y.lO k).ms=y.ms/\(y.lO k).C=y.C
 |0=>⟨rfl,rfl,rfl,rfl⟩
 |k+1=>n9 y k
theorem wQ(y:iP)(i:Nat):∀k,(y.lO k).R i=(if i<k then {y.R i with kd:=[] }else y.R i)/\(y.lO k).kd i=if i<k then y.kd i++(y.R i).kd else y.kd i
 |0=>by simp[iP.lO]
 |k+1=>by
  obtain⟨X,V⟩:=wQ y i k;show jW (y.lO k).R k {(y.lO k).R k with kd:=[] } i=_/\jW (y.lO k).kd k ((y.lO k).kd k++((y.lO k).R k).kd) i=_;by_cases e:i=k
  ·subst e;rw[iF,iF,X,V,af (Nat.lt_irrefl i),af (Nat.lt_irrefl i),ai (Nat.lt_succ_self i),ai (Nat.lt_succ_self i)];exact⟨rfl,rfl⟩
  ·rw[iE _ _ e,iE _ _ e,X,V];by_cases Y:i<k
   ·have Z:i<k+1:=eh;rw[ai Y,ai Z,ai Y,ai Z];exact⟨rfl,rfl⟩
   ·have Z:¬i<k+1:=eh;rw[af Y,af Z,af Y,af Z];exact⟨rfl,rfl⟩
theorem j5.lO {y:iP} {D k:Nat} (h:j5 y D k)(q:Nat):j5 (y.lO q) (D+k) k:=by
 obtain⟨Z,V,M,U⟩:=n9 y q;have Y:∀i,((y.lO q).R i).n=(y.R i).n/\((y.lO q).R i).id=(y.R i).id/\((y.lO q).R i).P=(y.R i).P/\((y.lO q).R i).drop=(y.R i).drop/\((y.lO q).R i).K=(y.R i).K/\((y.lO q).R i).kd.length<=(y.R i).kd.length:=λi=>by
  rw[(wQ y i q).1];split
  ·exact⟨rfl,rfl,rfl,rfl,rfl,Nat.zero_le _⟩
  ·exact⟨rfl,rfl,rfl,rfl,rfl,Nat.le_refl _⟩
 refine⟨by rw[Z];exact h.n1,by rw[Z];exact h.n6,by rw[V];exact h.c9,λc d hc hd=> ?_,λc d c' d' hc hd Q H=> ?_,λi p hi S=> ?_,λi hi=> ?_,λi hi=> ?_,λi hi=> ?_,λc d hc hd=> ?_,λi hi=> ?_,λi p hi S J=> ?_,λi hi=> ?_⟩
 ·rw[U,Z];rw[V]at hc;exact h.en c d hc hd
 ·rw[U];rw[V]at hc Q;exact h.ds c d c' d' hc hd Q H
 ·rw[M];rw[Z]at hi;exact h.ms i p hi S
 ·rw[Z]at hi;rw[(Y i).1,(Y i).2.1];exact h.rn i hi
 ·rw[Z]at hi;have X:=h.ok i hi;rw[(wQ y i q).1];split
  ·exact⟨X.id,X.m,X.pe,X.own,X.PE⟩
  ·exact X
 ·rw[Z]at hi;rw[(Y i).2.2.2.1];have:=h.drop i hi;omega
 ·rw[U];rw[V]at hc;exact h.ol c d hc hd
 ·rw[Z]at hi;rw[(wQ y i q).2];have T:=h.ib i hi;have h2:=(h.fit i hi).1;split
  ·rw[az];omega
  ·omega
 ·rw[Z]at hi;rw[(Y i).2.2.1];exact h.idle i p hi S (λc d hc hd=>by have:=J c d (by rw[V];exact hc) hd;rwa [U]at this)
 ·rw[Z]at hi;have T:=h.fit i hi;rw[(Y i).2.2.1];exact⟨Nat.le_trans (Y i).2.2.2.2.2 T.1,T.2⟩
theorem j5.gather {y:iP} {D k:Nat} (h:j5 y D k)(U:D<=1000000000000000):j5 y.gather (D+k) 0:=by
 unfold iP.gather;obtain⟨s1,s2,s3,s4,s5⟩:=j6 y y.nc;have V:=h.j2 U y.nc (Nat.le_refl _);have Z:=V.lO y.n;obtain⟨X,e2,e3,e4⟩:=n9 (y.j2 y.nc) y.n;refine⟨Z.n1,Z.n6,Z.c9,Z.en,Z.ds,Z.ms,Z.rn,Z.ok,Z.drop,Z.ol,Z.ib,Z.idle,λi hi=> ?_⟩;have Y:i<y.n:=by rw[X,s1]at hi;exact hi
 rw[(wQ (y.j2 y.nc) i y.n).1,ai Y];refine⟨Nat.le_refl _,λp T=> ?_⟩;show(((y.j2 y.nc).R i).P p).out.length<=_;rw[h.outs Y T];exact Nat.zero_le _
theorem lV(y:iP):y.gather.n=y.n/\y.gather.nc=y.nc/\y.gather.ms=y.ms/\∀x,(y.gather.C x).e=(y.C x).e/\(y.gather.C x).iT=(y.C x).iT:=by
 unfold iP.gather;obtain⟨s1,U,T,s4,S⟩:=j6 y y.nc;obtain⟨Z,Y,X,V⟩:=n9 (y.j2 y.nc) y.n;exact⟨Z.trans s1,Y.trans U,X.trans T,λx=>by rw[V];exact S x⟩
theorem j5.jZ {y:iP} {D k:Nat} (h:j5 y D k)(Z:D<=1000000000000000) {c:Nat} (hc:c<y.nc)(up:Bool):j5 (y.jZ c up) D (k+2):=by
 unfold iP.jZ;have Y:j5 (y.lz c {y.C c with iT:=up,on:=λ_=>[] }) D k:=h.lz (λ_=>rfl) (λ_ _ _=>Nat.zero_le _);exact(Y.VY Z (c:=c) (d:=0) hc eh up).VY Z (c:=c) (d:=1) hc eh up
theorem pK(y:iP)(c:Nat)(up:Bool):(y.jZ c up).n=y.n/\(y.jZ c up).nc=y.nc/\(y.jZ c up).ms=y.ms/\(y.jZ c up).kd=y.kd/\∀x,((y.jZ c up).C x).e=(y.C x).e/\((y.jZ c up).C x).iT=if x=c then up else(y.C x).iT:=by
 refine⟨rfl,rfl,rfl,rfl,λx=> ?_⟩;show(if x=c then({y.C c with iT:=up,on:=λ_=>[] }:qF)else y.C x).e=_/\(if x=c then({y.C c with iT:=up,on:=λ_=>[] }:qF)else y.C x).iT=_;by_cases e:x=c
 ·rw[ai e,ai e];subst e;exact⟨rfl,rfl⟩
 ·rw[af e,af e];exact⟨rfl,rfl⟩
theorem j5.jD {D:Nat} (Z:D<=1000000000000000)(up:Bool):∀(l:List Nat) {y:iP} {k:Nat},j5 y D k->(∀c∈l,c<y.nc)->j5 (y.jD up l) D (k+2*l.length)
 |[],_,_,h,_=>h
 |c::l,y,k,h,hl=>by
  have Y:=h.jZ Z (hl c gZ) up;have:=j5.jD Z up l Y (λx hx=>hl x (by simp[hx]));exact this.mono (Nat.le_refl _) (by simp;omega)
theorem nt(up:Bool):∀(l:List Nat) (y:iP),(y.jD up l).n=y.n/\(y.jD up l).nc=y.nc/\(y.jD up l).ms=y.ms/\(y.jD up l).kd=y.kd/\∀x,((y.jD up l).C x).e=(y.C x).e
 |[],y=>⟨rfl,rfl,rfl,rfl,λ_=>rfl⟩
 |c::l,y=>by
  obtain⟨U,T,S,Q,M⟩:=nt up l (y.jZ c up);obtain⟨g1,Z,Y,X,V⟩:=pK y c up;exact⟨U.trans g1,T.trans Z,S.trans Y,Q.trans X,λx=>(M x).trans (V x).1⟩
theorem j5.iL {y:iP} {D:Nat} (h:j5 y D 0)(Z:D<=1000000000000000)(i:Int)(up:Bool):j5 (y.iL i up).1 (D+2) 0:=by
 unfold iP.iL;split
 ·exact h.mono eh (Nat.le_refl _)
 ·split
  ·exact h.mono eh (Nat.le_refl _)
  ·exact(h.jZ Z eh up).gather Z
theorem j5.tick {y:iP} {D:Nat} (h:j5 y D 0)(Z:D<=1000000000000000)(i:Int):j5 (y.tick i).1 (D+6) 0:=by
 unfold iP.tick;split
 ·exact h.mono eh (Nat.le_refl _)
 ·exact(h.jd Z eh).gather Z
theorem j5.jt {y:iP} {D k:Nat} (h:j5 y D k)(X:D<=1000000000000000) {c d q:Nat} (hc:c<y.nc)(hd:d<2):j5 (y.jt c d q) (D+2000) (k+4000):=by
 have hl:((y.C c).on d).length<=2000:=h.ol c d hc hd;unfold iP.jt;have Y:j5 (y.lz c {y.C c with on:=jW (y.C c).on d (((y.C c).on d).drop q)}) D k:=h.lz (λ_=>rfl) (λ_ d' V=>by
  show(jW (y.C c).on d _ d').length<=_;by_cases e:d'=d
  ·subst e;rw[iF,dI];omega
  ·rw[iE _ _ e];exact h.ol c d' hc V)
 have Z:=Y.agx X (c:=c) (d:=1-d) hc eh (((y.C c).on d).take q) (by rw[gQ];omega);have e:((y.lz c {y.C c with on:=jW (y.C c).on d (((y.C c).on d).drop q)}).C c).e=(y.C c).e:=by
  show(if c=c then _ else y.C c).e=_;rw[ai rfl]
 rw[e]at Z;exact Z
theorem j5.deliver {y:iP} {D:Nat} (h:j5 y D 0)(hD:D<=100000000000000)(i d many:Int):j5 (y.deliver i d many).1 (D+6000) 0:=by
 unfold iP.deliver;split
 ·exact h.mono eh (Nat.le_refl _)
 ·exact((h.jt eh eh eh).gather eh).mono eh (Nat.le_refl _)
theorem Bs {y:iP}:∀c∈y.lA k,c<y.nc:=λc hc=>by
 unfold iP.lA at hc;exact aP.1 (List.mem_filter.1 hc).1
theorem yW(y:iP)(k:Nat):(y.lA k).length<=y.nc:=by
 unfold iP.lA;have:=cK (λc=>(y.C c).iT&& (((y.C c).e 0).1==k||((y.C c).e 1).1==k)) (List.range y.nc);simpa using this
theorem j5.anew {y:iP} (h:j5 y D k)(i:Nat)(hi:i<y.n):j5 (y.jA i (jO ((i:Int)+1) 3 (y.ms i))) D k:=
 h.jA hi (Nat.le_refl _) (Nat.le_refl _) ⟨rfl,rfl⟩ (zW (by have:=h.n6;omega) (λp Z=>h.ms i p hi Z)) ⟨Int.le_refl _,by show(0:Int)<=_;omega⟩ (Sd k) (λp _ _=>qQ _ _ p)
theorem j5.restart {y:iP} {D:Nat} (h:j5 y D 0)(Z:D<=1000000000000000)(i:Int):j5 (y.restart i).1 (D+36) 0:=by
 unfold iP.restart;split
 ·exact h.mono eh (Nat.le_refl _)
 ·have hl:=yW y (i-1).toNat;have h9:=h.c9;have X:=j5.jD Z false (y.lA (i-1).toNat) h Bs;obtain⟨s1,U,T,s4,s5⟩:=nt false (y.lA (i-1).toNat) y;have Y:=X.anew (i-1).toNat (by rw[s1];omega);have e:(((i-1).toNat:Nat):Int)+1=i:=eh;rw[e,T]at Y;have V:=j5.jD Z true (y.lA (i-1).toNat) Y (λc hc=>by
   show c<(y.jD false (y.lA (i-1).toNat)).nc;rw[U];exact Bs c hc)
  exact(V.gather Z).mono eh (Nat.le_refl _)
theorem j5.send {y:iP} {D:Nat} (h:j5 y D 0)(hD:D<=100000000000000)(f t:Int)(tx:List UInt8):j5 (y.send f t tx).1 (D+2) 0:=by
 unfold iP.send;split
 ·exact h.mono eh (Nat.le_refl _)
 ·split
  ·exact h.mono eh (Nat.le_refl _)
  ·exact(h.VZ eh eh t tx).gather eh
theorem jJ.Cp {n:iP} (h:jJ w y n)(Y:y.all n.n k):k<w.heap.size:=by
 rcases Y with e|⟨j,Z,e⟩
 ·exact h.lt (.inl e)
 ·exact h.yQ Z e
theorem jJ.cbW {n:iP} {cb:qF} {v':dZ} (h:jJ w y n)(hc:c<n.nc)(hd:d<2)(T:y.gC=μ g)(Z:TF w w' g (c*7) d cb (y.ov c) v')(H:cb.e=(n.C c).e)(S:∀x,x≠d->cb.on x=(n.C c).on x)(hl:(cb.on d).length<=2000):iH w w' y (n.lz c cb) n.n:=by
 have Q:∀x,x<2->x≠d->∀k,(y.ov c x).ownBlock=μ k->v'.ownBlock≠μ k:=by
  intro x hx U k e e';rcases Z.own k e' with Y|Y
  ·have:=h.inj (.on c x) (.on c d) k e Y;injection this with _ X
   exact U X
  ·have:=h.vE (l:=.on c x) e;omega
 refine h.PR hc T cb (jW (y.ov c) d v') Z.size Z.os Z.tape Z.output (λk V J X=>Z.block k V J (X d hd)) Z.cell Z.fz Z.xC (λx hx=> ?_) (λx hx=> ?_) H (λx k hx e=> ?_) (λk e=> ?_)
 ·by_cases e:x=d
  ·subst e;rw[iF];exact Z.row
  ·rw[iE _ _ e,S x e];refine(h.ob c x hc hx).keep Z.size (λk V=>Z.block k ((h.ob c x hc hx).lt k V) (λY=> ?_) (λY=> ?_))
   ·exact h.wL (l:=.on c x) (l':=.C) V T (by intro e;cases e) Y
   ·have:=h.inj (.on c x) (.on c d) k V Y;injection this with _ X
    exact e X
 ·by_cases e:x=d
  ·subst e;exact hl
  ·rw[S x e];exact h.ol c x hc hx
 ·by_cases ex:x=d
  ·subst ex;rw[iF]at e;exact Z.own k e
  ·rw[iE _ _ ex]at e;exact .inl e
 ·have M:d=0 \/d=1:=eh;rcases M with rfl|rfl
  ·rw[iF]at e;rw[iE _ _ eA];exact λY=>Q 1 eh eA k Y e
  ·rw[iE _ _ eA]at e;rw[iF];exact Q 0 eh eA k e
theorem jJ.agy {n:iP} (h:jJ w y n)(Z:y.gC=μ g):(y.ov c d).ownBlock≠μ g:=λe=>h.wL (l:=.on c d) (l':=.C) e Z (by intro e;cases e) rfl
theorem V5(y:Yt)(n:iP)(c d g:Nat)(s:ByteArray)(w:dY)(h:jJ w y n)(hc:c<n.nc)(hd:d<2)(Z:y.gC=μ g)(hs:s.size<=1000000000):
 eZ e7 161 #[π (μ ⟨g,c*7,ν⟩),ι κ (d:Int),.string s] w λe w'=>e=ρ (τ #[])/\iH w w' y (n.lz c ((n.C c).put d s.data.toList)) n.n:=by
 refine(VG g (c*7) d (n.C c) (y.ov c) s w hd (h.rc g Z c hc) (h.ob c d hc hd) (h.agy Z) (h.ol c d hc hd) hs).mono ?_;rintro e w1 ⟨rfl,v',Y⟩;refine⟨rfl,h.cbW hc hd Z Y ?_ (λx hx=> ?_) ?_⟩
 ·unfold qF.put;split<;>rfl
 ·unfold qF.put;split
  ·exact iE _ _ hx
  ·rfl
 ·unfold qF.put;split
  ·rename_i hx
   show(jW (n.C c).on d _ d).length<=2000;rw[iF,az];exact hx.2
  ·exact h.ol c d hc hd
theorem V6(y:Yt)(n:iP)(i p:Nat)(w:dY)(h:jJ w y n)(hi:i<n.n)(hp:p<3):
 eZ e7 29 #[π (μ ⟨(y.z i).R,0,ν⟩),ι κ (p:Int)] w λe w'=>e=ρ (τ #[.string ⟨((n.R i).P p).out.toArray⟩,η])/\iH w w' y (n.jA i ((n.R i).out p)) n.n:=by
 have Y:=(h.rn i hi).1;refine(VP (y.z i) (n.R i) p w (h.rt i hi) eh).mono ?_;rintro e w1 ⟨rfl,Z⟩;rw[Y]at Z;exact⟨rfl,h.EO hi Z (h.rn i hi)⟩
def iP.pj(y:iP)(q d:Nat):iP:=if d=0 then y.j2 q else if d=1 then(y.j2 q).kU q 0 else y.j2 (q+1)
theorem Cq(c:qF)(o:Nat->dZ):C8 c o 0=ι κ (((c.e 0).1:Int)+1)/\C8 c o 1=ι κ ((c.e 0).2:Int)/\C8 c o 2=ι κ (((c.e 1).1:Int)+1)/\C8 c o 3=ι κ ((c.e 1).2:Int)/\C8 c o 4=.bool c.iT:=⟨rfl,rfl,rfl,rfl,rfl⟩
theorem ac2(y:iP)(q d x:Nat):((y.pj q d).C x).e=(y.C x).e:=by
 unfold iP.pj;split
 ·exact((j6 y q).2.2.2.2 x).1
 ·split
  ·exact((m7 _ q 0).2.2.2.2 x).1.trans ((j6 y q).2.2.2.2 x).1
  ·exact((j6 y (q+1)).2.2.2.2 x).1
theorem ac3(y:iP)(q d:Nat):(y.pj q d).n=y.n/\(y.pj q d).nc=y.nc:=by
 unfold iP.pj;split
 ·exact⟨(j6 y q).1,(j6 y q).2.1⟩
 ·split
  ·exact⟨(j6 y q).1,(j6 y q).2.1⟩
  ·exact⟨(j6 y (q+1)).1,(j6 y (q+1)).2.1⟩
theorem Se(y:iP)(q d:Nat)(hd:d<2):y.pj q (d+1)=(y.pj q d).kU q d:=by
 have:d=0 \/d=1:=eh;rcases this with rfl|rfl<;>rfl
theorem j5.pj {y:iP} {D k:Nat} (h:j5 y D k)(Z:D<=1000000000000000)(q d:Nat)(Y:q<y.nc):j5 (y.pj q d) D k:=by
 unfold iP.pj;split
 ·exact h.j2 Z q eh
 ·split
  ·exact(h.j2 Z q eh).kU Z (by rw[(j6 y q).2.1];exact Y) eh
  ·exact h.j2 Z (q+1) eh
theorem Om(w:dY)(y:Yt)(n:iP)(D k q d g m:Nat)(j:j5 n D k)(J:D<=1000000000000000)(hk:k<=100000)(U:q<n.nc)(hd:d<2)(hg:y.gC=μ g)(hm:n.n=m)(i p:Nat)(AF:(n.C q).e d=(i,p))(M Z:dY)(hW:iH w M y (n.pj q d) m)(hb:eE M Z)(E:Nat)(u v:dZ)(hE:M.heap.size<=E)(hc:Z.cell? ⟨E,0,ν⟩=μ u/\Z.cell? ⟨E,1,ν⟩=μ v):
 eZ e7 157 #[π (μ ⟨y.N,0,ν⟩),.agg #[ι κ ((i:Int)+1),ι κ (p:Int)]] Z λe w1=>∃R,e=ρ (π (μ ⟨R,0,ν⟩))/\(w1.cell? ⟨E,0,ν⟩=μ u/\w1.cell? ⟨E,1,ν⟩=μ v)/\
  eZ e7 29 #[π (μ ⟨R,0,ν⟩),ι κ (p:Int)] w1 λe T=>∃s:ByteArray,e=ρ (τ #[.string s,η])/\(T.cell? ⟨E,0,ν⟩=μ u/\T.cell? ⟨E,1,ν⟩=μ v)/\
   ∀V,eE T V->eZ e7 161 #[π (μ ⟨g,q*7,ν⟩),ι κ (d:Int),.string s] V λe S=>e=ρ (τ #[])/\iH w S y (n.pj q (d+1)) m:=by
 subst hm;obtain⟨hi,A⟩:=j.en q d U hd;rw[AF]at hi A;obtain⟨gn,gc⟩:=ac3 n q d;obtain⟨Q,R0,s1,vX,zk⟩:=hW.ex;have R1:=R0.below hb;have Y:E<Z.heap.size:=ag _ _ hc.1;have G:¬Q.all n.n E:=λe=>by
  have:=R0.Cp (k:=E) (by rw[gn];exact e);omega
 rw[<-s1.N];refine(Og Q _ i p Z R1 (by rw[gn];exact hi)).mono ?_;rintro e w1 ⟨rfl,b1⟩;refine⟨_,rfl,⟨(aj (a:=⟨E,0,ν⟩) (b1.block E Y)).trans hc.1,(aj (a:=⟨E,1,ν⟩) (b1.block E Y)).trans hc.2⟩,?_⟩;have H:E<w1.heap.size:=Nat.lt_of_lt_of_le Y b1.size;have R2:=R1.below b1;refine(V6 Q _ i p w1 R2 (by rw[gn];exact hi) A).mono ?_;rintro e T ⟨rfl,vR⟩;have rO:=vR.kept.block E H (by rw[gn];exact G);refine⟨_,rfl,⟨(aj (a:=⟨E,0,ν⟩) (rO.trans (b1.block E Y))).trans hc.1,(aj (a:=⟨E,1,ν⟩) (rO.trans (b1.block E Y))).trans hc.2⟩,λV b3=> ?_⟩;have X:=vR.below rfl b3;rw[gn]at X;have hF:=(j.pj J q d U).fits J (i:=i) (by rw[gn];exact hi);have rV:((((n.pj q d).R i).P p).out).length<=6000*k:=hF.out p (by rw[((j.pj J q d U).rn i (by rw[gn];exact hi)).1];exact A);have h4:eZ e7 161 #[π (μ ⟨g,q*7,ν⟩),ι κ (d:Int),.string ⟨(((n.pj q d).R i).P p).out.toArray⟩] V λe S=>e=ρ (τ #[])/\iH w1 S Q (n.pj q (d+1)) n.n:=by
  refine X.call λy2 R3 s2=> ?_;have BQ:y2.gC=μ g:=by rw[s2.gC,s1.gC];exact hg
  have hcc:q<(n.pj q d).nc:=by rw[gc];exact U
  have h:=V5 y2 _ q d g ⟨(((n.pj q d).R i).P p).out.toArray⟩ V R3 hcc hd BQ (by show Array.size _<=_;simp;omega);have e1:n.pj q (d+1)=((n.pj q d).jA i (((n.pj q d).R i).out p)).lz q (((n.pj q d).C q).put d ((((n.pj q d).R i).P p).out)):=by
   rw[Se n q d hd];unfold iP.kU;rw[ac2,AF]
  rw[e1];have e2:((n.pj q d).jA i (((n.pj q d).R i).out p)).n=n.n:=gn;rw[e2]at h;have e3:(⟨(((n.pj q d).R i).P p).out.toArray⟩:ByteArray).data.toList=(((n.pj q d).R i).P p).out:=gZ;rw[e3]at h;exact h
 refine h4.mono ?_;rintro e S ⟨rfl,PZ⟩;exact⟨rfl,iH.qP hW.kept s1 vX zk (iH.first (gu hb b1) PZ)⟩
theorem ac4(a b c d:Int)(w:dY):(gT 193 (.agg #[ι κ a,ι κ b,ι κ c,ι κ d]) (ι κ 0)).run e7 w=.ok (.agg #[ι κ a,ι κ b]) w:=gX
theorem ac5(a b c d:Int)(w:dY):(gT 193 (.agg #[ι κ a,ι κ b,ι κ c,ι κ d]) (ι κ 1)).run e7 w=.ok (.agg #[ι κ c,ι κ d]) w:=gX
section
variable {P:Program}
theorem pG(w:dY)(t ty e:TypeId)(i:TypeInfo)(Y:P.underlying t=μ (.slice e))(hi:P.info? e=μ i)(base ao:Option Addr)(n cap c:Nat)(Z:n<=cap):
 (fN #[t,t] ty #[σ base n cap,σ ao 0 c]).run P w=.ok (σ base n cap) w:=by
 cases base<;>cases ao<;>simp[fN,run_underlying Y,sizeOf,typeInfo,hi,Builtin.lenOf,Z,Builtin.firstCells,loadCells,loadCellsFrom,storeCells]
theorem uF {ops:Array Oper} {o:Oper} {a:Act} {K:Act->dY->Prop} {Q:Exit->Act->dY->Prop} {E:Prop}
 (H:o.guard=ν) (s x:Operand) (t:TypeId) (ho:o.op=.call {callee:=.builtin .append,args:= #[s,x],argTypes:= #[t,t] })
 (e:TypeId) (i:TypeInfo) (z:dZ) (size bytes:Nat) (X:P.underlying t=μ (.slice e)) (hi:P.info? e=μ i) (hz:i.zero=μ z)
 (rU:i.size=size) (vV:i.bytes=bytes) (G:z.cells.size=size) (rV:0<size)
 (v:dZ) (n:Nat) (xs:List dZ) (hs:a.eval s=v) (Y:Row w size v n xs)
 (v2:dZ) (m:Nat) (news:List dZ) (hx:a.eval x=v2) (V:Row w size v2 m news) (A:∀u∈news,u.oneCell'=true)
 (U:n+m<=maxLen) (vW:(n+m)*bytes<=140737488355328)
 (h:∀v' w',Row w' size v' (n+m) (xs++news)->w.grownBy w' v.ownBlock->(v'.ownBlock=v.ownBlock \/ ∃k,v'.ownBlock=μ k/\w.heap.size<=k)->K (a.put o.dst v') w'):
 if eP o (yielded ops a.tmps)=true then Oper.wp P o a w K Q else E:=by
 have hw:eP o (yielded ops a.tmps)=true:=by simp[eP,H]
 rw[ai hw];have key:∃v' w',(fN #[t,t] o.type #[v,v2]).run P w=.ok v' w'/\Row w' size v' (n+m) (xs++news)/\w.grownBy w' v.ownBlock/\(v'.ownBlock=v.ownBlock \/ ∃k,v'.ownBlock=μ k/\w.heap.size<=k):=by
  by_cases hm:0<m
  ·rcases V.2 with⟨_,e2⟩|⟨g,cap,rfl,M,Z,S,hcell,_⟩
   ·omega
   ·exact sD (P:=P) w t o.type e i z size bytes X hi hz rU vV G rV v n xs Y ⟨g,0,ν⟩ m cap news V.1 hm (λj u hu=>by rw[add_plain];exact hcell j u hu) A U vW
  ·have T:m=0:=eh;subst T;have kr:news=[] :=aH (by rw[V.1];simp);subst kr;have g0:w.grownBy w v.ownBlock:=⟨rfl,rfl,rfl,Nat.le_refl _,λ_ _ _=>rfl⟩
   rcases V.2 with⟨rfl,_⟩|⟨g2,cap2,rfl,_⟩
   ·rcases Y.2 with⟨rfl,rfl⟩|⟨g,cap,rfl,M,Z,S,hcell,J⟩
    ·exact⟨_,w,pG w t o.type e i X hi ν ν 0 0 0 (Nat.le_refl _),by simpa using Y,g0,.inl rfl⟩
    ·exact⟨_,w,pG w t o.type e i X hi _ ν n cap 0 Z,by simpa using Y,g0,.inl rfl⟩
   ·rcases Y.2 with⟨rfl,rfl⟩|⟨g,cap,rfl,M,Z,S,hcell,J⟩
    ·exact⟨_,w,pG w t o.type e i X hi ν _ 0 0 cap2 (Nat.le_refl _),by simpa using Y,g0,.inl rfl⟩
    ·exact⟨_,w,pG w t o.type e i X hi _ _ n cap cap2 Z,by simpa using Y,g0,.inl rfl⟩
 obtain⟨v',w',hr,h2,h3,h4⟩:=key;unfold Oper.wp execOp;simp only[ho,resolve,invoke,builtin,Sem.run_bind,Sem.run_pure,Result.andThen_ok,List.map_toArray,List.map_cons,List.map_nil,hs,hx,hr];exact h v' w' h2 h3 h4
end
theorem V7(a b:List zi):rR (a++b)=rR a++rR b:=by simp[rR]
theorem LG(l:List zi):∀u∈rR l,u.oneCell'=true:=by
 intro u Z;unfold rR at Z;obtain⟨t,_,Y⟩:=aT.1 Z;exact PW _ _ _ u Y
theorem Sf(w:dY)(y:Yt)(M:iP)(m j:Nat)(W:dY)(hW:iH w W y M m)(hn:M.n=m)(U:j<m):∃R iv,W.cell? ⟨y.gR,j,ν⟩=μ (π (μ ⟨R,0,ν⟩))/\(∀V,eE W V->V.cell? ⟨y.gI,j,ν⟩=μ iv/\V.cell? ⟨y.N,1,ν⟩=μ (σ (μ ⟨y.gI,0,ν⟩) m y.yO)/\y.gI<V.heap.size)/\iv.ownBlock≠μ y.gI/\iv.ownBlock≠μ y.N/\y.N≠y.gI/\
 ∀V,eE W V->eZ e7 32 #[π (μ ⟨R,0,ν⟩)] V λe w'=>∃v,e=ρ v/\Row w' 3 v (M.R j).kd.length (rR (M.R j).kd)/\Row w' 3 iv (M.kd j).length (rR (M.kd j))/\w'.cell? ⟨y.gI,j,ν⟩=μ iv/\w'.frozen? ⟨y.gI,j,ν⟩=false/\w'.cell? ⟨y.N,1,ν⟩=μ (σ (μ ⟨y.gI,0,ν⟩) m y.yO)/\
  ∀x1 v',Row x1 3 v' ((M.kd j).length+(M.R j).kd.length) (rR (M.kd j)++rR (M.R j).kd)->w'.grownBy x1 iv.ownBlock->(v'.ownBlock=iv.ownBlock \/ ∃k,v'.ownBlock=μ k/\w'.heap.size<=k)->iH w (x1.setCell ⟨y.gI,j,ν⟩ v') y (M.tM j) m:=by
 subst hn;obtain⟨Z,Q,s1,vX,zk⟩:=hW.ex;refine⟨(Z.z j).R,Z.iv j,?_,λV hb=> ?_,λe=> ?_,λe=> ?_,λe=> ?_,λV hb=> ?_⟩
 ·rw[<-s1.gR];exact Q.ptr U
 ·have X:=Q.below hb;rw[<-s1.gI,<-s1.N,<-s1.yO];exact⟨X.Y2 U,X.k1,X.acM⟩
 ·rw[<-s1.gI]at e;exact Q.wL (l:=.ib j) (l':=.I) e rfl (by intro e;cases e) rfl
 ·rw[<-s1.N]at e;exact Q.wL (l:=.ib j) (l':=.N) e rfl (by intro e;cases e) rfl
 ·rw[<-s1.gI,<-s1.N]at e;exact Q.wL (l:=.N) (l':=.I) rfl rfl (by intro e;cases e) e
 have X:=Q.below hb;have h:=(X.rn j U).1;refine(R6 (Z.z j) (M.R j) V (X.rt j U)).mono ?_;rintro e w1 ⟨rfl,hr,qB⟩;have hw:iG V w1 (Z.z j) {M.R j with kd:=[] } 3:=(congrArg (λt=>iG V w1 (Z.z j) ({M.R j with kd:=[] }:iO) t) h).mp qB;have jq:∀k,Z.own k->w1.heap[k]? =V.heap[k]? :=λk T=>by
  have hf:=X.PL U T;exact hw.kept.block k (X.lt (.inl T)) (λe=>hf (.inl e)) (λe=>hf (.inr (.inl e))) (λe=>hf (.inr (.inr e)))
 have hN:=X.EO U hw (X.rn j U);have S:=jq Z.gI ⟨.I,rfl⟩;refine⟨_,rfl,hr,(X.ib j U).keep hw.kept.size (λk T=>jq k ⟨.ib j,T⟩),?_,?_,?_,λx1 v' iX H A=> ?_⟩
 ·rw[<-s1.gI];exact(aj (a:=⟨Z.gI,j,ν⟩) S).trans (X.Y2 U)
 ·rw[<-s1.gI];have:=X.ri.fz j U;rw[Nat.zero_add]at this;exact(aL (a:=⟨Z.gI,j,ν⟩) S).trans this
 ·rw[<-s1.N,<-s1.gI,<-s1.yO];exact(aj (a:=⟨Z.N,1,ν⟩) (jq Z.N ⟨.N,rfl⟩)).trans X.k1
 have uy:iH V (x1.setCell ⟨Z.gI,j,ν⟩ v') Z (M.tM j) M.n:=by
  refine hN.step λy2 E G=> ?_;have TD:y2.iv j=Z.iv j:=by
   have Y:=E.Y2 (i:=j) U;rw[G.gI,(aj (a:=⟨Z.gI,j,ν⟩) S).trans (X.Y2 U)]at Y;exact(Option.some.inj Y).symm
  have jx:(Z.iv j).ownBlock≠μ Z.gI:=λe=>X.wL (l:=.ib j) (l':=.I) e rfl (by intro e;cases e) rfl;have hvg:v'.ownBlock≠μ Z.gI:=λe=>by
   rcases A with Y|⟨k,Y,J⟩
   ·exact jx (by rw[<-Y];exact e)
   ·rw[e]at Y;have yC:=Option.some.inj Y;have h4:Z.gI<w1.heap.size:=by rw[<-G.gI];exact E.acM
    omega
  have hx:x1.heap[Z.gI]? =w1.heap[Z.gI]? :=H.block Z.gI (by rw[<-G.gI];exact E.acM) (λe=>jx e.symm);have qL:=E.box (i:=j) (w':=x1.setCell ⟨Z.gI,j,ν⟩ v') U v' (M.kd j++(M.R j).kd) (by simpa using H.size) H.os H.tape H.output (λk T Y J=> ?_) ?_ ?_ (λk T=> ?_)
  ·exact qL
  ·rw[G.gI]at Y;rw[TD]at J;rw[ak _ _ _ k Y];exact H.block k T (λe=>J e.symm)
  ·rw[G.gI];have Y:=E.ri;rw[G.gI]at Y;have J:=Y.keep hx;have h:=J.set j U v';rw[Nat.zero_add]at h;refine h.congr λx hx=> ?_;by_cases e:x=j
   ·subst e;rw[iF];unfold tC;simp
   ·rw[iE _ _ e];unfold tC;simp[e]
  ·rw[V7,az];exact iX.keep gZ (λk T=>ak _ _ _ k (λe=>hvg (by rw[T,e])))
  ·rcases A with Y|⟨k',Y,J⟩
   ·left;rw[TD,<-Y];exact T
   ·right;rw[T]at Y;have:=Option.some.inj Y;omega
 rw[s1.gI]at uy;exact iH.qP hW.kept s1 vX zk (iH.first hb uy)
theorem oK {j:Nat} (h:x.cell? ⟨b,k,ν⟩=μ u)(Z:b≠g):(x.setCell ⟨g,j,ν⟩ v).cell? ⟨b,k,ν⟩=μ u:=by
 rw[aW _ _ _ _ (λe=>Z (congrArg Addr.block e).symm)];exact h
theorem sW(y:Yt)(n:iP)(D k:Nat)(w:dY)(h:jJ w y n)(iQ:j5 n D k)(hD:D<=1000000000)(hk:k<=100000):
 eZ e7 111 #[π (μ ⟨y.N,0,ν⟩)] w λe w'=>e=ρ (τ #[])/\iH w w' y n.gather n.n:=by
 have c3:=h.k3;obtain⟨a,cp,wj,LH⟩:=h.cvs;rw[wj]at c3;have cl:=h.yg;have c9:=h.c9;have n6:=h.n6;obtain⟨nc,ui⟩:=gq (n.nc);obtain⟨m,hm⟩:=gq (n.n);have H0:Hid (iH w w y (n.j2 0) m):=by
  show iH _ _ _ _ _;rw[<-hm];exact iH.refl h
 have HK3:Hid (∀q W,iH w W y (n.j2 q) m->W.cell? ⟨y.N,3,ν⟩=μ (σ a nc cp)/\y.N<W.heap.size):=by
  intro q W hw;have h1:=hw.k3;rw[(j6 n q).2.1,wj,ui]at h1;exact⟨h1,hw.lt⟩
 have HGC:Hid (∀c,c<nc->∃g,y.gC=μ g/\a=μ ⟨g,0,ν⟩):=by
  show∀c,_->_;rw[<-ui];exact LH
 have agz:Hid (∀q W g,q<nc->y.gC=μ g->iH w W y (n.j2 q) m->W.cell? ⟨g,q*7,ν⟩=μ (ι κ ((((n.C q).e 0).1:Int)+1))/\W.cell? ⟨g,q*7+1,ν⟩=μ (ι κ (((n.C q).e 0).2:Int))/\W.cell? ⟨g,q*7+2,ν⟩=μ (ι κ ((((n.C q).e 1).1:Int)+1))/\W.cell? ⟨g,q*7+2+1,ν⟩=μ (ι κ (((n.C q).e 1).2:Int))/\g<W.heap.size):=by
  intro q W g hq hg hw;obtain⟨ov,hC⟩:=hw.PT (c:=q) (by rw[(j6 n q).2.1,ui];exact hq) hg;have e1:=((j6 n q).2.2.2.2 q).1;have h0:=hC.cell 0 eA;have h1:=hC.cell 1 eA;have h2:=hC.cell 2 eA;have h3:=hC.cell 3 eA;rw[(Cq _ _).1,e1]at h0;rw[(Cq _ _).2.1,e1]at h1;rw[(Cq _ _).2.2.1,e1]at h2;rw[(Cq _ _).2.2.2.1,e1]at h3;exact⟨h0,h1,h2,h3,hC.lt eA⟩
 have JA:Hid (∀(q d g i p:Nat) (H:dY),q<nc->d<2->y.gC=μ g->(n.C q).e d=(i,p)->iH w H y (n.pj q d) m->
  eZ e7 157 #[π (μ ⟨y.N,0,ν⟩),.agg #[ι κ ((i:Int)+1),ι κ (p:Int)]] (H.alloc (γ #[ι κ ((i:Int)+1),ι κ (p:Int)] 192)).drew λe w1=>∃R,e=ρ (π (μ ⟨R,0,ν⟩))/\(w1.cell? ⟨H.heap.size,0,ν⟩=μ (ι κ ((i:Int)+1))/\w1.cell? ⟨H.heap.size,1,ν⟩=μ (ι κ (p:Int)))/\
  eZ e7 29 #[π (μ ⟨R,0,ν⟩),ι κ (p:Int)] w1 λe w2=>∃s:ByteArray,e=ρ (τ #[.string s,η])/\(w2.cell? ⟨H.heap.size,0,ν⟩=μ (ι κ ((i:Int)+1))/\w2.cell? ⟨H.heap.size,1,ν⟩=μ (ι κ (p:Int)))/\
   ∀w3,eE w2 w3->eZ e7 161 #[π (μ ⟨g,q*7,ν⟩),ι κ (d:Int),.string s] w3 λe w4=>e=ρ (τ #[])/\iH w w4 y (n.pj q (d+1)) m):=by
  intro q d g i p H hq hd hg AF hw;have hb:=jG (gY H (γ #[ι κ ((i:Int)+1),ι κ (p:Int)] 192));have hB:iZ (H.alloc (γ #[ι κ ((i:Int)+1),ι κ (p:Int)] 192)).drew H.heap.size #[ι κ ((i:Int)+1),ι κ (p:Int)] 192:=(iZ.new H _ _).drew;exact Om w y n D k q d g m iQ eh hk (by rw[ui];exact hq) hd hg hm i p AF H _ hw hb H.heap.size _ _ (Nat.le_refl _) ⟨hB.cell 0,hB.cell 1⟩
 rw[ui]at c3 c9;rw[hm]at n6⊢;have Ra:Hid _:=iQ;have HNC:Hid _:=ui;have HM:Hid _:=hm;clear h iQ LH wj ui hm
 go_in
 go_wp2
 go_loopw [15] (λx wr=>∃q:Nat,q<=nc/\x=ι κ q/\iH w wr y (n.j2 q) m) (λx _=>nc-(fa x).toNat)
 case atStart=>exact⟨0,Nat.zero_le _,rfl,H0.out⟩
 case round=>
  obtain⟨q,hq,rfl,r7⟩:=hrel;obtain⟨V,rfl⟩:∃V,V=wr:=⟨_,rfl⟩
  by_cases kD:q<nc
  ·have nS:(q:Int)<(nc:Int):=eh;have hq0:(0:Int)<=(q:Int):=eh;obtain⟨g,hg,rfl⟩:=HGC.out q kD;obtain⟨d3,dl⟩:=HK3.out q V r7;obtain⟨e0,e1,e2,e3,gl⟩:=agz.out q V g kD hg r7;obtain⟨i0,p0,LJ⟩:∃i0 p0,(n.C q).e 0=(i0,p0):=⟨_,_,rfl⟩
   obtain⟨i1,p1,LK⟩:∃i1 p1,(n.C q).e 1=(i1,p1):=⟨_,_,rfl⟩
   rw[LJ]at e0 e1;rw[LK]at e2 e3;have HD0:Hid _:=r7;have alC:Hid _:=LJ;have alD:Hid _:=LK;have HG:Hid _:=hg;clear r7 LJ LK hg
   go_wp2
   go_loopw [28] (λx wr=>(x=ι κ 0/\iH w wr y (n.pj q 0) m) \/(x=ι κ 1/\iH w wr y (n.pj q 1) m) \/(x=ι κ 2/\iH w wr y (n.pj q 2) m)) (λx _=>2-(fa x).toNat)
   case atStart=>exact .inl ⟨rfl,HD0.out⟩
   case round=>
    rcases hrel with⟨rfl,Dz⟩|⟨rfl,Dz⟩|⟨rfl,Dz⟩
    ·have hix:=ac4 ((i0:Int)+1) (p0:Int) ((i1:Int)+1) (p1:Int);have hE:=JA.out q 0 g i0 p0 wr kD eA HG.out alC.out Dz;obtain⟨W1,j8⟩:=gq (wr.alloc (γ #[ι κ ((i0:Int)+1),ι κ (p0:Int)] 192));obtain⟨E,ur⟩:=gq (wr.heap.size);have Q:W1.drew.cell? ⟨E,0,ν⟩=μ (ι κ ((i0:Int)+1))/\W1.drew.cell? ⟨E,1,ν⟩=μ (ι κ (p0:Int)):=by
      have hB:iZ (wr.alloc (γ #[ι κ ((i0:Int)+1),ι κ (p0:Int)] 192)).drew wr.heap.size #[ι κ ((i0:Int)+1),ι κ (p0:Int)] 192:=(iZ.new wr _ _).drew;rw[j8,ur]at hB;exact⟨hB.cell 0,hB.cell 1⟩
     have El:E<W1.drew.heap.size:=ag _ _ Q.1;rw[j8,ur]at hE;have Kg:Hid _:=j8;have VD:Hid _:=ur;clear Dz j8 ur;go_wp2_with(fail)
     try rw[Kg.out]
     try rw[VD.out]
     go_region_held3(λx=>x.cell? ⟨E,0,ν⟩=μ (ι κ ((i0:Int)+1))/\x.cell? ⟨E,1,ν⟩=μ (ι κ (p0:Int)))
      (first|assumption|exact Q|exact X|exact J)
      (first
       |(go_at_call 157;refine hE.mono ?_;rintro e w1 ⟨R,rfl,X,hO⟩)
       |(go_at_call 29;refine hO.mono ?_;rintro e w2 ⟨sx,rfl,J,hP⟩))
     all_goals
      have hp:=hP _ (au _ _);clear hE hO hP Q X J El;go_wp2_with(fail);refine hp.mono ?_;rintro e w4 ⟨rfl,PZ⟩;have Lx:Hid _:=PZ;clear hp PZ
      go_wp2
      go_roundw
      case rel=>exact .inr (.inl ⟨by go_num,Lx.out⟩)
      case measure=>simp[fa]
    ·have hix:=ac5 ((i0:Int)+1) (p0:Int) ((i1:Int)+1) (p1:Int);have hE:=JA.out q 1 g i1 p1 wr kD eA HG.out alD.out Dz;obtain⟨W1,j8⟩:=gq (wr.alloc (γ #[ι κ ((i1:Int)+1),ι κ (p1:Int)] 192));obtain⟨E,ur⟩:=gq (wr.heap.size);have Q:W1.drew.cell? ⟨E,0,ν⟩=μ (ι κ ((i1:Int)+1))/\W1.drew.cell? ⟨E,1,ν⟩=μ (ι κ (p1:Int)):=by
      have hB:iZ (wr.alloc (γ #[ι κ ((i1:Int)+1),ι κ (p1:Int)] 192)).drew wr.heap.size #[ι κ ((i1:Int)+1),ι κ (p1:Int)] 192:=(iZ.new wr _ _).drew;rw[j8,ur]at hB;exact⟨hB.cell 0,hB.cell 1⟩
     have El:E<W1.drew.heap.size:=ag _ _ Q.1;rw[j8,ur]at hE;have Kg:Hid _:=j8;have VD:Hid _:=ur;clear Dz j8 ur;go_wp2_with(fail)
     try rw[Kg.out]
     try rw[VD.out]
     go_region_held3(λx=>x.cell? ⟨E,0,ν⟩=μ (ι κ ((i1:Int)+1))/\x.cell? ⟨E,1,ν⟩=μ (ι κ (p1:Int)))
      (first|assumption|exact Q|exact X|exact J)
      (first
       |(go_at_call 157;refine hE.mono ?_;rintro e w1 ⟨R,rfl,X,hO⟩)
       |(go_at_call 29;refine hO.mono ?_;rintro e w2 ⟨sx,rfl,J,hP⟩))
     all_goals
      have hp:=hP _ (au _ _);clear hE hO hP Q X J El;go_wp2_with(fail);refine hp.mono ?_;rintro e w4 ⟨rfl,PZ⟩;have Lx:Hid _:=PZ;clear hp PZ
      go_wp2
      go_roundw
      case rel=>exact .inr (.inr ⟨by go_num,Lx.out⟩)
      case measure=>simp[fa]
    ·have HQ:Hid _:=Dz;clear Dz
     go_wp2
     go_roundw
     case rel=>exact⟨q+1,eh,by go_num,HQ.out⟩
     case measure=>simp[fa];omega
  ·have xZ:¬(q:Int)<(nc:Int):=eh;obtain rfl:q=nc:=eh;have HI0:Hid _:=r7;have k0:=r7.k0;have kl:=r7.lt;rw[(j6 n q).1]at k0;have k0':V.cell? ⟨y.N,0,ν⟩=μ (σ (μ ⟨y.gR,0,ν⟩) m y.tY):=by rw[<-HM.out];exact k0
   obtain⟨i0,hi,oB,np,mI⟩:=aX PU;have HE:Hid (n.gather=(n.j2 q).lO m):=by
    show _=_;unfold iP.gather;rw[HNC.out,HM.out]
   have Zb:Hid ((n.j2 q).n=m):=by show _=_;rw[(j6 n q).1,HM.out]
   have HK:Hid (∀j,j<m->(((n.j2 q).lO j).kd j).length<=2000000000/\((((n.j2 q).lO j).R j).kd).length<=2000000000):=by
    intro j hj;have h1:=(Ra.out.j2 eh q (by rw[HNC.out];exact Nat.le_refl _)).lO j;have h2:=h1.ib j (by rw[(n9 (n.j2 q) j).1,Zb.out];exact hj);have h3:=(h1.fit j (by rw[(n9 (n.j2 q) j).1,Zb.out];exact hj)).1;omega
   clear r7 k0 Ra HNC agz JA HK3 HGC
   go_wp2
   go_loopw [54] (λx wr=>∃j:Nat,j<=m/\x=ι κ j/\iH w wr y ((n.j2 q).lO j) m) (λx _=>m-(fa x).toNat)
   case atStart=>exact⟨0,Nat.zero_le _,rfl,HI0.out⟩
   case round=>
    obtain⟨j,hj,rfl,hwj⟩:=hrel;by_cases hjl:j<m
    ·have alF:(j:Int)<(m:Int):=eh;have yM:(0:Int)<=(j:Int):=eh;have hnM:((n.j2 q).lO j).n=m:=by rw[(n9 (n.j2 q) j).1,Zb.out]
     obtain⟨l1,l2⟩:=HK.out j hjl;have HS:Hid ((n.j2 q).lO (j+1)=((n.j2 q).lO j).tM j):=rfl;obtain⟨R,iv,r0,qL,agC,agD,hNI,Zc⟩:=Sf w y _ m j wr hwj hnM hjl;have zt:Hid ((n.j2 q).lO (j+1)=((n.j2 q).lO j).tM j):=rfl;have HSS:∀x,iH w x y (((n.j2 q).lO j).tM j) m=iH w x y ((n.j2 q).lO (j+1)) m:=λx=>rfl;obtain⟨M,hM⟩:=gq ((n.j2 q).lO j);rw[hM]at l1 l2 Zc HSS;simp only[HSS]at Zc;have hIn:=Zc wr.drew (jb wr);obtain⟨c1,Q,gIl⟩:=qL wr.drew (jb wr);have rl:=ag _ _ r0;have Zd:Hid _:=agC;have agE:Hid _:=agD;have HNI:Hid _:=hNI;have Nl:=ag _ _ Q;generalize y.N=YN at*;generalize y.gI=U at*;generalize y.yO=cI at*;clear hwj hM qL Zc HSS HS zt agC agD hNI;go_wp2_with(fail);refine cu (S:=λx=>x.cell? ⟨YN,1,ν⟩=μ (σ (μ ⟨U,0,ν⟩) m cI)) gX Q (λlK=> ?_);refine jr 0 (μ 59) rfl rfl gX gX gX (λ_ _ _ h=>h) (by rfl) (v:= ?_) ?_ jf ?_
     rotate_left
     ·intro G Z
      (try dsimp only at Z)
      go_simp
      try with_reducible rfl
     simp only[gG,gH,gJ,gK];refine jr 1 (μ 60) rfl rfl gX gX gX (λ_ _ _ h=>h) (by rfl) (v:= ?_) ?_ jf ?_
     rotate_left
     ·intro G Z
      (try dsimp only at Z)
      go_simp
      try with_reducible rfl
     simp only[gG,gH,gJ,gK];refine jr 2 (μ 61) rfl rfl gX gX gX (λ_ _ _ h=>h) (by rfl) (v:= ?_) ?_ jf ?_
     rotate_left
     ·intro G Z
      (try dsimp only at Z)
      go_simp
      try with_reducible rfl
     simp only[gG,gH,gJ,gK];refine jr 3 (μ 62) rfl rfl gX gX gX (λ_ _ _ h=>h) (by rfl) (v:= ?_) ?_ jf ?_
     rotate_left
     ·intro G Z
      (try dsimp only at Z)
      go_simp
      try with_reducible rfl
     simp only[gG,gH,gJ,gK];refine jr 4 (μ 63) rfl rfl gX gX gX (λ_ _ _ h=>h) (by rfl) (v:= ?_) ?_ jf ?_
     rotate_left
     ·intro G Z
      (try dsimp only at Z)
      go_simp
      try with_reducible rfl
     simp only[gG,gH,gJ,gK];refine jr 5 (μ 64) rfl rfl gX gX gX (λ_ _ _ h=>h) (by rfl) (v:= ?_) ?_ jf ?_
     rotate_left
     ·intro G Z
      (try dsimp only at Z)
      go_simp
      try with_reducible rfl
     simp only[gG,gH,gJ,gK];refine jr 6 (μ 65) rfl rfl gX gX gX (λ_ _ _ h=>h) (by rfl) (v:= ?_) ?_ jf ?_
     rotate_left
     ·intro G Z
      (try dsimp only at Z)
      go_simp
      try with_reducible rfl
     simp only[gG,gH,gJ,gK];refine jr 7 (μ 66) rfl rfl gX gX gX (λ_ _ _ h=>h) (by rfl) (v:= ?_) ?_ jf ?_
     rotate_left
     ·intro G Z
      (try dsimp only at Z)
      go_simp
      try with_reducible rfl
     simp only[gG,gH,gJ,gK];refine jr 8 (μ 67) rfl rfl gX gX gX (λ_ _ _ h=>h) (by rfl) (v:= ?_) ?_ jf ?_
     rotate_left
     ·intro G Z
      (try dsimp only at Z)
      go_simp
      try with_reducible rfl
     simp only[gG,gH,gJ,gK];refine jr 9 (μ 68) rfl rfl gX gX gX (λ_ _ _ h=>h) (by rfl) (v:= ?_) ?_ jf ?_
     rotate_left
     ·intro G Z
      (try dsimp only at Z)
      go_simp
      try with_reducible rfl
     simp only[gG,gH,gJ,gK];refine jr 10 (μ 69) rfl rfl gX gX gX (λ_ _ _ h=>h) (by rfl) (v:= ?_) ?_ jf ?_
     rotate_left
     ·intro G Z
      (try dsimp only at Z)
      go_simp
      try with_reducible rfl
     simp only[gG,gH,gJ,gK];refine jr 12 (μ 71) rfl rfl gX gX gX (λ_ _ _ h=>h) (by rfl) (v:= ?_) ?_ jf ?_
     rotate_left
     ·intro G Z
      (try dsimp only at Z)
      go_simp
      try with_reducible rfl
     simp only[gG,gH,gJ,gK];refine aR (rs:=[11,13]) gX gZ ?_;refine aG (o:=_) rfl (λK Y=> ?_) (aG (o:=_) rfl (λK Y=> ?_) aN)
     ·go_simp
      (try go_wp2_with(fail))
      refine Y.out _ _ (by exact Q) (λlK=> ?_);clear Y K;refine aR (rs:=[13]) gX gZ ?_;refine aG (o:=_) rfl (λK Y=> ?_) aN
      go_simp
      refine hIn.mono ?_;rintro e w1 ⟨v1,rfl,iX,TD,b1,z1,X,uy⟩
      (try go_wp2_with(fail))
      refine Y.out _ _ (by exact X) (λlK=> ?_);clear Y K;have T:=ag _ _ b1;refine aR (rs:=[14]) gX gZ ?_;refine aG (o:=_) rfl (λK Y=> ?_) aN;refine uF (by rfl) (.tmp 70) (.tmp 72) 53 (by rfl) 106 i0 (.agg #[ι κ 0,ι κ 0,.string ⟨#[]⟩]) 3 32 underlying53 hi oB np mI (by rfl) eA iv (M.kd j).length (rR (M.kd j)) (by rfl) TD v1 (M.R j).kd.length (rR (M.R j).kd) (by rfl) iX (LG _) (by unfold maxLen;omega) eh ?_;intro v2 x1 lg A jI;have J:x1.cell? ⟨YN,1,ν⟩=μ (σ (μ ⟨U,0,ν⟩) m cI):=(aj (a:=⟨YN,1,ν⟩) (A.block YN (ag _ _ X) (λe=>agE.out e.symm))).trans X;have b2:x1.cell? ⟨U,j,ν⟩=μ iv:=(aj (a:=⟨U,j,ν⟩) (A.block U T (λe=>Zd.out e.symm))).trans b1;have z2:x1.frozen? ⟨U,j,ν⟩=false:=(aL (a:=⟨U,j,ν⟩) (A.block U T (λe=>Zd.out e.symm))).trans z1;have gl2:=ag _ _ b2;obtain⟨a2,cp2,rfl⟩:=Row.shape lg;refine Y.out _ _ (by exact J) (λlK=> ?_);clear Y K;refine jr 15 (μ 74) rfl rfl gX gX gX (λ_ _ _ h=>h) (by rfl) (v:= ?_) ?_ jf ?_
      rotate_left
      ·intro G Z
       (try dsimp only at Z)
       go_simp
       try with_reducible rfl
      simp only[gG,gH];refine aR (rs:=[16]) gX gZ ?_;refine aG (o:=_) rfl (λK Y=> ?_) aN
      go_simp
      (try go_wp2_with(fail))
      refine Y.out _ _ (by exact oK J HNI.out) (λlK=> ?_);clear Y K;refine cQ gX ?_ _;have HF:Hid _:=uy x1 _ lg A jI;clear hIn iX TD b1 z1 Q X J b2 z2 uy lg A jI T gl2
      go_wp2
      go_roundw
      case rel=>exact⟨j+1,eh,by go_num,HF.out⟩
      case measure=>simp[fa];omega
     ·go_simp
      refine hIn.mono ?_;rintro e w1 ⟨v1,rfl,iX,TD,b1,z1,X,uy⟩
      (try go_wp2_with(fail))
      refine Y.out _ _ (by exact X) (λlK=> ?_);clear Y K;have T:=ag _ _ b1;refine aR (rs:=[11]) gX gZ ?_;refine aG (o:=_) rfl (λK Y=> ?_) aN
      go_simp
      (try go_wp2_with(fail))
      refine Y.out _ _ (by exact X) (λlK=> ?_);clear Y K;refine aR (rs:=[14]) gX gZ ?_;refine aG (o:=_) rfl (λK Y=> ?_) aN;refine uF (by rfl) (.tmp 70) (.tmp 72) 53 (by rfl) 106 i0 (.agg #[ι κ 0,ι κ 0,.string ⟨#[]⟩]) 3 32 underlying53 hi oB np mI (by rfl) eA iv (M.kd j).length (rR (M.kd j)) (by rfl) TD v1 (M.R j).kd.length (rR (M.R j).kd) (by rfl) iX (LG _) (by unfold maxLen;omega) eh ?_;intro v2 x1 lg A jI;have J:x1.cell? ⟨YN,1,ν⟩=μ (σ (μ ⟨U,0,ν⟩) m cI):=(aj (a:=⟨YN,1,ν⟩) (A.block YN (ag _ _ X) (λe=>agE.out e.symm))).trans X;have b2:x1.cell? ⟨U,j,ν⟩=μ iv:=(aj (a:=⟨U,j,ν⟩) (A.block U T (λe=>Zd.out e.symm))).trans b1;have z2:x1.frozen? ⟨U,j,ν⟩=false:=(aL (a:=⟨U,j,ν⟩) (A.block U T (λe=>Zd.out e.symm))).trans z1;have gl2:=ag _ _ b2;obtain⟨a2,cp2,rfl⟩:=Row.shape lg;refine Y.out _ _ (by exact J) (λlK=> ?_);clear Y K;refine jr 15 (μ 74) rfl rfl gX gX gX (λ_ _ _ h=>h) (by rfl) (v:= ?_) ?_ jf ?_
      rotate_left
      ·intro G Z
       (try dsimp only at Z)
       go_simp
       try with_reducible rfl
      simp only[gG,gH];refine aR (rs:=[16]) gX gZ ?_;refine aG (o:=_) rfl (λK Y=> ?_) aN
      go_simp
      (try go_wp2_with(fail))
      refine Y.out _ _ (by exact oK J HNI.out) (λlK=> ?_);clear Y K;refine cQ gX ?_ _;have HF:Hid _:=uy x1 _ lg A jI;clear hIn iX TD b1 z1 Q X J b2 z2 uy lg A jI T gl2
      go_wp2
      go_roundw
      case rel=>exact⟨j+1,eh,by go_num,HF.out⟩
      case measure=>simp[fa];omega
    ·have hjm:¬(j:Int)<(m:Int):=eh;obtain rfl:j=m:=eh;have HW:Hid (iH w wr y n.gather j):=by
      show iH _ _ _ _ _;rw[HE.out];exact hwj
     clear hwj
     go_wp2
     first|go_end0|refine iM rfl rfl ?_
     exact⟨rfl,HW.out⟩
theorem jJ.DA {n:iP} (h:jJ w y n)(hi:i<n.n)(Y:iG w w' (y.z i) r (n.R i).n)(X:r.n=(n.R i).n/\r.id=(n.R i).id):iH w w' y (n.jA i r) n.n:=by
 obtain⟨Z,V⟩:=h.rn i hi;rw[Z]at Y;exact h.EO hi Y ⟨X.1.trans Z,X.2.trans V⟩
theorem Sg(y:Yt)(n:iP)(D k i:Nat)(w:dY)(h:jJ w y n)(X:jh w)(Y:j5 n D k)(hD:D<=1000000000)(V:k<=90000)(hi:i<n.n):
 eZ e7 25 #[π (μ ⟨(y.z i).R,0,ν⟩)] w λe w'=>e=ρ (τ #[])/\iH w w' y (n.jA i (n.R i).tick) n.n:=by
 refine(RW (y.z i) (n.R i) k w (h.rt i hi) X (Y.ok i hi) (Y.fits eh hi) V).mono ?_;rintro e w1 ⟨rfl,U⟩;have Z:=jK.jc (n.R i) (n.R i).n;exact⟨rfl,h.DA hi U ⟨Z.n,Z.id⟩⟩
theorem Sh(y:Yt)(n:iP)(D k i:Nat)(t:Int)(tx:ByteArray)(w:dY)(h:jJ w y n)(Y:j5 n D k)(hD:D<=1000000000)(hk:k<=90000)(hi:i<n.n):
 eZ e7 27 #[π (μ ⟨(y.z i).R,0,ν⟩),ι κ t,.string tx] w λe w'=>e=ρ (jk (kg (n.R i) t tx.data.toList).2)/\iH w w' y (n.jA i (kg (n.R i) t tx.data.toList).1) n.n:=by
 refine(RY (y.z i) (n.R i) k t tx w (h.rt i hi) (Y.ok i hi) (Y.fits eh hi) eh).mono ?_;rintro e w1 ⟨rfl,X⟩;have Z:=jK.kg (n.R i) t tx.data.toList;exact⟨rfl,h.DA hi X ⟨Z.n,Z.id⟩⟩
theorem Bt {m:Nat} (h:k<m)(hm:m<=6):IntKind.i64.wrap ((k:Int)+1-1)=(k:Int):=by
 have:(k:Int)+1-1=k:=eh;rw[this];exact aQ _ ⟨eh,eh⟩
theorem LL(y:Yt)(n:iP)(D:Nat)(i:Int)(w:dY)(h:jJ w y n)(U:jh w)(Y:j5 n D 0)(hD:D<=900000000):
 eZ e7 56 #[π (μ ⟨y.N,0,ν⟩),ι κ i] w λe w'=>e=ρ (jk (n.tick i).2)/\iH w w' y (n.tick i).1 n.n:=by
 have hh:=qY y n i w h;rcases yS i n.n with⟨hn,hi⟩|⟨k,Z,rfl⟩
 ·have V:n.tick i=(n,6):=by unfold iP.tick;rw[ai hi]
  rw[V];rw[hn]at hh;have X:Hid _:=iH.refl h;clear h Y U
  go_in
  go_wp2_with(fail);refine hh.mono ?_;rintro e w1 ⟨rfl,rfl⟩;clear hh
  go_wp2
  go_ret;exact⟨rfl,X.out⟩
 ·rw[zT Z]at hh;have V:n.tick ((k:Int)+1)=((n.jA k (n.R k).tick).gather,0):=by
   unfold iP.tick;have E:((k:Int)+1-1).toNat=k:=eh;rw[af eh,E]
  rw[V];have c0:=h.k0;have cl:=h.yg;have d0:=h.ptr Z;have dl:=h.RJ;have n6:=h.n6;have hw:=Bt Z n6;have kX:(k:Int)<(n.n:Int):=eh;have Pv:(0:Int)<=(k:Int):=eh;have T:=Sg y n D 0 k w h U Y eh eh Z;have S:=Y.jd eh Z;have j:Hid (∀W,iH w W y (n.jA k (n.R k).tick) n.n->eZ e7 111 #[π (μ ⟨y.N,0,ν⟩)] W λe w'=>e=ρ (τ #[])/\iH w w' y (n.jA k (n.R k).tick).gather n.n):=by
   intro W A;refine A.call λy1 H s1=> ?_;rw[<-s1.N];exact sW y1 _ D _ W H S eh eh
  have G:jk 0=η:=rfl;rw[G];clear h Y U S
  go_in
  go_wp2_with(fail);refine hh.mono ?_;rintro e w1 ⟨rfl,rfl⟩;clear hh;go_wp2_with(fail);refine T.mono ?_;rintro e w1 ⟨rfl,M⟩;have Q:=j.out _ M;clear T M;go_wp2_with(fail);refine Q.mono ?_;rintro e w2 ⟨rfl,J⟩;have X:Hid _:=J;clear Q J
  go_wp2
  go_ret;exact⟨rfl,X.out⟩
theorem V8(y:Yt)(n:iP)(D:Nat)(i t:Int)(tx:ByteArray)(w:dY)(h:jJ w y n)(S:j5 n D 0)(hD:D<=900000000):
 eZ e7 53 #[π (μ ⟨y.N,0,ν⟩),ι κ i,ι κ t,.string tx] w λe w'=>e=ρ (jk (n.send i t tx.data.toList).2)/\iH w w' y (n.send i t tx.data.toList).1 n.n:=by
 have hh:=qY y n i w h;rcases yS i n.n with⟨hn,hi⟩|⟨k,U,rfl⟩
 ·have V:n.send i t tx.data.toList=(n,6):=by unfold iP.send;rw[ai hi]
  rw[V];rw[hn]at hh;have X:Hid _:=iH.refl h;clear h S
  go_in
  go_wp2_with(fail);refine hh.mono ?_;rintro e w1 ⟨rfl,rfl⟩;clear hh
  go_wp2
  go_ret;exact⟨rfl,X.out⟩
 ·rw[zT U]at hh;have e1:((k:Int)+1-1).toNat=k:=eh;have c0:=h.k0;have cl:=h.yg;have d0:=h.ptr U;have dl:=h.RJ;have n6:=h.n6;have hw:=Bt U n6;have kX:(k:Int)<(n.n:Int):=eh;have Pv:(0:Int)<=(k:Int):=eh;have Z:=Sh y n D 0 k t tx w h S eh eh U;have J:=S.VZ eh U t tx.data.toList;obtain⟨q,T⟩:=gq (kg (n.R k) t tx.data.toList);have V:n.send ((k:Int)+1) t tx.data.toList=if q.2≠0 then(n,q.2)else((n.jA k q.1).gather,0):=by
   unfold iP.send;rw[af eh,e1,T]
  rw[V];rw[T]at Z J;have G:Hid (∀W,iH w W y (n.jA k q.1) n.n->eZ e7 111 #[π (μ ⟨y.N,0,ν⟩)] W λe w'=>e=ρ (τ #[])/\iH w w' y (n.jA k q.1).gather n.n):=by
   intro W hW;refine hW.call λy1 j s1=> ?_;rw[<-s1.N];exact sW y1 _ _ _ W j J eh eh
  have H:q.2≠0->q.1=n.R k:=λM=>by
   rw[<-T]at M⊢;unfold Rt.kg at M⊢;split at M
   ·rename_i hc;rw[ai hc]
   ·exact absurd rfl M
  have vD:n.jA k (n.R k)=n:=by
   unfold iP.jA;rw[wG]
  by_cases Y:q.2=0
  ·rw[af (by simp[Y])];rw[Y]at Z;have e0:jk 0=η:=rfl;rw[e0]at Z⊢;clear h S J H V T Y
   go_in
   go_wp2_with(fail);refine hh.mono ?_;rintro e w1 ⟨rfl,rfl⟩;clear hh;go_wp2_with(fail);refine Z.mono ?_;rintro e w1 ⟨rfl,Q⟩;have E:=G.out _ Q;clear Z Q;go_wp2_with(fail);refine E.mono ?_;rintro e w2 ⟨rfl,A⟩;have X:Hid _:=A;clear E A
   go_wp2
   go_ret;exact⟨rfl,X.out⟩
  ·rw[ai Y];rw[H Y,vD]at Z;have ee:jk q.2=.iface 128 (ι κ (q.2:Int)):=by simp only[jk];rw[af Y]
   rw[ee]at Z⊢;clear h S J H V T G Y
   go_in
   go_wp2_with(fail);refine hh.mono ?_;rintro e w1 ⟨rfl,rfl⟩;clear hh;go_wp2_with(fail);refine Z.mono ?_;rintro e w1 ⟨rfl,Q⟩;have X:Hid _:=Q;clear Z Q
   go_wp2
   go_ret;exact⟨rfl,X.out⟩
theorem iH.aaY {W:dY} {y1:Yt} {n:iP} {R:Nat} (Y:jJ W y1 n)(s1:y.same y1)(hi:i<n.n)(hc:W.cell? ⟨y.gR,i,ν⟩=μ (π (μ ⟨R,0,ν⟩))):(y1.z i).R=R:=by
 have Z:=Y.ptr hi;rw[s1.gR,hc]at Z;have X:=Option.some.inj Z;injection X with V
 injection V with U
 injection U with T
 exact T.symm
def zX(W3:dY)(y:Yt)(n n1:iP)(i R:Nat)(b:Bool)(W:dY):Prop:=iH W3 W y (if b=true then n1 else n) n.n/\W.cell? ⟨y.gR,i,ν⟩=μ (π (μ ⟨R,0,ν⟩))
theorem zX.below {W3:dY} {y:Yt} {n n1:iP} {i R:Nat} {b:Bool} {W W':dY} (h:zX W3 y n n1 i R b W)(Z:n1.n=n.n)(hb:eE W W'):zX W3 y n n1 i R b W':=by
 refine⟨h.1.below (by cases b<;>simp[Z]) hb,?_⟩;exact(aj (a:=⟨y.gR,i,ν⟩) (hb.block y.gR (ag _ _ h.2))).trans h.2
theorem Si(V:dY)(y:Yt)(n n1:iP)(i p R:Nat)(b:Bool)(W:dY)(U:n1.n=n.n)(hi:i<n.n)(Z:zX V y n n1 i R b W):
 eZ e7 157 #[π (μ ⟨y.N,0,ν⟩),.agg #[ι κ ((i:Int)+1),ι κ (p:Int)]] W λe w'=>e=ρ (π (μ ⟨R,0,ν⟩))/\zX V y n n1 i R b w':=by
 obtain⟨S,X,s1,vX,zk⟩:=Z.1.ex;have Y:(if b=true then n1 else n).n=n.n:=by cases b<;>simp[U]
 have T:=iH.aaY X s1 (by rw[Y];exact hi) Z.2;rw[<-s1.N];refine(Og S _ i p W X (by rw[Y];exact hi)).mono ?_;rintro e w1 ⟨rfl,b1⟩;exact⟨by rw[T],Z.below U b1⟩
theorem LM(U:dY)(y:Yt)(n:iP)(D c d g i R:Nat)(many:Int)(W:dY)(H:j5 n D 0)(hc:c<n.nc)(hd:d<2)(J:y.gC=μ g)(n1:iP)(G:n.lz c {n.C c with on:=jW (n.C c).on d (((n.C c).on d).drop (min many.toNat ((n.C c).on d).length))}=n1)(M:zX U y n n1 i R false W):
 eZ e7 158 #[π (μ ⟨g,c*7,ν⟩),ι κ (d:Int),ι κ many] W λe w'=>e=ρ (.string ⟨(((n.C c).on d).take (min many.toNat ((n.C c).on d).length)).toArray⟩)/\zX U y n n1 i R true w':=by
 obtain⟨Y,T⟩:=M;have Y:iH U W y n n.n:=Y;obtain⟨V,Z,s1,E,A⟩:=Y.ex;have X:V.gC=μ g:=by rw[s1.gC];exact J
 refine(Sc g (c*7) d (n.C c) (V.ov c) many W hd (Z.rc g X c hc) (Z.ob c d hc hd) (Z.agy X) (Z.ol c d hc hd)).mono ?_;rintro e w1 ⟨rfl,v',Q⟩;have S:=Z.cbW hc hd X Q rfl (λx hx=>iE _ _ hx) (by
  show(jW (n.C c).on d _ d).length<=2000;rw[iF,dI];have:=H.ol c d hc hd;omega)
 rw[G]at S;refine⟨rfl,iH.qP Y.kept s1 E A S,?_⟩;rw[<-s1.gR]at T⊢;refine(aj (a:=⟨V.gR,i,ν⟩) (Q.block V.gR Z.RJ (λe=> ?_) (λe=> ?_))).trans T
 ·exact Z.wL (l:=.R) (l':=.C) rfl X (by intro e;cases e) e
 ·exact Z.wL (l:=.on c d) (l':=.R) e rfl (by intro e;cases e) rfl
theorem LN(Z:dY)(y:Yt)(n:iP)(D c d i p R q:Nat)(W:dY)(T:j5 n D 0)(hD:D<=900000000)(h3:jJ Z y n)(hT:jh Z)(hc:c<n.nc)(hd:d<2)(H:(n.C c).e (1-d)=(i,p))(n1:iP)(J:n.lz c {n.C c with on:=jW (n.C c).on d (((n.C c).on d).drop q)}=n1)(hW:zX Z y n n1 i R true W):
 eZ e7 23 #[π (μ ⟨R,0,ν⟩),ι κ (p:Int),.string ⟨(((n.C c).on d).take q).toArray⟩] W λe w'=>e=ρ η/\iH Z w' y (n.jt c d q) n.n:=by
 obtain⟨Y,h2⟩:=hW;have Y:iH Z W y n1 n.n:=Y;have hi:=(T.en c (1-d) hc eh)
 rw[H]at hi;have S:n1.n=n.n:=by rw[<-J];rfl
 have X:n1.R=n.R:=by rw[<-J];rfl
 have M:=Y.tab h3 rfl hT;obtain⟨j,Q,s1,vX,zk⟩:=Y.ex;have hR:=iH.aaY Q s1 (by rw[S];exact hi.1) h2;rw[<-hR];have hl:=T.ol c d hc hd;have rV:(⟨(((n.C c).on d).take q).toArray⟩:ByteArray).size<=2000:=by
  show Array.size _<=_;simp;omega
 have V:=Q.rt i (by rw[S];exact hi.1);have h:=T.fits eh (i:=i) hi.1;rw[X]at V;refine(VN _ (j.z i) (n.R i) p 0 W V M (T.ok i hi.1) h eh (by rw[(T.rn i hi.1).1];exact hi.2)).mono ?_;rintro e w1 ⟨rfl,E⟩;have e1:(⟨(((n.C c).on d).take q).toArray⟩:ByteArray).data.toList=((n.C c).on d).take q:=gZ;rw[e1]at E;have A:=jK.recv (n.R i) p (((n.C c).on d).take q);have vC:i<n1.n:=by rw[S];exact hi.1
 have U:iH W w1 j (n1.jA i ((n.R i).recv p (((n.C c).on d).take q))) n1.n:=by
  have G:(n.R i)=n1.R i:=by rw[X]
  refine Q.DA vC ?_ ?_
  ·rw[<-G];exact E
  ·rw[<-G];exact⟨A.n,A.id⟩
 rw[S]at U;refine⟨rfl,iH.qP Y.kept s1 vX zk ?_⟩;have e3:n.jt c d q=n1.jA i ((n.R i).recv p (((n.C c).on d).take q)):=by
  unfold iP.jt;rw[H,J]
 rw[e3];exact U
theorem Cr {p q r:Addr} {o:Obj} (h:w.cell? p=μ u/\w.cell? q=μ v/\w.cell? r=μ t):(w.alloc o).cell? p=μ u/\(w.alloc o).cell? q=μ v/\(w.alloc o).cell? r=μ t:=⟨mN h.1,mN h.2.1,mN h.2.2⟩
theorem Oo {l m:Nat} {a1 a2:dZ} (h:x.cell? ⟨b,k,ν⟩=μ u/\x.cell? ⟨c,l,ν⟩=μ v/\x.cell? ⟨d,m,ν⟩=μ t)(hb:b≠g)(hc:c≠g)(hd:d≠g):
 ((x.setCell ⟨g,0,ν⟩ a1).setCell ⟨g,1,ν⟩ a2).cell? ⟨b,k,ν⟩=μ u/\((x.setCell ⟨g,0,ν⟩ a1).setCell ⟨g,1,ν⟩ a2).cell? ⟨c,l,ν⟩=μ v/\((x.setCell ⟨g,0,ν⟩ a1).setCell ⟨g,1,ν⟩ a2).cell? ⟨d,m,ν⟩=μ t:=
 ⟨oK (oK h.1 hb) hb,oK (oK h.2.1 hc) hc,oK (oK h.2.2 hd) hd⟩
theorem Ze(c:qF)(o:Nat->dZ)(x:Nat)(hx:x<2):C8 c o (x*2)=ι κ (((c.e x).1:Int)+1)/\C8 c o (x*2+1)=ι κ ((c.e x).2:Int):=by
 have:x=0 \/x=1:=eh;rcases this with rfl|rfl<;>exact⟨rfl,rfl⟩
theorem Ct(y:Yt)(n:iP)(D:Nat)(i d many:Int)(w:dY)(h:jJ w y n)(hT:jh w)(iQ:j5 n D 0)(hD:D<=900000000):
 eZ e7 101 #[π (μ ⟨y.N,0,ν⟩),ι κ i,ι κ d,ι κ many] w λe w'=>e=ρ (jk (n.deliver i d many).2)/\iH w w' y (n.deliver i d many).1 n.n:=by
 have hh:=Oe y n i d w h;rcases Od i d n.nc with⟨hn,hi⟩|⟨c,k,hc,hk,rfl,rfl⟩
 ·have hE:n.deliver i d many=(n,6):=by unfold iP.deliver;rw[ai hi]
  rw[hE];rw[hn]at hh;have HW:Hid _:=iH.refl h;clear h iQ hT
  go_in
  go_wp2_with(fail);refine hh.mono ?_;rintro e w1 ⟨rfl,rfl⟩;clear hh
  go_wp2
  go_ret;exact⟨rfl,HW.out⟩
 ·rw[VH hc hk]at hh;obtain⟨q,hq⟩:=gq (min many.toNat ((n.C c).on k).length);have hE:n.deliver (c:Int) (k:Int) many=((n.jt c k q).gather,0):=by
   unfold iP.deliver;rw[af eh,Int.toNat_natCast,Int.toNat_natCast,hq]
  rw[hE];have e0:jk 0=η:=rfl;rw[e0];obtain⟨a,cp,wj,LH⟩:=h.cvs;obtain⟨g,hg,rfl⟩:=LH c hc;have k9:=iQ.jt (D:=D) (k:=0) (c:=c) (d:=k) (q:=q) eh hc hk;have hG:Hid (∀W,iH w W y (n.jt c k q) n.n->eZ e7 111 #[π (μ ⟨y.N,0,ν⟩)] W λe w'=>e=ρ (τ #[])/\iH w w' y (n.jt c k q).gather n.n):=by
   intro W V;refine V.call λy1 R1 s1=> ?_;rw[<-s1.N];exact sW y1 _ _ _ W R1 k9 eh eh
  obtain⟨x,hx⟩:=gq (1-k);have De:x<2:=eh;have E:=λW=>RK k hk W;rw[hx]at E;obtain⟨j,p,Q⟩:∃j p,(n.C c).e x=(j,p):=⟨_,_,rfl⟩
  have HF:Hid (∀W,eE w W->W.cell? ⟨y.N,3,ν⟩=μ (σ (μ ⟨g,0,ν⟩) n.nc cp)/\W.cell? ⟨g,c*7+x*2,ν⟩=μ (ι κ ((j:Int)+1))/\W.cell? ⟨g,c*7+x*2+1,ν⟩=μ (ι κ (p:Int))):=by
   intro W hb;have R1:=h.below hb;have h3:=R1.k3;rw[wj]at h3;have h4:=(R1.rc g hg c hc).cell (x*2) eh;have h5:=(R1.rc g hg c hc).cell (x*2+1) eh;obtain⟨g1,g2⟩:=Ze (n.C c) (y.ov c) x De;rw[g1,Q]at h4;rw[g2,Q]at h5;exact⟨h3,h4,h5⟩
  have HH:Hid _:=h;have HT:Hid _:=hT;have Ra:Hid _:=iQ;have HG:Hid _:=hg;have HJP:Hid _:=Q;have HX:Hid _:=hx;have HQ:Hid _:=hq;have c9:=h.c9;have j0:(c:Int)<(n.nc:Int):=eh;have rL:(0:Int)<=(c:Int):=eh;have vM:(x:Int)<2:=eh;have hx0:(0:Int)<=(x:Int):=eh;obtain⟨nc,ui⟩:=gq (n.nc);rw[ui]at HF j0 c9;obtain⟨M,G⟩:=gq (y.N);rw[G]at HF hh⊢;have S:Hid _:=G;have HC:Hid _:=hc;clear h iQ hT wj LH k9 hE Q ui hq G hc hg;have U:=HF.out w.drew (jb w);have gl:g<w.drew.heap.size:=ag _ _ U.2.1;have Nl:M<w.drew.heap.size:=ag _ _ U.1;have gne:g≠w.heap.size:=by have:g<w.heap.size:=gl;omega
  have Nne:M≠w.heap.size:=by have:M<w.heap.size:=Nl;omega
  go_in
  go_wp2_with(fail);refine hh.mono ?_;rintro e w1 ⟨rfl,rfl⟩;clear hh
  go_wp2
  go_cut [9] (λv Z=>∃Y:Nat,v=π (μ ⟨Y,0,ν⟩)/\Z.cell? ⟨Y,0,ν⟩=μ (ι κ ((j:Int)+1))/\Z.cell? ⟨Y,1,ν⟩=μ (ι κ (p:Int))/\eE w Z/\w.heap.size<=Y)
  case first=>
   go_region_held3(λx'=>x'.cell? ⟨M,3,ν⟩=μ (σ (μ ⟨g,0,ν⟩) nc cp)/\x'.cell? ⟨g,c*7+x*2,ν⟩=μ (ι κ ((j:Int)+1))/\x'.cell? ⟨g,c*7+x*2+1,ν⟩=μ (ι κ (p:Int)))
    (first|assumption|exact U|exact Cr U|exact Oo (Cr U) Nne gne gne)
    (first|(go_at_call 156;refine(E _).mono ?_;rintro e w1 ⟨rfl,rfl⟩))
   all_goals
    go_wp2_with(fail)
    go_meet
    have hB:iZ (w.alloc (γ #[ι κ ((j:Int)+1),ι κ (p:Int)] 192)).drew w.heap.size #[ι κ ((j:Int)+1),ι κ (p:Int)] 192:=(iZ.new w _ _).drew;exact⟨_,rfl,hB.cell 0,hB.cell 1,jG (gY _ _),Nat.le_refl _⟩
  case rest=>
   obtain⟨Y,rfl,y0,y1,sy,hY⟩:=hcut
   rename dY=>Z
   have R3:=HH.out.below sy;have hT3:jh Z:=jh.below (w:=w) HT.out sy;have Yl:=ag _ _ y0;have hYn:¬y.all n.n Y:=λe=>by
    have:=HH.out.Cp e;omega
   obtain⟨n1,mT⟩:=gq (n.lz c {n.C c with on:=jW (n.C c).on k (((n.C c).on k).drop q)});have Ay:n1.n=n.n:=by rw[<-mT];rfl
   have agF:n1.nc=n.nc:=by rw[<-mT];rfl
   have O2:j<n.n:=by have:=(Ra.out.en c x HC.out De).1;rw[HJP.out]at this;exact this
   have agG:(n.C c).e (1-k)=(j,p):=by rw[HX.out];exact HJP.out
   have hF3:=HF.out;have FW:∀(W:dY) (n':iP),n'.nc=n.nc->iH Z W y n' n.n->W.cell? ⟨Y,0,ν⟩=μ (ι κ ((j:Int)+1))/\W.cell? ⟨Y,1,ν⟩=μ (ι κ (p:Int))/\W.cell? ⟨M,3,ν⟩=μ (σ (μ ⟨g,0,ν⟩) nc cp):=by
    intro W n' hn' V;have uR:=V.kept.block Y Yl hYn;refine⟨(aj (a:=⟨Y,0,ν⟩) uR).trans y0,(aj (a:=⟨Y,1,ν⟩) uR).trans y1,?_⟩;have h3:=(hF3 Z sy).1;have k3:=R3.k3;rw[S.out,h3]at k3;have k4:=V.k3;rw[hn',<-Option.some.inj k3,S.out]at k4;exact k4
   have J:∀(b:Bool) (W:dY),zX Z y n n1 j (y.z j).R b W->W.cell? ⟨Y,0,ν⟩=μ (ι κ ((j:Int)+1))/\W.cell? ⟨Y,1,ν⟩=μ (ι κ (p:Int))/\W.cell? ⟨M,3,ν⟩=μ (σ (μ ⟨g,0,ν⟩) nc cp):=by
    intro b W V;refine FW W _ ?_ V.1;cases b
    ·rfl
    ·exact agF
   have hat:=λ(b:Bool) (W:dY) (V:zX Z y n n1 j (y.z j).R b W)=>Si Z y n n1 j p (y.z j).R b W Ay O2 V;have A:=λ(W:dY) (V:zX Z y n n1 j (y.z j).R false W)=>LM Z y n D c k g j (y.z j).R many W Ra.out HC.out hk HG.out n1 (by rw[HQ.out];exact mT) V;have X:∀(W:dY),zX Z y n n1 j (y.z j).R true W->eZ e7 23 #[π (μ ⟨(y.z j).R,0,ν⟩),ι κ (p:Int),.string ⟨(((n.C c).on k).take q).toArray⟩] W λe w'=>e=ρ η/\iH Z w' y (n.jt c k q) n.n/\(w'.cell? ⟨Y,0,ν⟩=μ (ι κ ((j:Int)+1))/\w'.cell? ⟨Y,1,ν⟩=μ (ι κ (p:Int))/\w'.cell? ⟨M,3,ν⟩=μ (σ (μ ⟨g,0,ν⟩) nc cp)):=by
    intro W V;refine(LN Z y n D c k j p (y.z j).R q W Ra.out hD R3 hT3 HC.out hk agG n1 mT V).mono ?_;rintro e w' ⟨rfl,hw⟩;exact⟨rfl,hw,FW w' (n.jt c k q) rfl hw⟩
   rw[HQ.out]at A;have t0:zX Z y n n1 j (y.z j).R false Z.drew:=⟨iH.still R3 (jb Z),(aj (a:=⟨y.gR,j,ν⟩) rfl).trans (R3.ptr O2)⟩
   have U:=J _ _ t0;have Hs:Hid _:=sy;generalize (y.z j).R=RR at hat A X t0 J;generalize (⟨(((n.C c).on k).take q).toArray⟩:ByteArray)=sx at A X;obtain⟨T,hTe⟩:=gq (zX Z y n n1 j RR);obtain⟨T2,agH⟩:∃T2:dY->Prop,(λw'=>iH Z w' y (n.jt c k q) n.n)=T2:=⟨_,rfl⟩
   have H:∀x,iH Z x y (n.jt c k q) n.n=T2 x:=λx=>ch agH x;have HT2:Hid _:=H;simp only[H]at X;rw[hTe]at hat A X t0 J;rw[S.out]at hat;have Yl2:Y<Z.drew.heap.size:=Yl;have cl2:=ag _ _ U.2.2;clear FW mT Ay agF hF3 R3 hT3 hYn hTe agH H agG y0 y1 sy U E;have U:=J _ _ t0
   go_wp2
   go_region_held3(λx'=>x'.cell? ⟨Y,0,ν⟩=μ (ι κ ((j:Int)+1))/\x'.cell? ⟨Y,1,ν⟩=μ (ι κ (p:Int))/\x'.cell? ⟨M,3,ν⟩=μ (σ (μ ⟨g,0,ν⟩) nc cp))
    (first|assumption|exact U|exact F1|exact F2|exact F3)
    (first
     |(go_at_call 157;refine(hat _ _ jf).mono ?_;rintro e w1 ⟨rfl,t1⟩;have F1:=J _ _ t1)
     |(go_at_call 158;refine(A _ jf).mono ?_;rintro e w2 ⟨rfl,t2⟩;have F2:=J _ _ t2)
     |(go_at_call 23;refine(X _ jf).mono ?_;rintro e w3 ⟨rfl,t3,F3⟩))
   all_goals
    have xR:=t3;rw[<-HT2.out]at xR;have kG:=hG.out _ (iH.first Hs.out xR);rw[S.out]at kG;clear xR hat A X t0 t1 t2 t3 J U F1 F2 F3;go_wp2_with(fail);refine kG.mono ?_;rintro e w4 ⟨rfl,PZ⟩;have HW:Hid _:=PZ;clear kG PZ
    go_wp2
    go_ret;exact⟨rfl,HW.out⟩
theorem ada(w:dY):(zeroValue 195).run e7 w=.ok (.agg #[σ ν 0 0,σ ν 0 0]) w:=gX
theorem Cu(w:dY)(y:Yt)(M:iP)(D k c d m:Nat)(up:Bool)(U:j5 M D k)(hD:D<=900000000)(hk:k<=90000)(hc:c<M.nc)(hd:d<2)(hm:M.n=m)(i p:Nat)(H:(M.C c).e d=(i,p))(V Z:dY)(h:iH w V y M m)(hT:jh V)(hb:eE V Z)(E:Nat)(u v:dZ)(hE:V.heap.size<=E)(Y:Z.cell? ⟨E,0,ν⟩=μ u/\Z.cell? ⟨E,1,ν⟩=μ v):
 eZ e7 157 #[π (μ ⟨y.N,0,ν⟩),.agg #[ι κ ((i:Int)+1),ι κ (p:Int)]] Z λe w1=>∃R,e=ρ (π (μ ⟨R,0,ν⟩))/\(w1.cell? ⟨E,0,ν⟩=μ u/\w1.cell? ⟨E,1,ν⟩=μ v)/\
  eZ e7 20 #[π (μ ⟨R,0,ν⟩),ι κ (p:Int),.bool up] w1 λe T=>∃f:Nat,e=ρ (jk f)/\(T.cell? ⟨E,0,ν⟩=μ u/\T.cell? ⟨E,1,ν⟩=μ v)/\iH w T y (M.lI c d up) m:=by
 subst hm;obtain⟨hi,hp⟩:=U.en c d hc hd;rw[H]at hi hp;obtain⟨J,G,s1,vX,zk⟩:=h.ex;have A:=G.below hb;have X:E<Z.heap.size:=ag _ _ Y.1;have Q:¬J.all M.n E:=λe=>by
  have:=G.Cp (k:=E) e;omega
 rw[<-s1.N];refine(Og J _ i p Z A hi).mono ?_;rintro e w1 ⟨rfl,b1⟩;refine⟨_,rfl,⟨(aj (a:=⟨E,0,ν⟩) (b1.block E X)).trans Y.1,(aj (a:=⟨E,1,ν⟩) (b1.block E X)).trans Y.2⟩,?_⟩;have S:E<w1.heap.size:=Nat.lt_of_lt_of_le X b1.size;have j:=A.below b1;have XM:jh w1:=jh.below (w:=V) hT (gu hb b1);refine(RZ up (J.z i) (M.R i) p k w1 (j.rt i hi) XM (U.ok i hi) (U.fits eh hi) eh (by rw[(U.rn i hi).1];exact hp)).mono ?_;rintro e T ⟨rfl,hw⟩;have hg:=jK.iL (M.R i) p up;have vR:=j.DA hi hw ⟨hg.n,hg.id⟩;have rO:=vR.kept.block E S Q;refine⟨_,rfl,⟨(aj (a:=⟨E,0,ν⟩) (rO.trans (b1.block E X))).trans Y.1,(aj (a:=⟨E,1,ν⟩) (rO.trans (b1.block E X))).trans Y.2⟩,?_⟩;have e1:M.lI c d up=M.jA i ((M.R i).iL p up).1:=by
  unfold iP.lI;rw[H]
 rw[e1];exact iH.qP h.kept s1 vX zk (iH.first (gu hb b1) vR)
theorem jJ.turn {n:iP} (h:jJ w y n)(hc:c<n.nc)(Y:y.gC=μ g)(up:Bool)(hx:x=((w.setCell ⟨g,c*7+4,ν⟩ (.bool up)).setCell ⟨g,c*7+5,ν⟩ (σ ν 0 0)).setCell ⟨g,c*7+6,ν⟩ (σ ν 0 0)):
 iH w x y (n.lz c {n.C c with iT:=up,on:=λ_=>[] }) n.n:=by
 have hC:=h.rc g Y c hc;have V:=((hC.set 4 eA (.bool up)).set 5 eA (σ ν 0 0)).set 6 eA (σ ν 0 0);have rV:x.heap.size=w.heap.size:=by rw[hx];simp
 have T:∀k,k≠g->x.heap[k]? =w.heap[k]? :=λk Z=>by
  rw[hx,ak _ _ _ k Z,ak _ _ _ k Z,ak _ _ _ k Z]
 have b1:Below 0 w x:=by rw[hx];exact(((au 0 w).setCell (Nat.zero_le _) _).setCell (Nat.zero_le _) _).setCell (Nat.zero_le _) _
 refine h.PR hc Y _ (λ_=>σ ν 0 0) eh b1.os b1.tape b1.output (λk _ X _=>T k X) (λj U=> ?_) (λj=> ?_) ?_ (λd _=>Row.nil _ 1) (λd _=>Nat.zero_le _) rfl (λd k _ e=>by simp[eu]at e) (λk e=>by simp[eu]at e)
 ·rw[hx];rw[aW _ _ _ _ (λe=>by have:=congrArg gU e;simp at this;omega),aW _ _ _ _ (λe=>by have:=congrArg gU e;simp at this;omega),aW _ _ _ _ (λe=>by have:=congrArg gU e;simp at this;omega)]
 ·rw[hx,mJ,mJ,mJ]
 ·rw[hx];refine V.congr λj U=> ?_;have:j=0 \/j=1 \/j=2 \/j=3 \/j=4 \/j=5 \/j=6:=eh;rcases this with rfl|rfl|rfl|rfl|rfl|rfl|rfl<;>rfl
theorem Ii(y:Yt)(n:iP)(D k c:Nat)(up:Bool)(w:dY)(h:jJ w y n)(hT:jh w)(iQ:j5 n D k)(hD:D<=900000000)(hk:k<=80000)(hc:c<n.nc):
 eZ e7 113 #[π (μ ⟨y.N,0,ν⟩),ι κ (c:Int),.bool up] w λe w'=>e=ρ (τ #[])/\iH w w' y (n.jZ c up) n.n:=by
 have c3:=h.k3;obtain⟨a,cp,wj,LH⟩:=h.cvs;obtain⟨g,hg,rfl⟩:=LH c hc;rw[wj]at c3;have cl:=h.yg;have c9:=h.c9;have j0:(c:Int)<(n.nc:Int):=eh;have rL:(0:Int)<=(c:Int):=eh;have hC:=h.rc g hg c hc;have gl:=hC.lt eA;have k4:=hC.cell 4 eA;have f4:=hC.fz 4 eA;have k5:=hC.cell 5 eA;have f5:=hC.fz 5 eA;have k6:w.cell? ⟨g,c*7+5+1,ν⟩=_:=hC.cell 6 eA;have f6:w.frozen? ⟨g,c*7+5+1,ν⟩=false:=hC.fz 6 eA;have hzo:=ada;obtain⟨i0,Y,LJ⟩:∃i0 Y,(n.C c).e 0=(i0,Y):=⟨_,_,rfl⟩
 obtain⟨i1,X,LK⟩:∃i1 X,(n.C c).e 1=(i1,X):=⟨_,_,rfl⟩
 have k0:w.cell? ⟨g,c*7,ν⟩=μ (ι κ ((i0:Int)+1)):=by
  have:=hC.cell 0 eA;rw[(Cq _ _).1,LJ]at this;exact this
 have k1:w.cell? ⟨g,c*7+1,ν⟩=μ (ι κ (Y:Int)):=by
  have:=hC.cell 1 eA;rw[(Cq _ _).2.1,LJ]at this;exact this
 have k2:w.cell? ⟨g,c*7+2,ν⟩=μ (ι κ ((i1:Int)+1)):=by
  have:=hC.cell 2 eA;rw[(Cq _ _).2.2.1,LK]at this;exact this
 have k3:w.cell? ⟨g,c*7+3,ν⟩=μ (ι κ (X:Int)):=by
  have:=hC.cell 3 eA;rw[(Cq _ _).2.2.2.1,LK]at this;exact this
 have H0:Hid (iH w (((w.setCell ⟨g,c*7+4,ν⟩ (.bool up)).setCell ⟨g,c*7+5,ν⟩ (σ ν 0 0)).setCell ⟨g,c*7+5+1,ν⟩ (σ ν 0 0)) y (n.lz c {n.C c with iT:=up,on:=λ_=>[] }) n.n):=h.turn hc hg up rfl;have Zf:j5 (n.lz c {n.C c with iT:=up,on:=λ_=>[] }) D k:=iQ.lz (λ_=>rfl) (λ_ _ _=>Nat.zero_le _);obtain⟨V,Lw⟩:=gq (n.lz c {n.C c with iT:=up,on:=λ_=>[] });have hMC:(V.C c).e=(n.C c).e:=by
  rw[<-Lw];show(if c=c then _ else n.C c).e=_;rw[ai rfl]
 have hMn:V.n=n.n:=by rw[<-Lw];rfl
 have S:V.nc=n.nc:=by rw[<-Lw];rfl
 have HE1:Hid (n.jZ c up=(V.lI c 0 up).lI c 1 up):=by
  show _=_;unfold iP.jZ;rw[Lw]
 rw[Lw]at H0 Zf;have k9:j5 (V.lI c 0 up) D (k+1):=Zf.VY eh (by rw[S];exact hc) eA up;have A:Hid (∀Z,iH w Z y V n.n->
  eZ e7 157 #[π (μ ⟨y.N,0,ν⟩),.agg #[ι κ ((i0:Int)+1),ι κ (Y:Int)]] (Z.alloc (γ #[ι κ ((i0:Int)+1),ι κ (Y:Int)] 192)).drew λe w1=>∃R,e=ρ (π (μ ⟨R,0,ν⟩))/\(w1.cell? ⟨Z.heap.size,0,ν⟩=μ (ι κ ((i0:Int)+1))/\w1.cell? ⟨Z.heap.size,1,ν⟩=μ (ι κ (Y:Int)))/\
  eZ e7 20 #[π (μ ⟨R,0,ν⟩),ι κ (Y:Int),.bool up] w1 λe J=>∃f:Nat,e=ρ (jk f)/\(J.cell? ⟨Z.heap.size,0,ν⟩=μ (ι κ ((i0:Int)+1))/\J.cell? ⟨Z.heap.size,1,ν⟩=μ (ι κ (Y:Int)))/\iH w J y (V.lI c 0 up) n.n):=by
  intro Z hw;have hb:=jG (gY Z (γ #[ι κ ((i0:Int)+1),ι κ (Y:Int)] 192));have U:iZ (Z.alloc (γ #[ι κ ((i0:Int)+1),ι κ (Y:Int)] 192)).drew Z.heap.size #[ι κ ((i0:Int)+1),ι κ (Y:Int)] 192:=(iZ.new Z _ _).drew;exact Cu w y V D k c 0 n.n up Zf hD eh (by rw[S];exact hc) eA hMn i0 Y (by rw[hMC];exact LJ) Z _ hw (hw.tab h rfl hT) hb Z.heap.size _ _ (Nat.le_refl _) ⟨U.cell 0,U.cell 1⟩
 have T:Hid (∀Z,iH w Z y (V.lI c 0 up) n.n->
  eZ e7 157 #[π (μ ⟨y.N,0,ν⟩),.agg #[ι κ ((i1:Int)+1),ι κ (X:Int)]] (Z.alloc (γ #[ι κ ((i1:Int)+1),ι κ (X:Int)] 192)).drew λe w1=>∃R,e=ρ (π (μ ⟨R,0,ν⟩))/\(w1.cell? ⟨Z.heap.size,0,ν⟩=μ (ι κ ((i1:Int)+1))/\w1.cell? ⟨Z.heap.size,1,ν⟩=μ (ι κ (X:Int)))/\
  eZ e7 20 #[π (μ ⟨R,0,ν⟩),ι κ (X:Int),.bool up] w1 λe J=>∃f:Nat,e=ρ (jk f)/\(J.cell? ⟨Z.heap.size,0,ν⟩=μ (ι κ ((i1:Int)+1))/\J.cell? ⟨Z.heap.size,1,ν⟩=μ (ι κ (X:Int)))/\iH w J y (n.jZ c up) n.n):=by
  intro Z hw;have hb:=jG (gY Z (γ #[ι κ ((i1:Int)+1),ι κ (X:Int)] 192));have U:iZ (Z.alloc (γ #[ι κ ((i1:Int)+1),ι κ (X:Int)] 192)).drew Z.heap.size #[ι κ ((i1:Int)+1),ι κ (X:Int)] 192:=(iZ.new Z _ _).drew;rw[HE1.out];exact Cu w y (V.lI c 0 up) D (k+1) c 1 n.n up k9 hD eh (by show c<V.nc;rw[S];exact hc) eA hMn i1 X (by show(V.C c).e 1=_;rw[hMC];exact LK) Z _ hw (hw.tab h rfl hT) hb Z.heap.size _ _ (Nat.le_refl _) ⟨U.cell 0,U.cell 1⟩
 obtain⟨nc,ui⟩:=gq (n.nc);rw[ui]at c3 c9 j0;obtain⟨m,hm⟩:=gq (n.n);rw[hm]at H0 A T⊢;obtain⟨M1,qZ⟩:=gq (V.lI c 0 up);rw[qZ]at A T;obtain⟨M2,uj⟩:=gq (n.jZ c up);rw[uj]at T⊢;clear h hT iQ wj LH hC hg hc ui hm qZ uj HE1 Zf k9 Lw hMC hMn S LJ LK
 go_in
 go_wp2
 go_loopw [27] (λx wr=>(x=ι κ 0/\iH w wr y V m) \/(x=ι κ 1/\iH w wr y M1 m) \/(x=ι κ 2/\iH w wr y M2 m)) (λx _=>2-(fa x).toNat)
 case atStart=>exact .inl ⟨rfl,H0.out⟩
 case round=>
  rcases hrel with⟨rfl,H⟩|⟨rfl,H⟩|⟨rfl,H⟩
  ·have hix:=ac4 ((i0:Int)+1) (Y:Int) ((i1:Int)+1) (X:Int);have hE:=A.out wr H;obtain⟨j,Q⟩:=gq (wr.alloc (γ #[ι κ ((i0:Int)+1),ι κ (Y:Int)] 192));obtain⟨E,M⟩:=gq (wr.heap.size);have G:j.drew.cell? ⟨E,0,ν⟩=μ (ι κ ((i0:Int)+1))/\j.drew.cell? ⟨E,1,ν⟩=μ (ι κ (Y:Int)):=by
    have U:iZ (wr.alloc (γ #[ι κ ((i0:Int)+1),ι κ (Y:Int)] 192)).drew wr.heap.size #[ι κ ((i0:Int)+1),ι κ (Y:Int)] 192:=(iZ.new wr _ _).drew;rw[Q,M]at U;exact⟨U.cell 0,U.cell 1⟩
   have El:E<j.drew.heap.size:=ag _ _ G.1;rw[Q,M]at hE;have Kg:Hid _:=Q;have VD:Hid _:=M;clear H Q M;go_wp2_with(fail)
   try rw[Kg.out]
   try rw[VD.out]
   go_region_held3(λx=>x.cell? ⟨E,0,ν⟩=μ (ι κ ((i0:Int)+1))/\x.cell? ⟨E,1,ν⟩=μ (ι κ (Y:Int)))
    (first|assumption|exact G|exact F1|exact F2)
    (first
     |(go_at_call 157;refine hE.mono ?_;rintro e w1 ⟨R,rfl,F1,hO⟩)
     |(go_at_call 20;refine hO.mono ?_;rintro e J ⟨f,rfl,F2,hP⟩))
   all_goals
    have Lx:Hid _:=hP;clear hE hO hP G F1 F2 El
    go_wp2
    go_roundw
    case rel=>exact .inr (.inl ⟨by go_num,Lx.out⟩)
    case measure=>simp[fa]
  ·have hix:=ac5 ((i0:Int)+1) (Y:Int) ((i1:Int)+1) (X:Int);have hE:=T.out wr H;obtain⟨j,Q⟩:=gq (wr.alloc (γ #[ι κ ((i1:Int)+1),ι κ (X:Int)] 192));obtain⟨E,M⟩:=gq (wr.heap.size);have G:j.drew.cell? ⟨E,0,ν⟩=μ (ι κ ((i1:Int)+1))/\j.drew.cell? ⟨E,1,ν⟩=μ (ι κ (X:Int)):=by
    have U:iZ (wr.alloc (γ #[ι κ ((i1:Int)+1),ι κ (X:Int)] 192)).drew wr.heap.size #[ι κ ((i1:Int)+1),ι κ (X:Int)] 192:=(iZ.new wr _ _).drew;rw[Q,M]at U;exact⟨U.cell 0,U.cell 1⟩
   have El:E<j.drew.heap.size:=ag _ _ G.1;rw[Q,M]at hE;have Kg:Hid _:=Q;have VD:Hid _:=M;clear H Q M;go_wp2_with(fail)
   try rw[Kg.out]
   try rw[VD.out]
   go_region_held3(λx=>x.cell? ⟨E,0,ν⟩=μ (ι κ ((i1:Int)+1))/\x.cell? ⟨E,1,ν⟩=μ (ι κ (X:Int)))
    (first|assumption|exact G|exact F1|exact F2)
    (first
     |(go_at_call 157;refine hE.mono ?_;rintro e w1 ⟨R,rfl,F1,hO⟩)
     |(go_at_call 20;refine hO.mono ?_;rintro e J ⟨f,rfl,F2,hP⟩))
   all_goals
    have Lx:Hid _:=hP;clear hE hO hP G F1 F2 El
    go_wp2
    go_roundw
    case rel=>exact .inr (.inr ⟨by go_num,Lx.out⟩)
    case measure=>simp[fa]
  ·have HQ:Hid _:=H;clear H
   go_wp2
   first|go_end0|refine iM rfl rfl ?_
   exact⟨rfl,HQ.out⟩
theorem LO(y:Yt)(n:iP)(D:Nat)(i:Int)(up:Bool)(w:dY)(h:jJ w y n)(U:jh w)(V:j5 n D 0)(hD:D<=900000000):
 eZ e7 57 #[π (μ ⟨y.N,0,ν⟩),ι κ i,.bool up] w λe w'=>e=ρ (jk (n.iL i up).2)/\iH w w' y (n.iL i up).1 n.n:=by
 have hh:=zU y n i w h;rcases NV i n.nc with S|⟨c,hc,rfl⟩
 ·have hi:i<0 \/(n.nc:Int)<=i:=by
   unfold hasB at S;by_cases h0:0<=i
   ·by_cases h1:i<(n.nc:Int)
    ·simp[h0,h1]at S
    ·omega
   ·omega
  have X:n.iL i up=(n,6):=by unfold iP.iL;rw[ai hi]
  rw[X];rw[S]at hh;have Y:Hid _:=iH.refl h;clear h V U
  go_in
  go_wp2_with(fail);refine hh.mono ?_;rintro e w1 ⟨rfl,rfl⟩;clear hh
  go_wp2
  go_ret;exact⟨rfl,Y.out⟩
 ·rw[zQ hc]at hh;have c3:=h.k3;obtain⟨a,cp,Q,T⟩:=h.cvs;obtain⟨g,J,rfl⟩:=T c hc;rw[Q]at c3;have cl:=h.yg;have c9:=h.c9;have j0:(c:Int)<(n.nc:Int):=eh;have rL:(0:Int)<=(c:Int):=eh;have G:w.cell? ⟨g,c*7+4,ν⟩=μ (.bool (n.C c).iT):=(h.rc g J c hc).cell 4 eA;have gl:=(h.rc g J c hc).lt eA;have X:n.iL (c:Int) up=if(n.C c).iT=up then(n,7)else((n.jZ c up).gather,0):=by
   unfold iP.iL;rw[af eh,Int.toNat_natCast]
  rw[X];by_cases Z:(n.C c).iT=up
  ·rw[ai Z];rw[Z]at G;have Y:Hid _:=iH.refl h;have M:(up==up)=true:=gZ;clear h V U X Z Q T
   go_in
   go_wp2_with(fail);refine hh.mono ?_;rintro e w1 ⟨rfl,rfl⟩;clear hh
   go_wp2
   go_ret;exact⟨rfl,Y.out⟩
  ·rw[af Z];have M:((n.C c).iT==up)=false:=by simpa using Z
   have H:=Ii y n D 0 c up w h U V hD eh hc;have E:=V.jZ eh hc up;have hG:Hid (∀W,iH w W y (n.jZ c up) n.n->eZ e7 111 #[π (μ ⟨y.N,0,ν⟩)] W λe w'=>e=ρ (τ #[])/\iH w w' y (n.jZ c up).gather n.n):=by
    intro W hW;refine hW.call λy1 R1 s1=> ?_;rw[<-s1.N];exact sW y1 _ _ _ W R1 E eh eh
   have e0:jk 0=η:=rfl;rw[e0];generalize (n.C c).iT=b at G M;clear h V U X Z Q T E
   go_in
   go_wp2_with(fail);refine hh.mono ?_;rintro e w1 ⟨rfl,rfl⟩;clear hh;go_wp2_with(fail);refine H.mono ?_;rintro e w1 ⟨rfl,j⟩;have A:=hG.out _ j;clear H j;go_wp2_with(fail);refine A.mono ?_;rintro e w2 ⟨rfl,vR⟩;have Y:Hid _:=vR;clear A vR
   go_wp2
   go_ret;exact⟨rfl,Y.out⟩
