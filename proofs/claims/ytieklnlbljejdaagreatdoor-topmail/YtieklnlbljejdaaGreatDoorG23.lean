import Derived.Test.YtieklnlbljejdaaGreatDoorG22
open Go.Value renaming int → ι, slice → σ, pointer → π, tuple → τ, nilIface → η
open Go.IntKind renaming i64 → κ
open Go.Ending renaming returned → ρ
open Go.Obj renaming cells → γ
open Option renaming none → ν, some → μ
open Go renaming World → eB, Calls → fj, Value → eD
open Go.Proofs.Tryz renaming prog → fk, underlying133 → ik
open Go.Value renaming ownBlock → eF
open Array renaming size_setIfInBounds → ig, length_toList → ij
open Go.Instr renaming loadAt → fO
open Go.Act renaming put → gW
open List renaming setIfInBounds_toArray → gX, set_cons_zero → gY, set_cons_succ → gZ
set_option maxRecDepth 100000
set_option maxHeartbeats 2000000
namespace Go.Proofs.YtieklnlbljejdaaGreatDoor
open Go.RowKit St
namespace Rt
variable {B:Nat->Nat} {Bb RR k n:Nat} {id:Int} {m:FM} {ms:Nat->Int} {v:Value} {wb:World}
theorem xt(p:jF)(up:Bool):((p.iW up).1.m=p.m/\(p.iW up).1.pe=p.pe)/\((p.iW up).2≠0->(p.iW up).1=p):=by
 unfold jF.iW;generalize k7 p.L (if up=true then 0 else 1)=e;simp only;by_cases h:e.2.2=0
 ·rw[ae (by simp[h])];exact⟨ve _ _,λe=>absurd rfl e⟩
 ·rw[ag h];exact⟨⟨rfl,rfl⟩,λ_=>rfl⟩
theorem OW(z:Zt)(r:iY)(k:Nat)(t:Int)(tx:ByteArray)(w:eB)(h:lW w z r)(jb:lp r)(hf:Fit r k)(hk:k<=100000):
 fj fk 27 #[π (μ ⟨z.R,0,ν⟩),ι κ t,.string tx] w λe w'=>e=ρ (jy (kg r t tx.data.toList).2)/\iU w w' z (kg r t tx.data.toList).1 r.n:=by
 have hl:tx.data.toList.length=tx.size:=iC;by_cases h1:t<1
 ·have hE:kg r t tx.data.toList=(r,1):=by unfold kg;rw[ag (.inl h1)]
  rw[hE];have HW:Hid _:=iU.refl h;clear h jb hf
  go_in
  go_wp2
  go_ret;exact⟨rfl,HW.out⟩
 ·by_cases h2:6<t
  ·have hE:kg r t tx.data.toList=(r,1):=by unfold kg;rw[ag (.inr (.inl h2))]
   rw[hE];have HW:Hid _:=iU.refl h;clear h jb hf
   go_in
   go_wp2
   go_ret;exact⟨rfl,HW.out⟩
  ·by_cases h3:(20:Int)<(tx.size:Int)
   ·have hE:kg r t tx.data.toList=(r,1):=by unfold kg;rw[ag (.inr (.inr eE))]
    rw[hE];have HW:Hid _:=iU.refl h;clear h jb hf
    go_in
    go_wp2
    go_ret;exact⟨rfl,HW.out⟩
   ·have hE:kg r t tx.data.toList=(r.send (t,8,tx.data.toList),0):=by unfold kg;rw[ae eE]
    rw[hE];have hs:=CF z r k t 8 tx w h jb hf hk eE eE eE;clear h jb hf
    go_in
    go_wp2_with(fail);refine hs.mono ?_;rintro e w1 ⟨rfl,hw⟩;clear hs
    go_wp2
    go_ret;exact⟨rfl,hw⟩
theorem OX(up:Bool)(z:Zt)(r:iY)(i k:Nat)(w:eB)(h:lW w z r)(CG:jo w)(jb:lp r)(hf:Fit r k)(hk:k<=100000)(hi:i<r.n):
 fj fk 20 #[π (μ ⟨z.R,0,ν⟩),ι κ (i:Int),.bool up] w λe w'=>e=ρ (jy (r.iW i up).2)/\iU w w' z (r.iW i up).1 r.n:=by
 have hh:=Cr z r i w h;rw[ya hi]at hh;have lO:(i:Int)<(r.n:Int):=eE;have NR:(0:Int)<=(i:Int):=eE;have c1:=h.c1;have cl:=h.lt;have gl:=h.G6;have Bh:=Oq up z.g (i*71) (z.B i) (z.v i) (r.P i) w (h.pt i hi) CG (by have:=hf.out i hi;omega);have hE:r.iW i up=if((r.P i).iW up).2≠0 then(r,((r.P i).iW up).2)else((r.jd i ((r.P i).iW up).1).meet i nobody,0):=rfl
 have hpm:=(xt (r.P i) up).1;have uL:=(xt (r.P i) up).2;have zU:r.jd i (r.P i)=r:=by
  have:k8 r.P i (r.P i)=r.P:=by
   funext x
   unfold k8;by_cases e:x=i
   ·simp[e]
   ·simp[e]
  show({r with P:=k8 r.P i (r.P i)}:iY)=r;rw[this]
 obtain⟨p1,DK⟩:=gH (((r.P i).iW up).1);obtain⟨f,hfe⟩:=gH (((r.P i).iW up).2);rw[DK,hfe]at Bh hE;rw[DK]at hpm uL;rw[hfe]at uL;have HR:Hid _:=h;have kN:Hid (lp (r.jd i p1)):=jb.jd i _ hpm.1 (λhi=>by rw[hpm.2];exact jb.pe i hi);clear h jb hf CG;by_cases h0:f=0
 ·subst h0;rw[ae iC]at hE;rw[hE];have e0:jy 0=η:=rfl;rw[e0]at Bh⊢
  go_in
  go_wp2_with(fail);refine hh.mono ?_;rintro e w0 ⟨rfl,rfl⟩;clear hh;go_wp2_with(fail);refine Bh.mono ?_;rintro e w1 ⟨rfl,l7⟩;have ke:=HR.out.port hi l7;have hm:fj fk 74 #[π (μ ⟨z.R,0,ν⟩),ι κ (i:Int),.agg #[ι κ 0,.bool false,ι κ 0]] w1 λe w'=>e=ρ (τ #[])/\iU w w' z ((r.jd i p1).meet i nobody) r.n:=by
   refine ke.call λz1 R1 hl=> ?_;rw[<-hl.R];exact uV z1 _ i nobody w1 R1 kN.out hi (nV.nobody kN.out.id.1)
  clear Bh l7 ke;go_wp2_with(fail);refine hm.mono ?_;rintro e w2 ⟨rfl,sT⟩;clear hm
  go_wp2
  go_ret;exact⟨rfl,sT⟩
 ·rw[ag h0]at hE;rw[hE];have hb:=uL h0;have ee:jy f=.iface 128 (ι κ (f:Int)):=by simp only[jy];rw[ae h0]
  rw[ee]at Bh⊢
  go_in
  go_wp2_with(fail);refine hh.mono ?_;rintro e w0 ⟨rfl,rfl⟩;clear hh;go_wp2_with(fail);refine Bh.mono ?_;rintro e w1 ⟨rfl,l7⟩;have ke:=HR.out.port hi l7;rw[hb,zU]at ke;clear Bh l7
  go_wp2
  go_ret;exact⟨rfl,ke⟩
theorem OY(z:Zt)(r:iY)(w:eB)(h:lW w z r):
 fj fk 32 #[π (μ ⟨z.R,0,ν⟩)] w λe w'=>e=ρ z.iv/\Row w' 3 z.iv r.jA.length (nh r.jA)/\iU w w' z {r with jA:=[] } r.n:=by
 have c3:=h.c3;have cl:=h.lt;have f3:=h.nN.frozen 3;have HR:Hid _:=h;clear h
 go_in
 go_wp2
 go_ret;refine⟨rfl,HR.out.ib.keep iC (λk hk=>ak _ _ _ k (by show k≠z.R;exact(HR.out.sI k hk).1)),?_⟩;exact HR.out.own (σ ν 0 0) [] r.drop iC rfl rfl rfl (λk _ h1 _=>ak _ _ _ k h1) (HR.out.nN.set 3 _) (Row.nil _ 3) (λk hk=>by simp[eF]at hk)
theorem SA(z:Zt)(r:iY)(i:Nat)(w:eB)(h:lW w z r)(hi:i<r.n):
 fj fk 29 #[π (μ ⟨z.R,0,ν⟩),ι κ (i:Int)] w λe w'=>e=ρ (τ #[.string ⟨(r.P i).out.toArray⟩,η])/\iU w w' z (r.out i) r.n:=by
 have hh:=Cr z r i w h;rw[ya hi]at hh;have lO:(i:Int)<(r.n:Int):=eE;have NR:(0:Int)<=(i:Int):=eE;have c1:=h.c1;have cl:=h.lt;have gl:=h.G6;have hp:=h.pt i hi;have g70:=hp.YJ;have f70:=hp.fz 70 eH;have uM:=Row.back hp.ou 140 9 5 aQ bK a8;have hW:lz w (w.setCell ⟨z.g,i*71+70,ν⟩ (σ ν 0 0)) z.g (i*71) (z.B i) (z.v i) {r.P i with out:=[] }:=by
  obtain⟨F,hC,hF⟩:=hp.vN;have hk:=(lb.refl w z.g (i*71) 71).set (i*71+70) eE eE (σ ν 0 0);refine⟨⟨σ ν 0 0,⟨⟨F,(hC.set 70 eH (σ ν 0 0)).congr (MN (r.P i) (z.B i) (z.v i) (σ ν 0 0) F []),hF⟩,hp.lk.keep (hk.block _ hp.lk.lt (λe=>hp.gB e.symm)),Row.nil _ 1,iC,hp.ok,hp.gB,by simp[eF],by simp[eF],⟨hp.nz.1,hp.nz.2.1,by simp[eF]⟩⟩,λk hk=>by simp[eF]at hk⟩,⟨hk.os,hk.tape,hk.output,hk.size,λj hj h1 _ _=>hk.block j hj h1,hk.cell,hk.fz⟩⟩
 have HW:Hid (iU w (w.setCell ⟨z.g,i*71+70,ν⟩ (σ ν 0 0)) z (r.out i) r.n):=h.port hi hW;generalize (r.P i).out=L at uM⊢;generalize z.v i=v at g70 uM;clear h hp hW
 go_in
 go_wp2_with(fail);refine hh.mono ?_;rintro e w0 ⟨rfl,rfl⟩;clear hh
 go_wp2
 go_ret2
 exact⟨rfl,HW.out⟩
def zn(m mg:Int):jF:=⟨m,⟨255,mg,255,mg,0,0,1,255,0,0,0⟩,([],false,false),nobody,[]⟩
theorem I1(m mg:Int)(w:eB)(hT:jo w)(hm:1<=m/\m<=20)(hg:1<=mg/\mg<=255):
 fj fk 68 #[ι κ m,ι κ mg] w λe w'=>∃B,e=ρ (τ #[.agg (rowOf 71 (vM (zn m mg) B (σ ν 0 0) Kx)),η])/\Lk w' B ((zn m mg).L.c (σ ν 0 0))/\w.heap.size<B/\eN w w':=by
 have hz:=KZ;have qI:=K0;obtain⟨Zp,Qc⟩:=gH (rowOf 71 YT);have Ou:Zp.size=71:=by rw[<-Qc];exact mC _ _
 rw[Qc]at hz;have agK:¬Zp= #[] :=λe=>by rw[e]at Ou;simp at Ou
 have ba:=iB w (γ Zp 142);have A7:jr (w.alloc (γ Zp 142)) w.heap.size Zp 142:=jr.new w _ _;have WD:=hT.below ba;have hln:=Vf 255 mg (w.alloc (γ Zp 142)) eE eE eE eE;obtain⟨W0,nL⟩:=gH (w.alloc (γ Zp 142));obtain⟨N,hN⟩:=gH (w.heap.size);have hNs:N<W0.heap.size:=by rw[<-nL,<-hN];simp
 rw[nL]at ba A7 hln WD;rw[hN]at A7;have g1:¬m<1:=eE;have g2:¬20<m:=eE;have D3:Hid _:=nL;have HN:Hid _:=hN;have HB0:Hid _:=A7;have HZ:Hid _:=Qc;clear nL hN A7 Qc
 go_in
 go_wp2_with(fail);rw[D3.out,HN.out];refine hln.mono ?_;rintro e w1 ⟨B,rfl,hL,hBg,b1⟩;have Xl:=RK B 255 mg 255 mg 0 0 255 0 0 0 (σ ν 0 0) w1 (WD.below b1) hL;clear hln hL;go_wp2_with(fail);refine Xl.mono ?_;rintro e w2 ⟨rfl,hL2,vZ⟩;obtain⟨D,hD⟩:=gH ((Zp.setIfInBounds 0 (Value.int .i64 m)).setIfInBounds 1 (Value.pointer (μ ⟨B,0,ν⟩)));have G7:D.size=71:=by rw[<-hD];simp[Ou]
 have hDe:Hid (D=rowOf 71 (vM (zn m mg) B (σ ν 0 0) Kx)):=by
  show _=_;rw[<-hD,<-HZ.out];apply bV;intro j;by_cases hj:j<71
  ·rw[rA 71 _ j hj,bh,bh,rA 71 _ j hj];simp only[ig,mC];by_cases e1:j=1
   ·subst e1;simp[vM]
   ·by_cases e0:j=0
    ·subst e0;simp[vM,zn]
    ·rw[ae (λe=>e1 e.symm),ae (λe=>e0 e.symm)];congr 1;unfold YT vM;simp only[e0,e1,if_false];rfl
  ·rw[aZ (by simp[mC];omega),aZ (by rw[mC];omega)]
 have pE:D.all (·.oneCell')=true:=by rw[hDe.out];exact Ga Bc.zero rfl
 have hNB:N≠B:=eE;have hBk:jr w2 N Zp 142:=by
  have h1:=jr.below HB0.out b1;exact h1.keep (vZ.block N h1.lt (λe=>hNB (Option.some.inj e)))
 have hR:jr (w2.setRow N D) N D 142:=hBk.setRow;have Uq:Lk (w2.setRow N D) B ((zn m mg).L.c (σ ν 0 0)):=hL2.keep (by simp only[World.setRow];rw[cH,ae hNB]);have l6:=bP (P:=fk) (w2.setRow N D) N 142 142 D (0,0) _ hR dB rfl (by rw[G7];exact qI);have ja:Hid (eN w (w2.setRow N D)):=by
  have h1:=iA ba b1;have h2:eN w w2:=⟨vZ.os.trans h1.os,vZ.tape.trans h1.tape,vZ.output.trans h1.output,Nat.le_trans h1.size vZ.size,λj hj=>(vZ.block j (Nat.lt_of_lt_of_le hj h1.size) (λe=>by have e2:j=B:=Option.some.inj e;have:=HN.out;omega)).trans (h1.block j hj)⟩
  exact Go.Proofs.YtieklnlbljejdaaGreatDoor.oe h2 (by have:=HN.out;omega) D
 have HL3:Hid _:=Uq;clear Xl hL2 vZ Uq hR;go_wp2_with(first
  |(rw[hD];refine nP _ rfl (.tmp 4) (.tmp 29) 142 rfl rfl N Zp D rfl rfl hBk (by rw[Ou,G7]) (by rw[G7];exact qI) pE ?_)
  |(refine nP _ rfl (.tmp 4) (.tmp 29) 142 rfl rfl N Zp D rfl rfl hBk (by rw[Ou,G7]) (by rw[G7];exact qI) pE ?_))
 refine aj (v:=τ #[.agg D,η]) (by simp[results,Tryz.results68,asAddr,l6]) rfl ?_;exact⟨B,by rw[hDe.out],HL3.out,by have:=HN.out;omega,ja.out⟩
theorem yg:∀(l:List eD) (k:Nat) (base:Array eD) (j:Nat),k+l.length<=base.size->((l.zipIdx k).foldl (λcs (x:eD×Nat)=>cs.setIfInBounds x.2 x.1) base)[j]? =if k<=j/\j<k+l.length then l[j-k]? else base[j]?
 |[],k,base,j,_=>by
  rw[ae iC];rfl
 |x::l,k,base,j,h=>by
  have h':k+1+l.length<=base.size:=by simp at h;omega
  rw[List.zipIdx_cons,bQ,yg l (k+1) (base.setIfInBounds k x) j (by rw[ig];exact h')];by_cases h1:k+1<=j/\j<k+1+l.length
  ·rw[ag h1,ag (by simp;omega),show j-k=(j-(k+1))+1 by omega,List.getElem?_cons_succ]
  ·rw[ae h1,bh];by_cases h2:k=j
   ·subst h2;rw[ag rfl,ag eE,ag iC];simp
   ·rw[ae h2,ae (by simp;omega)]
theorem CK(D base:Array eD)(h:base.size=D.size)(n:Nat)(hn:D.size=n):Array.foldl (λcs (x:eD×Nat)=>cs.setIfInBounds x.2 x.1) base D.zipIdx 0 n=D:=by
 have hs:D.zipIdx.size=n:=by rw[Array.size_zipIdx,hn]
 rw[<-hs,<-Array.foldl_toList,Array.toList_zipIdx];apply bV;intro j;rw[yg D.toList 0 base j (by simp;omega)];by_cases hj:j<D.size
 ·rw[ag (by simp;omega)];simp
 ·rw[ae (by simp;omega),aZ eE,aZ eE]
theorem SB:(fk.info? 142).map (λi=>(i.zero,i.size,i.bytes))=μ (μ (.agg (rowOf 71 YT)),71,144):=gT
def xu(id:Int)(ms:Nat->Int)(B:Nat->Nat):Nat->List eD
 |0=>[]
 |q+1=>xu id ms B q++(rowOf 71 (vM (zn (ms q) (8*id+q+1)) (B q) (.slice none 0 0) Kx)).toList
theorem vh(id:Int)(ms:Nat->Int)(B:Nat->Nat):∀q,(xu id ms B q).length=q*71
 |0=>rfl
 |q+1=>by
  unfold xu;rw[aA,vh id ms B q,ij,mC];omega
theorem MW(id:Int)(ms:Nat->Int)(B:Nat->Nat):∀(q i j:Nat),i<q->j<71->(xu id ms B q)[i*71+j]? =μ (vM (zn (ms i) (8*id+i+1)) (B i) (σ ν 0 0) Kx j)
 |0,i,j,h,_=>eE
 |q+1,i,j,h,hj=>by
  unfold xu;have hl:=vh id ms B q;by_cases e:i=q
  ·subst e;rw[bz eE,hl,show i*71+j-i*71=j by omega];simpa using rA 71 (vM (zn (ms i) (8*id+i+1)) (B i) (σ ν 0 0) Kx) j hj
  ·rw[bL eE];exact MW id ms B q i j eE hj
structure Making(wb W:eB)(id:Int)(ms:Nat->Int)(q R Bb:Nat)(B:Nat->Nat)(v:eD):Prop where
 nN:jr W R #[ι κ id,v,π (μ ⟨Bb,0,ν⟩),σ ν 0 0,ι κ 0] 135
 row:Row W 71 v q (xu id ms B q)
 lk:∀i,i<q->Lk W (B i) ((zn (ms i) (8*id+i+1)).L.c (σ ν 0 0))
 nU:eN wb W
 gR:wb.heap.size<=R
 gB:∀i,i<q->wb.heap.size<=B i/\B i≠R/\v.ownBlock≠μ (B i)
 gV:∀k,v.ownBlock=μ k->wb.heap.size<=k/\k≠R
 dis:∀i j,i<q->j<q->i≠j->B i≠B j
theorem Making.below {wb W W':eB} {id:Int} {ms:Nat->Int} {q R Bb:Nat} {B:Nat->Nat} {v:eD} (h:Making wb W id ms q R Bb B v)(hb:eN W W'):Making wb W' id ms q R Bb B v:=
 ⟨h.nN.below hb,h.row.below hb,λi hi=>(h.lk i hi).below hb,iA h.nU hb,h.gR,h.gB,h.gV,h.dis⟩
theorem CL(id:Int)(ms:Nat->Int)(B B':Nat->Nat):∀q,(∀i,i<q->B i=B' i)->xu id ms B q=xu id ms B' q
 |0,_=>rfl
 |q+1,h=>by
  unfold xu;rw[CL id ms B B' q (λi hi=>h i eE),h q eE]
theorem CM(w:eB)(D:Array eD)(t:TypeId)(g:Nat)(hg:w.heap.size=g):∀(j:Nat) (u:eD),D.toList[j]? =μ u->(w.alloc (γ D t)).drew.cell? ((⟨g,0,ν⟩:Addr).add j)=μ u:=by
 subst hg;intro j u hu;rw[add_plain];show(w.alloc (γ D t)).cell? _=_;rw[aq];simpa using hu
theorem Making.add {W2 x1:eB} {q:Nat} {B' g' jL:Nat} {D:Array eD} {o:Obj} (h:Making wb W2 id ms q RR Bb B v)(hD:rowOf 71 (vM (zn (ms q) (8*id+q+1)) B' (σ ν 0 0) Kx)=D)
 (hL:Lk W2 B' ((zn (ms q) (8*id+q+1)).L.c (σ ν 0 0))) (wi:wb.heap.size<=B') (DB:B'≠RR) (Qb:v.ownBlock≠μ B') (JZ:∀i,i<q->B i≠B')
 (hr:Row x1 71 (σ (μ ⟨g',0,ν⟩) (q+1) jL) (q+1) (xu id ms B q++D.toList)) (hg:(W2.alloc o).drew.grownBy x1 v.ownBlock) (jC:v.ownBlock=μ g' \/(W2.alloc o).drew.heap.size<=g'):
 Making wb (x1.setCell ⟨RR,1,ν⟩ (σ (μ ⟨g',0,ν⟩) (q+1) jL)) id ms (q+1) RR Bb (λi=>if i=q then B' else B i) (σ (μ ⟨g',0,ν⟩) (q+1) jL):=by
 have kV:v.ownBlock=μ g' \/W2.heap.size<=g':=jC.imp_right (λe=>Nat.le_trans (by show W2.heap.size<=(W2.alloc o).heap.size;simp) e);have hO:v.ownBlock≠μ RR:=λe=>(h.gV _ e).2 rfl;have SC:∀k,k<W2.heap.size->v.ownBlock≠μ k->k≠RR->(x1.setCell ⟨RR,1,ν⟩ (σ (μ ⟨g',0,ν⟩) (q+1) jL)).heap[k]? =W2.heap[k]? :=by
  intro k hk h1 h2;rw[ak _ _ _ k h2,hg.block k (by show k<(W2.alloc o).heap.size;simp;omega) (λe=>h1 e.symm)];exact aT W2 o k hk
 have qI:W2.heap.size<=x1.heap.size:=Nat.le_trans (by show W2.heap.size<=(W2.alloc o).heap.size;simp) hg.size;have hRl:=h.nN.lt;have Vx:g'≠RR:=by
  intro e;rcases kV with e1|e1
  ·exact hO (by rw[e1,e])
  ·omega
 have hwb:=h.nU.size;refine⟨(sS h.nN hg hO).set 1 _,?_,λi hi=> ?_,⟨hg.os.trans h.nU.os,hg.tape.trans h.nU.tape,hg.output.trans h.nU.output,Nat.le_trans hwb (by simpa using qI),λk hk=> ?_⟩,h.gR,λi hi=> ?_,λk hk=> ?_,λi j hi hj hij=> ?_⟩
 ·have e1:xu id ms (λi=>if i=q then B' else B i) (q+1)=xu id ms B q++D.toList:=by
   show xu id ms (λi=>if i=q then B' else B i) q++_=_;rw[CL id ms _ B q (λi hi=>by simp[show i≠q by omega])];simp only[if_true];rw[hD]
  rw[e1];exact hr.keep iC (λk hk=>ak _ _ _ k (by
   have wa:g'=k:=by simpa[eF]using hk
   show k≠RR;omega))
 ·by_cases e:i=q
  ·subst e;simp only[if_true];exact hL.keep (SC B' hL.lt Qb DB)
  ·simp only[e,if_false];have hl:=h.lk i eE;exact hl.keep (SC (B i) hl.lt (h.gB i eE).2.2 (h.gB i eE).2.1)
 ·exact(SC k eE (λe=>by have:=(h.gV k e).1;omega) (by have:=h.gR;omega)).trans (h.nU.block k hk)
 ·have hv':∀k,k<W2.heap.size->v.ownBlock≠μ k->eF (σ (μ ⟨g',0,ν⟩) (q+1) jL)≠μ k:=by
   intro k hk h1 e;have wa:g'=k:=by simpa[eF]using e
   rcases kV with e1|e1
   ·exact h1 (by rw[e1,wa])
   ·omega
  by_cases e:i=q
  ·subst e;simp only[if_true];exact⟨wi,DB,hv' B' hL.lt Qb⟩
  ·simp only[e,if_false];have hb:=h.gB i eE;exact⟨hb.1,hb.2.1,hv' (B i) (h.lk i eE).lt hb.2.2⟩
 ·have wa:g'=k:=by simpa[eF]using hk
  subst wa;refine⟨?_,Vx⟩;rcases kV with e1|e1
  ·exact(h.gV _ e1).1
  ·omega
 ·by_cases e1:i=q
  ·have e2:j≠q:=eE;simp only[e1,e2,if_true,if_false];exact λe=>JZ j eE e.symm
  ·by_cases e2:j=q
   ·simp only[e1,e2,if_true,if_false];exact JZ i eE
   ·simp only[e1,e2,if_false];exact h.dis i j eE eE hij
theorem VD {m mg:Int} (hg:1<=mg/\mg<=255):yJ (zn m mg).L:=⟨by show wk 1 0 0=true;decide,by show(0:Int)<=0;omega,by show(0:Int)<=255;omega,by show 0<=mg;omega,by show mg<=255;omega,by show 0<=mg;omega,by show mg<=255;omega⟩
def AW(R g cap Bb:Nat)(B:Nat->Nat)(m:FM)(n:Nat):Zt:=⟨R,g,cap,B,λ_=>σ ν 0 0,Bb,{m with no:=λk=>m.no k \/k=R \/k=g \/ ∃i,i<n/\k=B i},σ ν 0 0⟩
theorem EP {R g cap:Nat} (h:(AW R g cap Bb B m n).mine n k):k=R \/k=g \/ ∃i,i<n/\k=B i:=by
 rcases h with e|e|⟨i,hi,e|e⟩|e
 ·exact .inl e
 ·exact .inr (.inl e)
 ·exact .inr (.inr ⟨i,hi,e⟩)
 ·simp[AW,eF]at e
 ·simp[AW,eF]at e
theorem Making.done {W:eB} (h:Making wb W id ms n RR Bb B v)(hn:1<=n/\n<=3)(rO:1<=id/\id<=6)(hT:jo wb)
 (hB:BR wb Bb m k (λx=>if x=id then μ (1,[])else ν) (λ_ x=>if x=id then μ (1,[])else ν)) (mr:¬m.no Bb/\¬m.no m.g/\∀b,(b=m.bm \/b∈m.bs)->¬m.no b) (pO:m.bs.length=n):
 ∃g cap,v=σ (μ ⟨g,0,ν⟩) n cap/\lW W (AW RR g cap Bb B m n) (jX id n ms)/\wb.heap.size<=g:=by
 rcases h.row.2 with⟨_,h0⟩|⟨g,cap,rfl,MA,Ib,aly,hc,hf⟩
 ·omega
 have hgv:=h.gV g rfl;have h0:=hT.lt;have YP:Bb<wb.heap.size:=by obtain⟨_,_,hF,_⟩:=hB.ex;exact hF.lt
 have YQ:m.g<wb.heap.size:=by obtain⟨_,_,hF,_⟩:=hB.ex;exact hF.row.lt _ rfl
 have SD:∀j,(j=RR \/j=g \/ ∃i,i<n/\j=B i)->wb.heap.size<=j/\j<W.heap.size:=by
  intro j hj;rcases hj with rfl|rfl|⟨i,hi,rfl⟩
  ·exact⟨h.gR,h.nN.lt⟩
  ·exact⟨hgv.1,MA⟩
  ·exact⟨(h.gB i hi).1,(h.lk i hi).lt⟩
 have Cb:=hB.still h.nU.size (λj hj _=>h.nU.block j hj) mr.1 mr.2.1 mr.2.2 (λj=>m.no j \/j=RR \/j=g \/ ∃i,i<n/\j=B i) (λj hj=>hj.imp_right (λe=>(SD j e).1)) (λj hj=>hj.elim (λe=>Nat.lt_of_lt_of_le (hB.Oh j e) h.nU.size) (λe=>(SD j e).2));have hlen:=vh id ms B n;refine⟨g,cap,rfl,⟨hn.1,hn.2,Ib,rO,h.nN,λi hi=> ?_,Row.nil _ 3,Cb.six,pO,λj hj=>.inr (EP hj),⟨λe=> ?_,λe=> ?_,λb hb e=> ?_⟩,⟨λe=>hgv.2 e.symm,by have:=h.gR;show RR≠0;omega,λi hi=>⟨(h.gB i hi).2.1,by simp[AW,eF]⟩⟩,λi j hi hj hij=>⟨h.dis i j hi hj hij,λk hk=>by simp[AW,eF]at hk⟩,λi j _ _=>by simp[AW,eF],λk hk=>by simp[AW,eF]at hk,⟨by simp[AW,eF],λb hb e=> ?_⟩⟩,hgv.1⟩
 ·have lO:i<n:=hi;have hBi:=h.gB i lO;refine⟨⟨Kx,λj hj=>⟨?_,?_⟩,Bc.zero⟩,h.lk i lO,Row.nil _ 1,by show(0:Nat)<=_;omega,VD (m:=ms i) (mg:=8*id+i+1) eE,λe=>hBi.2.2 (by show μ g=μ (B i);rw[show g=B i from e]),by simp[AW,eF],by simp[AW,eF],⟨by show g≠0;omega,by show B i≠0;omega,by simp[AW,eF]⟩⟩
  ·exact hc (i*71+j) _ (MW id ms B n i j lO hj)
  ·exact(hf (i*71+j) (by have:(i+1)*71<=cap*71:=Nat.mul_le_mul_right 71 eE;omega)).2
 ·rcases e with e|e
  ·exact mr.1 e
  ·have:=(SD _ e).1;have h9:wb.heap.size<=Bb:=this;omega
 ·rcases e with e|e
  ·exact mr.2.1 e
  ·have:=(SD _ e).1;have h9:wb.heap.size<=m.g:=this;omega
 ·rcases e with e|e
  ·exact mr.2.2 b hb e
  ·have h8:=(SD b e).1;have h9:=hB.mlt b hb;omega
 ·exact pD (hT 0 0 eH eH) (hB.maps b hb) e.symm
theorem SE(id:Int)(b off n cap:Nat)(ms:Nat->Int)(w:eB)(hT:jo w)(rO:1<=id/\id<=6)(hn:1<=n/\n<=3)(Xi:∀i,i<n->w.cell? ⟨b,off+i,ν⟩=μ (ι κ (ms i)))(hm:∀i,i<n->1<=ms i/\ms i<=20)(X:Nat->Prop)(hX:∀k,X k->k<w.heap.size):
 fj fk 17 #[ι κ id,σ (μ ⟨b,off,ν⟩) n cap] w λe w'=>∃z,e=ρ (τ #[π (μ ⟨z.R,0,ν⟩),η])/\lW w' z (jX id n ms)/\eN w w'/\(∀k,z.mine n k->w.heap.size<=k)/\w.heap.size<=z.fm.bm/\(∀x∈z.fm.bs,w.heap.size<=x)/\∀k,X k->z.fm.no k:=by
 have hz:=KZ;have qI:=K0;obtain⟨i0,hi,oz,mW,nT⟩:=aW SB;obtain⟨Zp,Qc⟩:=gH (rowOf 71 YT);have Ou:Zp.size=71:=by rw[<-Qc];exact mC _ _
 rw[Qc]at hz oz;have agK:¬Zp= #[] :=λe=>by rw[e]at Ou;simp at Ou
 have hnb:=RN n w hn;have g1:¬id<1:=eE;have g2:¬6<id:=eE;clear Qc
 go_in
 go_wp2_with(fail);refine hnb.mono ?_;rintro e w1 ⟨rfl,m,Mg,wi,b1,m1,m2,m3⟩;have wi:=wi.avoid X (λk e=>Nat.lt_of_lt_of_le (hX k e) b1.size);obtain⟨m',VE⟩:∃m':FM,({m with no:=X}:FM)=m':=⟨_,rfl⟩
 have mr:m'.no=X:=by rw[<-VE]
 have Mg:m'.bs.length=n:=by rw[<-VE];exact Mg
 have m1:w.heap.size<=m'.bm:=by rw[<-VE];exact m1
 have m3:∀x∈m'.bs,w.heap.size<=x:=by rw[<-VE];exact m3
 have m2:w.heap.size<=m'.g:=by rw[<-VE];exact m2
 rw[VE]at wi;have Xm:=IA (w.heap.size+1) m' 0 (λ_=>ν) (λ_ _=>ν) id 1 ν 0 0 [] w1 wi (qY eE) ⟨rfl,.inl rfl⟩ (λ_=>rfl) eE (by unfold pj;rw[ae eE];rfl);clear hnb;go_wp2_with(fail);refine Xm.mono ?_;rintro e wb ⟨rfl,hBR,hKM⟩;clear Xm;have bb:eN w wb:=jN.below b1 hKM m1 m3;have H0:Making wb (wb.alloc (γ #[ι κ id,σ ν 0 0,π (μ ⟨w.heap.size+1,0,ν⟩),σ ν 0 0,ι κ 0] 135)) id ms 0 wb.heap.size (w.heap.size+1) (λ_=>0) (σ ν 0 0):=⟨jr.new wb _ _,Row.nil _ _,λi hi=>eE,iB _ _,Nat.le_refl _,λi hi=>eE,λk hk=>by simp[eF]at hk,λi j hi=>eE⟩
 have J6:∀W,eN wb W->∀i,i<n->W.cell? ⟨b,off+i,ν⟩=μ (ι κ (ms i)):=λW hW i hi=>by
  have hc:=(ai (a:=⟨b,off+i,ν⟩) (bb.block b (af _ _ (Xi i hi)))).trans (Xi i hi);exact(ai (a:=⟨b,off+i,ν⟩) (hW.block b (af _ _ hc))).trans hc
 have hTb:jo wb:=hT.below bb;have HBR:Hid _:=hBR;have YV:Hid _:=bb;have HCM:Hid _:=J6;have HH0:Hid _:=H0;have HMM:Hid (w.heap.size<=m'.bm/\(∀x∈m'.bs,w.heap.size<=x)/\m'.bs.length=n/\(¬m'.no (w.heap.size+1)/\¬m'.no m'.g/\∀b,(b=m'.bm \/b∈m'.bs)->¬m'.no b)/\∀k,X k->m'.no k):=by
  refine⟨m1,m3,Mg,⟨λe=> ?_,λe=> ?_,λb hb e=> ?_⟩,λk hk=>by rw[mr];exact hk⟩
  ·rw[mr]at e;have h1:=hX _ e;omega
  ·rw[mr]at e;have h1:=hX _ e;omega
  ·rw[mr]at e;have h1:=hX _ e;rcases hb with rfl|hb
   ·omega
   ·have h2:=m3 b hb;omega
 obtain⟨Bb,J0⟩:=gH (w.heap.size+1);rw[J0]at HH0 HBR HMM;clear hBR bb J6 H0 b1 hKM wi m1 m2 m3 Mg Xi mr VE;go_wp2_with(fail)
 try rw[J0]
 obtain⟨RR,Ze⟩:=gH (wb.heap.size);rw[Ze]at HH0;rw[Ze];have HRR:Hid _:=Ze;have mM:=hn.1;have xF:=hn.2;have agP:=rO.1;have Zf:=rO.2;clear hn rO Ze
 go_loopw [39] (λx wr=>∃(q:Nat) (B:Nat->Nat) (v:eD),q<=n/\x=ι κ q/\Making wb wr id ms q RR Bb B v) (λx _=>n-(intOf x).toNat)
 case atStart=>exact⟨0,_,_,Nat.zero_le _,rfl,HH0.out⟩
 case round=>
  obtain⟨q,B,v,hq,rfl,hM⟩:=hrel;by_cases kH:q<n
  ·have nG:(q:Int)<(n:Int):=eE;have hq0:(0:Int)<=(q:Int):=eE;have hmc:=HCM.out _ hM.nU q kH;have Mg:=af _ _ hmc;have hmq:=hm q kH;have hnp:=I1 (ms q) (8*id+q+1) wr (hTb.below hM.nU) hmq eE;have HM:Hid _:=hM;clear hM;go_wp2_with(fail);refine hnp.mono ?_;rintro e w1 ⟨B',rfl,hLk,hBg,bN⟩;clear hnp;obtain⟨D,hD⟩:=gH (rowOf 71 (vM (zn (ms q) (8*id+q+1)) B' (σ ν 0 0) Kx));have G7:D.size=71:=by rw[<-hD];exact mC _ _
   have pE:D.all (·.oneCell')=true:=by rw[<-hD];exact Ga Bc.zero rfl
   have hDl:D.toList.length=1*71:=by rw[ij,G7]
   have Xn:∀u∈D.toList,u.oneCell'=true:=λu hu=>(cg.1 pE) u (by simpa using hu);rw[hD];have jw:=dX w1 Zp D 142;have M1:=HM.out.below bN;have bA:=iB w1 (γ D 142);have M2:=M1.below bA;have hV:jr (w1.alloc (γ D 142)) w1.heap.size D 142:=jr.new _ _ _;have Zg:=hLk.below bA;go_wp2_with(refine nP _ rfl (.tmp 11) (.tmp 52) 142 rfl rfl w1.heap.size Zp D rfl rfl (jr.new _ _ _) (by rw[Ou,G7]) (by rw[G7];exact qI) pE ?_;rw[jw]);obtain⟨W2,nH⟩:=gH (w1.alloc (γ D 142));obtain⟨Y,hY⟩:=gH (w1.heap.size);rw[nH]at M2 hV Zg;rw[hY]at hV;rw[nH,hY];have hBf:B'<Y:=by rw[<-hY];exact hLk.lt
   have hMY:wb.heap.size<=B':=by have h1:=HM.out.nU.size;omega
   have c1:W2.cell? ⟨RR,1,ν⟩=μ v:=M2.nN.cell 1;have cl:=M2.nN.lt;have nR:=M2.nN;have ji:=M2.row;have HO:Hid (v.ownBlock≠μ RR):=λe=>(M2.gV _ e).2 rfl;have Oc:Hid _:=M2;have alC:wr.heap.size<B':=hBg;have HOY:Hid (v.ownBlock≠μ Y):=λe=>by have h1:=M1.row.lt Y e;omega
   have agR:RR<Y:=by have h1:=M1.nN.lt;omega
   clear jw M1 bA M2 nH hLk bN;have hYR:Y≠RR:=by intro e;have h1:=agR;omega
   have Gj:jr (W2.alloc (γ D 142)).drew Y D 142:=jr.below hV (jO (iB _ _));have c1b:(W2.alloc (γ D 142)).drew.cell? ⟨RR,1,ν⟩=μ v:=mD c1;have kD:∀wS:eB,jr wS Y D 142->(fO 142 (π (μ ⟨Y,0,ν⟩))).run fk wS=.ok (.agg D) wS:=λwS hS=>by
    simp only[fO,Instr.sureAddr,Sem.run_bind,Sem.run_pure,Result.andThen];exact bP wS Y 142 142 D (0,0) _ hS dB rfl (by rw[G7];exact qI)
   have mf:B'≠RR:=by have h1:=HM.out.nN.lt;omega
   have sL:v.ownBlock≠μ B':=λe=>by have h1:=HM.out.row.lt B' e;omega
   have hb4:∀i,i<q->B i≠B':=λi hi e=>by have h1:=(HM.out.lk i hi).lt;omega
   have HD:Hid _:=hD;clear hD;refine cz (S:=λx=>jr x Y D 142) gT hV (λkY=> ?_);refine jq 0 (μ 57) rfl rfl gT gT gT (λ_ _ _ h=>h) (by rfl) (v:= ?_) ?_ jj ?_
   rotate_left
   ·intro wS kJ
    (try dsimp only at kJ)
    go_simp
    try with_reducible rfl
   simp only[gW,gX,gY,gZ];refine jq 1 (μ 58) rfl rfl gT gT gT (λ_ _ _ h=>h) (by rfl) (v:= ?_) ?_ jj ?_
   rotate_left
   ·intro wS kJ
    (try dsimp only at kJ)
    go_simp
    try with_reducible rfl
   simp only[gW,gX,gY,gZ];refine jq 2 (μ 59) rfl rfl gT gT gT (λ_ _ _ h=>h) (by rfl) (v:= ?_) ?_ jj ?_
   rotate_left
   ·intro wS kJ
    (try dsimp only at kJ)
    go_simp
    try with_reducible rfl
   simp only[gW,gX,gY,gZ];refine jq 3 (μ 60) rfl rfl gT gT gT (λ_ _ _ h=>h) (by rfl) (v:= ?_) ?_ jj ?_
   rotate_left
   ·intro wS kJ
    (try dsimp only at kJ)
    go_simp
    try with_reducible rfl
   simp only[gW,gX,gY,gZ];refine jq 5 (μ 62) rfl rfl gT gT gT (λ_ _ _ h=>h) (by rfl) (v:=.agg D) ?_ jj ?_
   ·intro wS kJ;have h7:=kD wS kJ;simp[execOp,Act.eval,h7]
   simp only[gW,gX,gY,gZ];refine aL (rs:=[4,6]) gT iC ?_;refine aB (o:=_) rfl (λK hK=> ?_) (aB (o:=_) rfl (λK hK=> ?_) aF)
   ·go_simp
    (try go_wp2_with(fail))
    refine hK.out _ _ (by exact hV) (λkY=> ?_);clear hK K;refine aL (rs:=[6]) gT iC ?_;refine aB (o:=_) rfl (λK hK=> ?_) aF
    go_simp
    rw[CK D _ (by rw[G7];rfl) 71 G7];refine hK.out _ _ (by exact Gj) (λkY=> ?_);clear hK K;refine aL (rs:=[7]) gT iC ?_;refine aB (o:=_) rfl (λK hK=> ?_) aF;refine kL (by rfl) (.tmp 61) (.tmp 63) 133 (by rfl) 142 i0 (.agg Zp) 71 144 ik hi oz mW nT Ou eH v q (xu id ms B q) (by rfl) ((ji.alloc _).drew) _ 1 1 D.toList (by rfl) hDl eH (CM _ _ _ _ rfl) Xn (by unfold maxLen;omega) eE ?_;intro g' jL x1 kU ki jD;have Ka:=sS nR ki HO.out;have Zh:=sS hV ki HOY.out;have f1:=Ka.frozen 1;have k1:x1.cell? ⟨RR,1,ν⟩=μ v:=Ka.cell 1;refine hK.out _ _ (by exact Zh) (λkY=> ?_);clear hK K;refine jq 8 (μ 65) rfl rfl gT gT gT (λ_ _ _ h=>h) (by rfl) (v:= ?_) ?_ jj ?_
    rotate_left
    ·intro wS kJ
     (try dsimp only at kJ)
     go_simp
     try with_reducible rfl
    simp only[gW,gX];refine jq 9 (μ 66) rfl rfl gT gT gT (λ_ _ _ h=>h) (by rfl) (v:= ?_) ?_ jj ?_
    rotate_left
    ·intro wS kJ
     (try dsimp only at kJ)
     go_simp
     try with_reducible rfl
    simp only[gW];refine aL (rs:=[10]) gT iC ?_;refine aB (o:=_) rfl (λK hK=> ?_) aF
    go_simp
    (try go_wp2_with(fail))
    refine hK.out _ _ (by exact Zh.other hYR _) (λkY=> ?_);clear hK K;refine bZ gT ?_ _;have HAdd:Hid _:=Making.add Oc.out HD.out Zg hMY mf sL hb4 kU ki jD;clear kU ki jD Ka Zh f1 k1
    go_wp2
    go_roundw
    case rel=>exact⟨q+1,_,_,eE,by go_num,HAdd.out⟩
    case measure=>simp[intOf];omega
   ·go_simp
    rw[CK D _ (by rw[G7];rfl) 71 G7];refine hK.out _ _ (by exact Gj) (λkY=> ?_);clear hK K;refine aL (rs:=[4]) gT iC ?_;refine aB (o:=_) rfl (λK hK=> ?_) aF
    go_simp
    (try go_wp2_with(fail))
    refine hK.out _ _ (by exact Gj) (λkY=> ?_);clear hK K;refine aL (rs:=[7]) gT iC ?_;refine aB (o:=_) rfl (λK hK=> ?_) aF;refine kL (by rfl) (.tmp 61) (.tmp 63) 133 (by rfl) 142 i0 (.agg Zp) 71 144 ik hi oz mW nT Ou eH v q (xu id ms B q) (by rfl) ((ji.alloc _).drew) _ 1 1 D.toList (by rfl) hDl eH (CM _ _ _ _ rfl) Xn (by unfold maxLen;omega) eE ?_;intro g' jL x1 kU ki jD;have Ka:=sS nR ki HO.out;have Zh:=sS hV ki HOY.out;have f1:=Ka.frozen 1;have k1:x1.cell? ⟨RR,1,ν⟩=μ v:=Ka.cell 1;refine hK.out _ _ (by exact Zh) (λkY=> ?_);clear hK K;refine jq 8 (μ 65) rfl rfl gT gT gT (λ_ _ _ h=>h) (by rfl) (v:= ?_) ?_ jj ?_
    rotate_left
    ·intro wS kJ
     (try dsimp only at kJ)
     go_simp
     try with_reducible rfl
    simp only[gW,gX];refine jq 9 (μ 66) rfl rfl gT gT gT (λ_ _ _ h=>h) (by rfl) (v:= ?_) ?_ jj ?_
    rotate_left
    ·intro wS kJ
     (try dsimp only at kJ)
     go_simp
     try with_reducible rfl
    simp only[gW];refine aL (rs:=[10]) gT iC ?_;refine aB (o:=_) rfl (λK hK=> ?_) aF
    go_simp
    (try go_wp2_with(fail))
    refine hK.out _ _ (by exact Zh.other hYR _) (λkY=> ?_);clear hK K;refine bZ gT ?_ _;have HAdd:Hid _:=Making.add Oc.out HD.out Zg hMY mf sL hb4 kU ki jD;clear kU ki jD Ka Zh f1 k1
    go_wp2
    go_roundw
    case rel=>exact⟨q+1,_,_,eE,by go_num,HAdd.out⟩
    case measure=>simp[intOf];omega
  ·have hqn:q=n:=eE;subst hqn;obtain⟨g,cp,hv,hR,Qw⟩:=hM.done ⟨mM,xF⟩ ⟨agP,Zf⟩ hTb HBR.out HMM.out.2.2.2.1 HMM.out.2.2.1;have HF:Hid (∃z:Zt,z.R=RR/\lW wr z (jX id q ms)/\eN w wr/\(∀k,z.mine q k->w.heap.size<=k)/\w.heap.size<=z.fm.bm/\(∀x∈z.fm.bs,w.heap.size<=x)/\∀k,X k->z.fm.no k):=by
    refine⟨_,rfl,hR,iA YV.out hM.nU,λk hk=> ?_,HMM.out.1,HMM.out.2.1,λk hk=>.inl (HMM.out.2.2.2.2 k hk)⟩;have hs:=YV.out.size;rcases EP hk with rfl|rfl|⟨i,hi,rfl⟩
    ·have:=hM.gR;omega
    ·omega
    ·have:=(hM.gB i hi).1;omega
   have yG:¬(q:Int)<(q:Int):=eE;clear hM hR Qw hv
   go_wp2
   go_ret2
   obtain⟨z,mW,nT⟩:=HF.out;exact⟨z,by rw[mW];rfl,nT⟩
end Rt
end Go.Proofs.YtieklnlbljejdaaGreatDoor
