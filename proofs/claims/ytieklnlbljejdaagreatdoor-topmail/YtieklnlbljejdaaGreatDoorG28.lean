import Derived.Test.YtieklnlbljejdaaGreatDoorG27
open Go.Value renaming int → ι, slice → σ, pointer → π, tuple → τ, nilIface → η
open Go.IntKind renaming i64 → κ
open Go.Ending renaming returned → ρ
open Go.Obj renaming cells → γ
open Option renaming none → ν, some → μ
open Go renaming World → eB, Calls → fj, Value → eD
open Go.Proofs.Tryz renaming prog → fk
open Go.Value renaming ownBlock → eF, int → eI
open Go.RowKit renaming intOf → ft
set_option maxRecDepth 100000
set_option maxHeartbeats 8000000
namespace Go.Proofs.YtieklnlbljejdaaGreatDoor
open Go.RowKit St
namespace Rt
variable {L:List oI} {P:Nat->Nat} {W W2 w w':World} {c:oI} {i q:Nat} {many p r:Int}
theorem CS(up:Bool):∀(l:List Nat) (y:jc) (c:Nat),y.jS up (l++ [c])=(y.jS up l).j5 c up
 |[],_,_=>rfl
 |_::l,_,c=>CS up l _ c
theorem SQ(l:List Nat)(j:Nat)(h:j<l.length):(pS l)[j]? =μ (ι κ (l[j] :Int)):=by simp[pS,h]
theorem yj(Wb:eB)(y:Yt)(n0 M:jc)(D m:Nat)(up:Bool)(L:List Nat)(h0:jJ Wb y n0)(RC:n0.n=m)(hT:jo Wb)(jb:j6 M D 20)(hD:D<=900000000)(hL:∀c∈L,c<M.nc)(hl:L.length<=9)(hMn:M.n=m)(q:Nat)(hq:q<L.length)(W:eB)(hW:iV Wb W y (M.jS up (L.take q)) m):
 fj fk 113 #[π (μ ⟨y.N,0,ν⟩),ι κ (L[q] :Int),.bool up] W λe w'=>e=ρ (τ #[])/\iV Wb w' y (M.jS up (L.take (q+1))) m:=by
 have Zo:=hW.tab h0 RC hT;obtain⟨s1,s2,s3,s4,s5⟩:=mV up (L.take q) M;have kN:=j6.jS eE up (L.take q) jb (λc hc=>hL c (dm hc));have hlq:(L.take q).length<=q:=cr _ _;have e1:M.jS up (L.take (q+1))=(M.jS up (L.take q)).j5 L[q] up:=by
  rw[ax hq,CS]
 rw[e1];refine hW.call λy1 R1 h1=> ?_;rw[<-h1.N];have:=ES y1 _ D _ L[q] up W R1 Zo kN hD eE (by rw[s2];exact hL _ (aE hq));rw[s1,hMn]at this;exact this
theorem Ji(y:Yt)(n:jc)(D:Nat)(i:Int)(w:eB)(h:jJ w y n)(hT:jo w)(jb:j6 n D 0)(hD:D<=900000000):
 fj fk 62 #[π (μ ⟨y.N,0,ν⟩),ι κ i] w λe w'=>e=ρ (jy (n.restart i).2)/\iV w w' y (n.restart i).1 n.n:=by
 have hh:=oJ y n i w h;rcases xr i n.n with⟨hn,hi⟩|⟨k,hk,rfl⟩
 ·have hE:n.restart i=(n,6):=by unfold jc.restart;rw[ag hi]
  rw[hE];rw[hn]at hh;have HW:Hid _:=iV.refl h;clear h jb hT
  go_in
  go_wp2_with(fail);refine hh.mono ?_;rintro e w1 ⟨rfl,rfl⟩;clear hh
  go_wp2
  go_ret;exact⟨rfl,HW.out⟩
 ·rw[uX hk]at hh;have n6:=h.n6;obtain⟨L,hL⟩:=gH (n.kT k);have hE:n.restart ((k:Int)+1)=((((n.jS false L).jQ k (jX ((k:Int)+1) 3 (n.ms k))).jS true L).gather,0):=by
   unfold jc.restart;have e1:((k:Int)+1-1).toNat=k:=eE;rw[ae eE,e1,hL]
  rw[hE];have e0:jy 0=η:=rfl;rw[e0];obtain⟨E,hEm,hET,hEO⟩:=h.mp;have ML:=wH y.N y.bM k E (n.ms k) w h.k2 hEm hEO eE (λp hp=>hET k p hk hp) hT (λb=>y.all n.n b \/y.ext b) (λb hb=>hb.elim (λe=>h.Ah e) (λe=>h.lt (.inr e)));have hLl:L.length<=9:=by
   rw[<-hL];exact Nat.le_trans (xx n k) h.c9
  have hLc:∀c∈L,c<n.nc:=λc hc=>by rw[<-hL]at hc;exact zo c hc
  have ahb:Hid (∀W,eN w W->fj fk 115 #[π (μ ⟨y.N,0,ν⟩),ι κ ((k:Int)+1)] W λe w'=>∃v,e=ρ v/\Row w' 1 v L.length (pS L)/\(∀b,v.ownBlock=μ b->W.heap.size<=b)/\eN W w'):=by
   intro W hW;have:=Gm y n k W (h.below hW);rw[hL]at this;exact this
  have HH:Hid _:=h;have HT:Hid _:=hT;have QL:Hid _:=jb;have HK:Hid _:=hk;have HLC:Hid _:=hLc;clear h hT jb hEm hET hEO hE hL hLc
  go_in
  go_wp2_with(fail);refine hh.mono ?_;rintro e w1 ⟨rfl,rfl⟩;clear hh;go_wp2_with(fail);refine ML.mono ?_;rintro e W1 ⟨z,rfl,mW,kt,Xu,hz4,hz5,hz6⟩;have hca:=ahb.out W1 kt;have HZ1:Hid _:=mW;have Bf:Hid _:=kt;have VM:Hid (∀b,z.oj b->w.heap.size<=b):=by
   intro b hb;rcases hb with e|e|e
   ·exact Xu b e
   ·rw[e];exact hz4
   ·exact hz5 b e
  have HZX:Hid (∀b,y.all n.n b \/y.ext b->z.fm.no b):=λb hb=>hz6 b hb;clear ML mW kt Xu hz4 hz5 hz6;go_wp2_with(fail);refine hca.mono ?_;rintro e W2 ⟨v,rfl,ji,jC,mf⟩;clear hca;have SS:eN w W2:=iA Bf.out mf;have nT:lW W2 z (jX ((k:Int)+1) 3 (n.ms k)):=HZ1.out.below mf;have sE:(jX ((k:Int)+1) 3 (n.ms k)).n=3/\(jX ((k:Int)+1) 3 (n.ms k)).id=(k:Int)+1:=⟨rfl,rfl⟩
  have DC:∀b,z.oj b->b<W1.heap.size:=λb e=>HZ1.out.xk rfl e;obtain⟨y1,R1,s1,Zx,xI⟩:=HH.out.beside SS.size (λb qU _=>SS.block b qU) z.oj (λb e=>⟨VM.out b e,Nat.lt_of_lt_of_le (DC b e) mf.size⟩);have UY:jo W2:=jo.below (w:=w) HT.out SS;have Xv:j6 n D 20:=QL.out.mono (Nat.le_refl _) eE;obtain⟨a,cp,YY⟩:=Row.shape ji;subst YY;have hNe:Hid (∀b,eF (σ a L.length cp)=μ b->W1.heap.size<=b/\b<W2.heap.size):=λb hb=>⟨jC b hb,ji.lt b hb⟩
  have UQ:Hid _:=ji;have Xr:Hid (iV W2 W2 y1 (n.jS false (L.take 0)) n.n):=iV.refl R1;have HPl:Hid (∀q W,(hq:q<L.length)->iV W2 W y1 (n.jS false (L.take q)) n.n->fj fk 113 #[π (μ ⟨y.N,0,ν⟩),ι κ (L[q] :Int),.bool false] W λe w'=>e=ρ (τ #[])/\iV W2 w' y1 (n.jS false (L.take (q+1))) n.n):=by
   intro q W hq hW;rw[<-s1.N];exact yj W2 y1 n n D n.n false L R1 rfl UY Xv hD HLC.out hLl rfl q hq W hW
  have Sz:Hid (∀q W M,(hq:q<L.length)->iV W2 W y1 M n.n->∃g,a=μ ⟨g,0,ν⟩/\W.cell? ⟨g,q,ν⟩=μ (ι κ (L[q] :Int))):=by
   intro q W M hq hW;rcases UQ.out.2 with⟨_,e2⟩|⟨g,c,e,_,_,_,hc,_⟩
   ·omega
   ·have ea:a=μ ⟨g,0,ν⟩:=(bH e).1;have hg:=hNe.out g (by rw[ea];rfl);refine⟨g,ea,(ai (a:=⟨g,q,ν⟩) (hW.kept.block g hg.2 (λe3=> ?_))).trans (hc q _ (SQ L q hq))⟩;have h1:=HH.out.Ah ((Zx g).1 e3);have h2:=Bf.out.size;omega
  have HR1:Hid _:=R1;have Zz:Hid _:=s1;have HA1:Hid _:=Zx;have Xg:Hid _:=xI;have HZ2:Hid _:=nT;have acY:Hid _:=SS;have HFL:Hid _:=DC;have HT2:Hid _:=UY;have yS:Hid _:=mf;obtain⟨len,hlen⟩:=gH (L.length);have O8:Hid _:=hlen;rw[hlen]at hLl;clear ji jC SS nT sE DC R1 s1 Zx xI UY mf Xv
  go_wp2
  go_loopw [31] (λx wr=>∃q:Nat,q<=len/\x=ι κ q/\iV W2 wr y1 (n.jS false (L.take q)) n.n) (λx _=>len-(ft x).toNat)
  case atStart=>exact⟨0,Nat.zero_le _,rfl,Xr.out⟩
  case round=>
   obtain⟨q,hq,rfl,qS⟩:=hrel;obtain⟨V,rfl⟩:∃V,V=wr:=⟨_,rfl⟩
   by_cases kH:q<len
   ·have nG:(q:Int)<(len:Int):=eE;have hq0:(0:Int)<=(q:Int):=eE;have hqL:q<L.length:=by rw[O8.out];exact kH
    obtain⟨g,rfl,hcell⟩:=Sz.out q V _ hqL qS;have gl:=af _ _ hcell;have Bh:=HPl.out q V hqL qS;generalize L[q] =cq at hcell Bh;clear qS;go_wp2_with(fail);refine Bh.mono ?_;rintro e w1 ⟨rfl,l7⟩;have HW:Hid _:=l7;clear Bh l7
    go_wp2
    go_roundw
    case rel=>exact⟨q+1,eE,by go_num,HW.out⟩
    case measure=>simp[ft];omega
   ·have yG:¬(q:Int)<(len:Int):=eE;obtain rfl:q=len:=eE;have e9:L.take q=L:=by rw[<-O8.out];exact dc
    rw[e9]at qS;obtain⟨n3,wF⟩:=gH (n.jS false L);obtain⟨p1,p2,p3,p4,p5⟩:=mV false L n;rw[wF]at qS p1 p2;have acZ:j6 n3 D 20:=by
     rw[<-wF];exact(j6.jS eE false L QL.out HLC.out).mono (Nat.le_refl _) (by rw[O8.out];omega)
    obtain⟨y2,R2,s2,ha2,he2,sg⟩:=jJ.renew HH.out HK.out acY.out HZ2.out ⟨rfl,rfl⟩ VM.out HZX.out Zz.out HA1.out Xg.out qS p1;have SU:=acZ.anew k (by rw[p1];exact HK.out);have e8:n3.ms k=n.ms k:=by rw[<-wF,p3]
    rw[e8]at SU;obtain⟨n4,hn4⟩:=gH (n3.jQ k (jX ((k:Int)+1) 3 (n.ms k)));rw[hn4]at R2 SU;have SW:n4.n=n.n:=by rw[<-hn4];exact p1
    have ZA:n4.nc=n.nc:=by rw[<-hn4];exact p2
    have d0:=qS.k0;have dl:=qS.lt;rw[Zz.out.N,Zz.out.gR,Zz.out.sA,p1]at d0;rw[Zz.out.N]at dl;obtain⟨Rk,hRk⟩:=qS.ptr (i:=k) (by rw[p1];exact HK.out);rw[Zz.out.gR]at hRk;have gRl:=af _ _ hRk;have gRf:V.frozen? ⟨y.gR,k,ν⟩=false:=by
     obtain⟨y9,R9,s9,_,_⟩:=qS.ex;have h1:=R9.rr.fz k (by rw[p1];exact HK.out);rw[Nat.zero_add,s9.gR,Zz.out.gR]at h1;exact h1
    have Ub:=vR HK.out n6;have hki:(k:Int)<(n.n:Int):=eE;have Ht:(0:Int)<=(k:Int):=eE;have hTV:jo V:=qS.tab HR1.out rfl HT2.out;obtain⟨W4,tR⟩:=gH (V.setCell ⟨y.gR,k,ν⟩ (π (μ ⟨z.R,0,ν⟩)));rw[tR]at R2 sg;have ahd:y.gR≠0:=λe=>HH.out.z0 ⟨.R,by rw[<-e];rfl⟩;have hT4:jo W4:=λe s he hs=>by
     rw[<-tR,aU _ _ _ _ (λe1=>ahd (congrArg Addr.block e1))];exact hTV e s he hs
    have alP:W4.heap.size=V.heap.size:=by rw[<-tR];simp
    have hVs:=qS.kept.size;have ac1:Hid (∀q' W M,(U2:q'<L.length)->iV W4 W y2 M n.n->∃g,a=μ ⟨g,0,ν⟩/\W.cell? ⟨g,q',ν⟩=μ (ι κ (L[q'] :Int))):=by
     intro q' W M U2 hW;obtain⟨g,ea,hc⟩:=Sz.out q' V _ U2 qS;have hg:=hNe.out g (by rw[ea];rfl);have BF:=Bf.out.size;have Qw:g≠y.gR:=λe=>by
      have:=HH.out.OB;omega
     refine⟨g,ea,(ai (a:=⟨g,q',ν⟩) (hW.kept.block g eE (λe3=> ?_))).trans ?_⟩
     ·rcases ha2 g e3 with h1|h1|h1
      ·have:=HH.out.Ah h1;omega
      ·have:=HFL.out g h1;omega
      ·omega
     ·rw[<-tR,aU _ _ _ _ (λe1=>Qw (congrArg Addr.block e1).symm)];exact hc
    have HP2:Hid (iV W4 W4 y2 (n4.jS true (L.take 0)) n.n):=by
     show iV _ _ _ _ _;rw[<-SW];exact iV.refl R2
    have ahe:Hid (∀q' W,(U2:q'<L.length)->iV W4 W y2 (n4.jS true (L.take q')) n.n->fj fk 113 #[π (μ ⟨y.N,0,ν⟩),ι κ (L[q'] :Int),.bool true] W λe w'=>e=ρ (τ #[])/\iV W4 w' y2 (n4.jS true (L.take (q'+1))) n.n):=by
     intro q' W U2 hW;rw[<-s2.N];exact yj W4 y2 n4 n4 D n.n true L R2 SW hT4 SU hD (λc hc=>by rw[ZA];exact HLC.out c hc) (by rw[O8.out];exact hLl) SW q' U2 W hW
    have HG:Hid (∀W,iV W4 W y2 (n4.jS true L) n.n->fj fk 111 #[π (μ ⟨y.N,0,ν⟩)] W λe w'=>e=ρ (τ #[])/\iV W4 w' y2 (n4.jS true L).gather n.n):=by
     intro W hW;refine hW.call λy3 R3 s3=> ?_;rw[<-s2.N,<-s3.N];have h5:=j6.jS eE true L SU (λc hc=>by rw[ZA];exact HLC.out c hc);have h6:=pZ y3 _ D _ W R3 h5 eE (by rw[O8.out];omega);rw[(mV true L n4).1,SW]at h6;exact h6
    have Zc:Hid (∀W,iV W4 W y2 (n4.jS true L).gather n.n->iV w W y ((((n.jS false L).jQ k (jX ((k:Int)+1) 3 (n.ms k))).jS true L).gather) n.n):=by
     intro W hW;rw[wF,hn4];refine iV.pF sg s2 (λb e=> ?_) he2 hW;rcases ha2 b e with h1|h1|h1
     ·exact .inl h1
     ·exact .inr (VM.out b h1)
     ·exact .inr (Nat.le_trans acY.out.size h1)
    have I0:Hid _:=tR;clear qS R2 s2 ha2 he2 sg acZ SU wF hn4 SW ZA hTV hT4 tR p1 p2 p3 p4 p5 e8 Sz HPl Xr;go_wp2_with(fail);rw[I0.out]
    go_loopw [49] (λx wr=>∃q':Nat,q'<=q/\x=ι κ q'/\iV W4 wr y2 (n4.jS true (L.take q')) n.n) (λx _=>q-(ft x).toNat)
    case atStart=>exact⟨0,Nat.zero_le _,rfl,HP2.out⟩
    case round=>
     obtain⟨t,ht,rfl,KQ⟩:=hrel;by_cases Zv:t<q
     ·have acP:(t:Int)<(q:Int):=eE;have ht0:(0:Int)<=(t:Int):=eE;have htL:t<L.length:=by rw[O8.out];exact Zv
      obtain⟨g,rfl,hcell⟩:=ac1.out t wr _ htL KQ;have gl:=af _ _ hcell;have Bh:=ahe.out t wr htL KQ;generalize L[t] =cq at hcell Bh;clear KQ;go_wp2_with(fail);refine Bh.mono ?_;rintro e w1 ⟨rfl,l7⟩;have HW:Hid _:=l7;clear Bh l7
      go_wp2
      go_roundw
      case rel=>exact⟨t+1,eE,by go_num,HW.out⟩
      case measure=>simp[ft];omega
     ·have acR:¬(t:Int)<(q:Int):=eE;obtain rfl:t=q:=eE;rw[e9]at KQ;have hg:=HG.out wr KQ;clear KQ;go_wp2_with(fail);refine hg.mono ?_;rintro e w1 ⟨rfl,l7⟩;have HW:Hid _:=Zc.out _ l7;clear hg l7
      go_wp2
      go_ret;exact⟨rfl,HW.out⟩
def AX(w:eB)(a:Option Addr)(L:List oI):Prop:=∀j,(hj:j<L.length)->∃b off,a=μ ⟨b,off,ν⟩/\w.cell? ⟨b,off+j*5,ν⟩=μ (ι κ L[j].a)/\w.cell? ⟨b,off+j*5+1,ν⟩=μ (ι κ L[j].pa)/\w.cell? ⟨b,off+j*5+2,ν⟩=μ (ι κ L[j].b)/\w.cell? ⟨b,off+j*5+3,ν⟩=μ (ι κ L[j].pb)/\w.cell? ⟨b,off+j*5+4,ν⟩=μ (ι κ L[j].m)
theorem AX.below {a:Option Addr} (h:AX w a L)(hb:eN w w'):AX w' a L:=λj hj=>by
 obtain⟨b,off,e,h0,h1,h2,h3,h4⟩:=h j hj;have hk:=hb.block b (af _ _ h0);exact⟨b,off,e,(ai (a:=⟨b,off+j*5,ν⟩) hk).trans h0,(ai (a:=⟨b,off+j*5+1,ν⟩) hk).trans h1,(ai (a:=⟨b,off+j*5+2,ν⟩) hk).trans h2,(ai (a:=⟨b,off+j*5+3,ν⟩) hk).trans h3,(ai (a:=⟨b,off+j*5+4,ν⟩) hk).trans h4⟩
theorem SX:(fk.info? 193).map (·.size)=μ 4:=gT
theorem CT(a pa b pb m:Int)(w:eB):fj fk 97 #[.agg #[ι κ a,ι κ pa,ι κ b,ι κ pb,ι κ m]] w λe w'=>e=ρ (.agg #[ι κ a,ι κ pa,ι κ b,ι κ pb])/\eN w w':=by
 have hB:jr ((w.alloc (γ #[ι κ a,ι κ pa,ι κ b,ι κ pb,ι κ m] 81)).alloc (γ #[ι κ a,ι κ pa,ι κ b,ι κ pb] 193)) (w.heap.size+1) #[ι κ a,ι κ pa,ι κ b,ι κ pb] 193:=by
  have:=jr.new (w.alloc (γ #[ι κ a,ι κ pa,ι κ b,ι κ pb,ι κ m] 81)) #[ι κ a,ι κ pa,ι κ b,ι κ pb] 193;simpa using this
 have hb:eN w ((w.alloc (γ #[ι κ a,ι κ pa,ι κ b,ι κ pb,ι κ m] 81)).alloc (γ #[ι κ a,ι κ pa,ι κ b,ι κ pb] 193)):=(iB _ _).alloc iC _;have l6:=bP (P:=fk) _ (w.heap.size+1) 193 193 #[ι κ a,ι κ pa,ι κ b,ι κ pb] (0,0) _ hB Tryz.underlying193 rfl SX
 go_in
 go_wp2_with(fail);refine aj (v:=.agg #[ι κ a,ι κ pa,ι κ b,ι κ pb]) (by simp[results,Tryz.results97,asAddr,l6]) rfl ?_;exact⟨rfl,hb⟩
theorem vL(r p many:Int)(w:eB):fj fk 154 #[.agg #[ι κ r,ι κ p],ι κ many] w λe w'=>e=ρ (.bool (ot many r p))/\eN w w':=by
 have hb:=iB w (γ #[ι κ r,ι κ p] 192);unfold ot;by_cases h1:1<=r
 ·by_cases h2:r<=many
  ·by_cases h3:0<=p
   ·by_cases h4:p<3
    ·have hv:(decide (1<=r)&&decide (r<=many)&&decide (0<=p)&&decide (p<3))=true:=by simp[h1,h2,h3,h4]
     rw[hv];clear hv
     go_in
     go_wp2
     go_ret;exact⟨by first|rfl|(simp;omega),hb⟩
    ·have hv:(decide (1<=r)&&decide (r<=many)&&decide (0<=p)&&decide (p<3))=false:=by simp[h4]
     rw[hv];clear hv
     go_in
     go_wp2
     go_ret;exact⟨by first|rfl|(simp;omega),hb⟩
   ·have hv:(decide (1<=r)&&decide (r<=many)&&decide (0<=p)&&decide (p<3))=false:=by simp[h3]
    rw[hv];clear hv
    go_in
    go_wp2
    go_ret;exact⟨by first|rfl|(simp;omega),hb⟩
  ·have hv:(decide (1<=r)&&decide (r<=many)&&decide (0<=p)&&decide (p<3))=false:=by simp[h2]
   rw[hv];clear hv
   go_in
   go_wp2
   go_ret;exact⟨by first|rfl|(simp;omega),hb⟩
 ·have hv:(decide (1<=r)&&decide (r<=many)&&decide (0<=p)&&decide (p<3))=false:=by simp[h1]
  rw[hv];clear hv
  go_in
  go_wp2
  go_ret;exact⟨by first|rfl|(simp;omega),hb⟩
theorem Ls(l:List oI)(c:oI):kB (l++ [c])=kB l++ [(c.a,c.pa,c.m),(c.b,c.pb,c.m)] :=by simp[kB]
theorem O9(h:ot many r p=true)(h6:many<=6):1<=r/\r<=6/\0<=p/\p<=2:=by
 unfold ot at h;simp only[Bool.and_eq_true,decide_eq_true_eq]at h;omega
def qx(many:Int)(c:oI)(E:List (Int×Int×Int)):Nat:=
 if c.m<1 \/20<c.m then 1
 else if ot many c.a c.pa=false then 1
 else if(kX E c.a c.pa).isSome=true then 8
 else if ot many c.b c.pb=false then 1
 else if(kX (E++ [(c.a,c.pa,c.m)]) c.b c.pb).isSome=true then 8
 else 0
theorem EV(many:Int)(c:oI)(l:List oI)(E:List (Int×Int×Int)):xf many (c::l) E=if qx many c E≠0 then qx many c E else xf many l (E++ [(c.a,c.pa,c.m),(c.b,c.pb,c.m)]):=by
 conv=>lhs;unfold xf
 unfold qx;split
 ·rfl
 ·split
  ·rfl
  ·split
   ·rfl
   ·split
    ·rfl
    ·split
     ·rfl
     ·rw[ae iC]
def zq(w:eB)(many:Int)(L:List oI)(e:Ending)(w':eB):Prop:=(nk many L≠0->e=ρ (τ #[.map ν,jy (nk many L)]))/\(nk many L=0->∃b,e=ρ (τ #[.map (μ b),η])/\nY w' b (kB L)/\Bi (kB L)/\w.heap.size<=b)/\eN w w'
theorem zq.bad {f:Nat} (hf:nk many L=f)(h0:f≠0)(hb:eN w w'):zq w many L (ρ (τ #[.map ν,jy f])) w':=⟨λ_=>by rw[hf],λe=>absurd (hf.symm.trans e) h0,hb⟩
theorem zq.good {b:Nat} (hf:nk many L=0)(hm:nY w' b (kB L))(hE:Bi (kB L))(hb:w.heap.size<=b)(hB:eN w w'):zq w many L (ρ (τ #[.map (μ b),η])) w':=⟨λe=>absurd hf e,λ_=>⟨b,rfl,hm,hE,hb⟩,hB⟩
theorem VN(W:eB):(Instr.makeMap 184 ν).run fk W=.ok (.map (μ W.heap.size)) (W.alloc (.map #[] 0)):=rfl
theorem Am(w:eB)(b:Nat)(E:List (Int×Int×Int))(hE:Bi E)(many r p:Int)(h6:many<=6)(W:eB)(hM:nY W b E)(hb:w.heap.size<=b)(hB:eN w W)(pO:b<W.heap.size)(Z Y:Nat)(m:Int)(hZ:W.cell? ⟨Z,0,ν⟩=μ (ι κ r)/\W.cell? ⟨Z,1,ν⟩=μ (ι κ p))(hY:W.cell? ⟨Y,4,ν⟩=μ (ι κ m)):
 fj fk 154 #[.agg #[ι κ r,ι κ p],ι κ many] W λe w1=>e=ρ (.bool (ot many r p))/\eN w w1/\(w1.cell? ⟨Z,0,ν⟩=μ (ι κ r)/\w1.cell? ⟨Z,1,ν⟩=μ (ι κ p))/\w1.cell? ⟨Y,4,ν⟩=μ (ι κ m)/\
  (ot many r p=true->(Instr.lookup 184 (.map (μ b)) (.agg #[ι κ r,ι κ p]) true).run fk w1=.ok (τ #[ι κ ((kX E r p).getD 0),.bool (kX E r p).isSome]) w1/\
   (kX E r p=ν->∃w2,(Instr.mapUpdate 184 (.map (μ b)) (.agg #[ι κ r,ι κ p]) (ι κ m)).run fk w1=.ok () w2/\nY w2 b (E++ [(r,p,m)])/\Bi (E++ [(r,p,m)])/\eN w w2/\w2.cell? ⟨Y,4,ν⟩=μ (ι κ m)/\b<w2.heap.size)):=by
 refine(vL r p many W).mono ?_;rintro e w1 ⟨rfl,b1⟩;have hZl:=af _ _ hZ.1;have hYl:=af _ _ hY;have y1:=(ai (a:=⟨Y,4,ν⟩) (b1.block Y hYl)).trans hY;have sG:=hM.keep (b1.block b pO);refine⟨rfl,iA hB b1,⟨(ai (a:=⟨Z,0,ν⟩) (b1.block Z hZl)).trans hZ.1,(ai (a:=⟨Z,1,ν⟩) (b1.block Z hZl)).trans hZ.2⟩,y1,λjb=> ?_⟩;have hr:=O9 jb h6;refine⟨nY.look sG hE hr,λhn=> ?_⟩;obtain⟨w2,g1,g2,g3,g4,g5,g6,g7⟩:=nY.store (m:=m) sG hE hr hn;have hYb:Y≠b:=λe=>by
  subst e;obtain⟨es,clock,h1,_⟩:=hM;simp[World.cell?,h1]at hY
 have wi:=iA hB b1;refine⟨w2,g1,g2,hE.snoc hr hn,⟨g3.trans wi.os,g4.trans wi.tape,g5.trans wi.output,by rw[g6];exact wi.size,λk hk=> ?_⟩,(ai (a:=⟨Y,4,ν⟩) (g7 Y hYb)).trans y1,by rw[g6];exact Nat.lt_of_lt_of_le pO b1.size⟩;have hkb:k≠b:=eE;exact(g7 k hkb).trans (wi.block k hk)
theorem wI(many:Int)(a:Option Addr)(cap:Nat)(L:List oI)(w:eB)(hL:AX w a L)(hl:L.length<=1000):
 fj fk 95 #[ι κ many,σ a L.length cap] w λe w'=>zq w many L e w':=by
 by_cases h1:many<1 \/6<many
 ·have hE:nk many L=1:=by unfold nk;rw[ag h1]
  have HF:Hid _:=zq.bad hE eH (au _ w);clear hL hE;generalize L.length=n at hl⊢;by_cases h2:many<1
  ·clear h1
   go_in
   go_wp2
   go_ret2
   exact HF.out
  ·have h3:6<many:=eE;clear h1
   go_in
   go_wp2
   go_ret2
   exact HF.out
 ·have h1a:¬many<1:=eE;have h1b:¬6<many:=eE;by_cases h9:9<L.length
  ·have hE:nk many L=2:=by unfold nk;rw[ae h1,ag h9]
   have HF:Hid _:=zq.bad hE eH (au _ w);have ZB:(9:Int)<(L.length:Int):=eE;clear hL hE h1;generalize L.length=n at hl h9 ZB⊢
   go_in
   go_wp2
   go_ret2
   exact HF.out
  ·have HE:Hid (nk many L=xf many L []):=by show _=_;unfold nk;rw[ae h1,ae h9]
   have ZB:¬(9:Int)<(L.length:Int):=eE;have HL:Hid _:=hL;obtain⟨n,hn⟩:=gH (L.length);have HN:Hid _:=hn;have IZ:nY (w.alloc (.map #[] 0)) w.heap.size [] :=⟨#[],0,aV w _,rfl⟩
   have T6:=VN;obtain⟨bM,Zy⟩:=gH (w.heap.size);have H0:Hid (nY (w.alloc (.map #[] 0)) bM (kB (L.take 0))/\Bi (kB (L.take 0))/\eN w (w.alloc (.map #[] 0))/\bM<(w.alloc (.map #[] 0)).heap.size/\xf many L [] =xf many (L.drop 0) (kB (L.take 0))):=by
    rw[Zy]at IZ;exact⟨IZ,λx hx=>by simp[kB]at hx,iB _ _,by rw[<-Zy];simp,rfl⟩
   have HbM:Hid _:=Zy;rw[hn]at hl ZB⊢;clear hL h1 h9 hn IZ
   go_in
   go_wp2_with(fail)
   try rw[HbM.out]
   go_loopw [27] (λx wr=>∃j:Nat,j<=n/\x=ι κ j/\nY wr bM (kB (L.take j))/\Bi (kB (L.take j))/\eN w wr/\bM<wr.heap.size/\xf many L [] =xf many (L.drop j) (kB (L.take j))) (λx _=>n-(ft x).toNat)
   case atStart=>exact⟨0,Nat.zero_le _,rfl,H0.out⟩
   case round=>
    obtain⟨j,hj,rfl,hm,hE,hB,pO,hF⟩:=hrel;obtain⟨V,rfl⟩:∃V,V=wr:=⟨_,rfl⟩
    by_cases kH:j<n
    ·have nG:(j:Int)<(n:Int):=eE;have xd:(0:Int)<=(j:Int):=eE;have hjL:j<L.length:=by rw[HN.out];exact kH
     obtain⟨b,off,rfl,k0,k1,k2,k3,k4⟩:=AX.below (w:=w) HL.out hB j hjL;have hd:L.drop j=L[j] ::L.drop (j+1):=aR hjL;have ht:kB (L.take (j+1))=kB (L.take j)++ [(L[j].a,L[j].pa,L[j].m),(L[j].b,L[j].pb,L[j].m)] :=by
      rw[ax hjL,Ls]
     rw[hd,EV]at hF;generalize L[j] =c at k0 k1 k2 k3 k4 hF ht;obtain⟨E,hEe⟩:=gH (kB (L.take j));rw[hEe]at hm hE hF ht;have HT:Hid _:=ht;have S0:Hid (∀f,qx many c E=f->f≠0->nk many L=f):=by
      intro f h1 h2;rw[HE.out,hF,h1,ag h2]
     have ac2:Hid (qx many c E=0->xf many L [] =xf many (L.drop (j+1)) (E++ [(c.a,c.pa,c.m),(c.b,c.pb,c.m)])):=by
      intro h1;rw[hF,h1,ae iC]
     obtain⟨ca,pv,cb,qM,cm⟩:=c;have bl:=af _ _ k0;have HM:Hid _:=hm;have HEO:Hid _:=hE;have HB:Hid _:=hB;have HBL:Hid _:=pO;obtain⟨W1,ke⟩:=gH (V.alloc (γ #[ι κ ca,ι κ pv,ι κ cb,ι κ qM,ι κ cm] 81));obtain⟨Y,hY⟩:=gH (V.heap.size);have kt:=iB V (γ #[ι κ ca,ι κ pv,ι κ cb,ι κ qM,ι κ cm] 81);have Lt:jr (V.alloc (γ #[ι κ ca,ι κ pv,ι κ cb,ι κ qM,ι κ cm] 81)) V.heap.size #[ι κ ca,ι κ pv,ι κ cb,ι κ qM,ι κ cm] 81:=jr.new V _ _;rw[ke]at kt Lt;rw[hY]at Lt;have g0:W1.cell? ⟨Y,0,ν⟩=μ (ι κ ca):=Lt.cell 0;have g1:W1.cell? ⟨Y,1,ν⟩=μ (ι κ pv):=Lt.cell 1;have g2:W1.cell? ⟨Y,2,ν⟩=μ (ι κ cb):=Lt.cell 2;have g3:W1.cell? ⟨Y,3,ν⟩=μ (ι κ qM):=Lt.cell 3;have g4:W1.cell? ⟨Y,4,ν⟩=μ (ι κ cm):=Lt.cell 4;have gl:=Lt.lt;have wi:eN w W1:=iA hB kt;have sG:nY W1 bM E:=hm.keep (kt.block bM pO);have ac3:bM<W1.heap.size:=Nat.lt_of_lt_of_le pO kt.size;have O2:Hid _:=ke;have HY:Hid _:=hY;have Bf:Hid _:=wi;have HM1:Hid _:=sG;have ac4:Hid _:=ac3;have HBY:Hid _:=Lt;have EW:=CT ca pv cb qM cm W1;clear hm hE hB pO hF hd ht hEe kt Lt wi sG ac3 ke hY;by_cases vY:cm<1 \/20<cm
     ·have uL:nk many L=1:=S0.out 1 (by unfold qx;rw[ag vY]) eH;have HF:Hid _:=zq.bad (w':=W1) uL eH Bf.out;clear EW;by_cases yH:cm<1
      ·clear vY;go_wp2_with(fail);rw[O2.out]
       try rw[HY.out]
       go_wp2
       go_ret2
       exact HF.out
      ·have hm3:20<cm:=eE;clear vY;go_wp2_with(fail);rw[O2.out]
       try rw[HY.out]
       go_wp2
       go_ret2
       exact HF.out
     ·have yH:¬cm<1:=eE;have hm3:¬20<cm:=eE;have Oc:Hid _:=vY;clear vY;go_wp2_with(fail);rw[O2.out]
      try rw[HY.out]
      go_wp2_with(fail);refine EW.mono ?_;rintro e w2 ⟨rfl,be⟩;have HI0:Hid (nY w2 bM (E)/\Bi (E)/\eN w w2/\bM<w2.heap.size/\w2.cell? ⟨Y,4,ν⟩=μ (ι κ cm)):=⟨nY.keep HM1.out (be.block bM ac4.out),HEO.out,iA Bf.out be,Nat.lt_of_lt_of_le ac4.out be.size,(ai (a:=⟨Y,4,ν⟩) (be.block Y gl)).trans g4⟩
      clear EW be k0 k1 k2 k3 k4 g0 g1 g2 g3 g4 gl bl
      go_wp2
      go_loopw [42] (λx wr=>(x=ι κ 0/\(nY wr bM (E)/\Bi (E)/\eN w wr/\bM<wr.heap.size/\wr.cell? ⟨Y,4,ν⟩=μ (ι κ cm))) \/(x=ι κ 1/\(nY wr bM (E++ [(ca,pv,cm)])/\Bi (E++ [(ca,pv,cm)])/\eN w wr/\bM<wr.heap.size/\wr.cell? ⟨Y,4,ν⟩=μ (ι κ cm))/\(ot many ca pv=true/\kX E ca pv=ν)) \/(x=ι κ 2/\(nY wr bM (E++ [(ca,pv,cm)] ++ [(cb,qM,cm)])/\Bi (E++ [(ca,pv,cm)] ++ [(cb,qM,cm)])/\eN w wr/\bM<wr.heap.size/\wr.cell? ⟨Y,4,ν⟩=μ (ι κ cm))/\qx many ⟨ca,pv,cb,qM,cm⟩ E=0)) (λx _=>2-(ft x).toNat)
      case atStart=>exact .inl ⟨rfl,HI0.out⟩
      case round=>
       obtain⟨V2,rfl⟩:∃V2,V2=wr:=⟨_,rfl⟩
       rcases hrel with⟨rfl,hIn⟩|⟨rfl,hIn,wa⟩|⟨rfl,hIn,wa⟩
       ·skip
        obtain⟨i1,i2,i3,i4,i5⟩:=hIn;have hix:=Zk ca pv cb qM;obtain⟨W4,tR⟩:=gH (V2.alloc (γ #[ι κ ca,ι κ pv] 192));obtain⟨Z,hZ⟩:=gH (V2.heap.size);have ba:=iB V2 (γ #[ι κ ca,ι κ pv] 192);have wN:jr (V2.alloc (γ #[ι κ ca,ι κ pv] 192)) V2.heap.size #[ι κ ca,ι κ pv] 192:=jr.new V2 _ _;rw[tR]at ba wN;rw[hZ]at wN;have z0:W4.cell? ⟨Z,0,ν⟩=μ (ι κ ca):=wN.cell 0;have z1:W4.cell? ⟨Z,1,ν⟩=μ (ι κ pv):=wN.cell 1;have zl:=wN.lt;have y4:W4.cell? ⟨Y,4,ν⟩=μ (ι κ cm):=(ai (a:=⟨Y,4,ν⟩) (ba.block Y (af _ _ i5))).trans i5;have Jj:=Am w bM (E) i2 many ca pv eE W4 (i1.keep (ba.block bM i4)) (by rw[HbM.out];exact Nat.le_refl _) (iA i3 ba) (Nat.lt_of_lt_of_le i4 ba.size) Z Y cm ⟨z0,z1⟩ y4;have I0:Hid _:=tR;have HZ:Hid _:=hZ;clear i1 i2 i3 i4 i5 tR hZ ba wN;go_wp2_with(fail)
        try rw[I0.out]
        try rw[HZ.out]
        go_wp2_with(fail);refine Jj.mono ?_;rintro e w5 ⟨rfl,b5,⟨x0,x1⟩,x4,CU⟩;have xl:=af _ _ x0;have yl:=af _ _ x4;clear Jj z0 z1 zl y4;cases jb:ot many ca pv with
        |false=>
         have uL:nk many L=1:=S0.out 1 (by unfold qx;rw[ae Oc.out,ag jb]) eH;have HF:Hid _:=zq.bad (w':=w5) uL eH b5;clear CU b5
         go_wp2
         go_ret2
         exact HF.out
        |true=>
         obtain⟨qN,kD⟩:=CU jb;clear CU;cases pK:kX (E) ca pv with
         |some m0=>
          have uL:nk many L=8:=S0.out 8 (by unfold qx;rw[ae Oc.out,ae (by rw[jb];simp),ag (by rw[pK];rfl)]) eH;have HF:Hid _:=zq.bad (w':=w5) uL eH b5;rw[pK]at qN;have q1:(Option.getD (μ m0) 0)=m0:=rfl;have q2:(Option.isSome (μ m0))=true:=rfl;rw[q1,q2]at qN;clear kD b5 jb pK uL
          go_wp2
          go_ret2
          exact HF.out
         |none=>
          obtain⟨w6,u1,u2,u3,u4',u5',u6'⟩:=kD pK;have ZC:Hid (nY w6 bM (E++ [(ca,pv,cm)])/\Bi (E++ [(ca,pv,cm)])/\eN w w6/\bM<w6.heap.size/\w6.cell? ⟨Y,4,ν⟩=μ (ι κ cm)):=⟨u2,u3,u4',u6',u5'⟩
          have HKK:Hid (ot many ca pv=true/\kX E ca pv=ν):=⟨jb,pK⟩
          rw[pK]at qN;have q1:(Option.getD (ν:Option Int) 0)=0:=rfl;have q2:(Option.isSome (ν:Option Int))=false:=rfl;rw[q1,q2]at qN;clear kD b5 u2 u3 u4' u5' u6' jb pK
          go_wp2
          go_roundw
          case rel=>exact .inr (.inl ⟨by go_num,ZC.out,HKK.out⟩)
          case measure=>simp[ft]
       ·obtain⟨T8,sg⟩:=wa;obtain⟨i1,i2,i3,i4,i5⟩:=hIn;have hix:=Zl ca pv cb qM;obtain⟨W4,tR⟩:=gH (V2.alloc (γ #[ι κ cb,ι κ qM] 192));obtain⟨Z,hZ⟩:=gH (V2.heap.size);have ba:=iB V2 (γ #[ι κ cb,ι κ qM] 192);have wN:jr (V2.alloc (γ #[ι κ cb,ι κ qM] 192)) V2.heap.size #[ι κ cb,ι κ qM] 192:=jr.new V2 _ _;rw[tR]at ba wN;rw[hZ]at wN;have z0:W4.cell? ⟨Z,0,ν⟩=μ (ι κ cb):=wN.cell 0;have z1:W4.cell? ⟨Z,1,ν⟩=μ (ι κ qM):=wN.cell 1;have zl:=wN.lt;have y4:W4.cell? ⟨Y,4,ν⟩=μ (ι κ cm):=(ai (a:=⟨Y,4,ν⟩) (ba.block Y (af _ _ i5))).trans i5;have Jj:=Am w bM (E++ [(ca,pv,cm)]) i2 many cb qM eE W4 (i1.keep (ba.block bM i4)) (by rw[HbM.out];exact Nat.le_refl _) (iA i3 ba) (Nat.lt_of_lt_of_le i4 ba.size) Z Y cm ⟨z0,z1⟩ y4;have I0:Hid _:=tR;have HZ:Hid _:=hZ;clear i1 i2 i3 i4 i5 tR hZ ba wN;go_wp2_with(fail)
        try rw[I0.out]
        try rw[HZ.out]
        go_wp2_with(fail);refine Jj.mono ?_;rintro e w5 ⟨rfl,b5,⟨x0,x1⟩,x4,CU⟩;have xl:=af _ _ x0;have yl:=af _ _ x4;clear Jj z0 z1 zl y4;cases jb:ot many cb qM with
        |false=>
         have uL:nk many L=1:=S0.out 1 (by unfold qx;rw[ae Oc.out,ae (by rw[T8];simp),ae (by rw[sg];simp),ag jb]) eH;have HF:Hid _:=zq.bad (w':=w5) uL eH b5;clear CU b5
         go_wp2
         go_ret2
         exact HF.out
        |true=>
         obtain⟨qN,kD⟩:=CU jb;clear CU;cases pK:kX (E++ [(ca,pv,cm)]) cb qM with
         |some m0=>
          have uL:nk many L=8:=S0.out 8 (by unfold qx;rw[ae Oc.out,ae (by rw[T8];simp),ae (by rw[sg];simp),ae (by rw[jb];simp),ag (by rw[pK];rfl)]) eH;have HF:Hid _:=zq.bad (w':=w5) uL eH b5;rw[pK]at qN;have q1:(Option.getD (μ m0) 0)=m0:=rfl;have q2:(Option.isSome (μ m0))=true:=rfl;rw[q1,q2]at qN;clear kD b5 jb pK uL
          go_wp2
          go_ret2
          exact HF.out
         |none=>
          obtain⟨w6,u1,u2,u3,u4',u5',u6'⟩:=kD pK;have ZC:Hid (nY w6 bM (E++ [(ca,pv,cm)] ++ [(cb,qM,cm)])/\Bi (E++ [(ca,pv,cm)] ++ [(cb,qM,cm)])/\eN w w6/\bM<w6.heap.size/\w6.cell? ⟨Y,4,ν⟩=μ (ι κ cm)):=⟨u2,u3,u4',u6',u5'⟩
          have HKK:Hid (qx many ⟨ca,pv,cb,qM,cm⟩ E=0):=by show _=_;unfold qx;rw[ae Oc.out,ae (by rw[T8];simp),ae (by rw[sg];simp),ae (by rw[jb];simp),ae (by rw[pK];simp)]
          rw[pK]at qN;have q1:(Option.getD (ν:Option Int) 0)=0:=rfl;have q2:(Option.isSome (ν:Option Int))=false:=rfl;rw[q1,q2]at qN;clear kD b5 u2 u3 u4' u5' u6' jb pK
          go_wp2
          go_roundw
          case rel=>exact .inr (.inr ⟨by go_num,ZC.out,HKK.out⟩)
          case measure=>simp[ft]
       ·obtain⟨i1,i2,i3,i4,i5⟩:=hIn;have HN2:Hid (nY V2 bM (kB (L.take (j+1)))/\Bi (kB (L.take (j+1)))/\eN w V2/\bM<V2.heap.size/\xf many L [] =xf many (L.drop (j+1)) (kB (L.take (j+1)))):=by
         show _/\_/\_/\_/\_;rw[HT.out];have e5:E++ [(ca,pv,cm)] ++ [(cb,qM,cm)] =E++ [(ca,pv,cm),(cb,qM,cm)] :=iC;rw[e5]at i1 i2;exact⟨i1,i2,i3,i4,ac2.out wa⟩
        clear i1 i2 i3 i4 i5 wa
        go_wp2
        go_roundw
        case rel=>exact⟨j+1,eE,by go_num,HN2.out⟩
        case measure=>simp[ft];omega
    ·have yG:¬(j:Int)<(n:Int):=eE;obtain rfl:j=n:=eE;have e9:L.take j=L:=by rw[<-HN.out];exact dc
     have e8:L.drop j=[] :=by rw[<-HN.out];exact List.drop_length
     rw[e9]at hm hE hF;rw[e8]at hF;have Mp:nk many L=0:=by rw[HE.out,hF];rfl
     have HF:Hid _:=zq.good Mp hm hE (by rw[HbM.out];exact Nat.le_refl _) hB;clear hm hE hB pO hF Mp e9 e8
     go_wp2
     go_ret2
     exact HF.out
theorem sN(many:Int)(a:Option Addr)(cap:Nat)(L:List oI)(w:eB)(hL:AX w a L)(hl:L.length<=1000):
 fj fk 38 #[ι κ many,σ a L.length cap] w λe w'=>e=ρ (jy (nk many L))/\eN w w':=by
 have hm:=wI many a cap L w hL hl;generalize L.length=n at hm⊢;have h2:fj fk 95 #[ι κ many,σ a n cap] w λe w'=>∃v,e=ρ (τ #[.map v,jy (nk many L)])/\eN w w':=by
  refine hm.mono ?_;rintro e w1 ⟨h1,h2,hb⟩;by_cases h0:nk many L=0
  ·obtain⟨b,rfl,_⟩:=h2 h0;exact⟨μ b,by rw[h0];rfl,hb⟩
  ·exact⟨ν,h1 h0,hb⟩
 clear hm hL;generalize jy (nk many L)=ev at h2⊢
 go_in
 go_wp2_with(fail);refine h2.mono ?_;rintro e w1 ⟨v,rfl,hb⟩;have HB:Hid _:=hb;clear h2 hb
 go_wp2
 go_ret;exact⟨rfl,HB.out⟩
def VO(W:eB)(i:Nat)(ms:Nat->Int)(P lo hi:Nat):Prop:=∃z:Zt,z.R=P/\lW W z (jX ((i:Int)+1) 3 ms)/\(∀b,z.oj b->lo<=b/\b<hi)/\lo<=hi/\hi<=W.heap.size/\∀b,(b<lo \/(hi<=b/\b<W.heap.size))->z.fm.no b
theorem VO.step {W':eB} {ms:Nat->Int} {P lo hi:Nat} (h:VO W i ms P lo hi)(hs:W.heap.size<=W'.heap.size)(hk:∀b,lo<=b->b<hi->W'.heap[b]? =W.heap[b]?):VO W' i ms P lo hi:=by
 obtain⟨z,h1,h2,h3,h4,h5,h6⟩:=h;refine⟨z.plus λb=>W.heap.size<=b/\b<W'.heap.size,h1,h2.besides hs (λb hb hc=> ?_) _ (λb e=>e),h3,h4,Nat.le_trans h5 hs,λb hb=> ?_⟩
 ·rcases hc with hc|hc
  ·have:¬(b<lo \/(hi<=b/\b<W.heap.size)):=λe=>hc (h6 b e);exact hk b eE eE
  ·have:=h3 b (.inl hc);exact hk b this.1 this.2
 ·show z.fm.no b \/_;by_cases e:b<W.heap.size
  ·exact .inl (h6 b eE)
  ·exact .inr eE
def rE:List oI->List eD
 |[] =>[]
 |c::l=>[.int .i64 c.a,.int .i64 c.pa,.int .i64 c.b,.int .i64 c.pb,.bool false,.slice none 0 0,.slice none 0 0] ++rE l
theorem Jk:∀(l m:List oI),rE (l++m)=rE l++rE m
 |[],_=>rfl
 |c::l,m=>by
  show _++rE (l++m)=_;rw[Jk l m,<-aC];rfl
theorem MY:∀(l:List oI) (j i:Nat) (hj:j<l.length),i<7->(rE l)[j*7+i]? =[ι κ l[j].a,ι κ l[j].pa,ι κ l[j].b,ι κ l[j].pb,(.bool false:eD),σ ν 0 0,σ ν 0 0][i]?
 |c::l,0,i,_,hi=>by
  show([_,_,_,_,_,_,_] ++rE l)[0*7+i]? =_;rw[Nat.zero_mul,Nat.zero_add,bL (by simpa using hi)];rfl
 |c::l,j+1,i,hj,hi=>by
  show([_,_,_,_,_,_,_] ++rE l)[(j+1)*7+i]? =_;rw[bz (by simp;omega)];have e:(j+1)*7+i-List.length [eI .i64 c.a,ι κ c.pa,ι κ c.b,ι κ c.pb,.bool false,σ ν 0 0,σ ν 0 0] =j*7+i:=by simp;omega
  rw[e];exact MY l j i (by simpa using hj) hi
theorem CV(l:List oI):∀u∈rE l,u.oneCell'=true:=by
 induction l with
 |nil=>intro u hu;simp[rE]at hu
 |cons c l ih=>
  intro u hu;have Gn:u∈ [eI .i64 c.a,ι κ c.pa,ι κ c.b,ι κ c.pb,.bool false,σ ν 0 0,σ ν 0 0] ++rE l:=hu;rcases aD.1 Gn with h|h
  ·simp at h;rcases h with rfl|rfl|rfl|rfl|rfl|rfl<;>rfl
  ·exact ih u h
def vq(P:Nat->Nat)(q:Nat):List eD:=(List.range q).map λi=>π (μ ⟨P i,0,ν⟩)
theorem Lu(P:Nat->Nat)(q:Nat):vq P (q+1)=vq P q++ [π (μ ⟨P q,0,ν⟩)] :=by simp[vq,List.range_succ]
theorem Jl {P':Nat->Nat} (h:∀i,i<q->P i=P' i):vq P q=vq P' q:=by
 unfold vq;refine List.map_congr_left λi hi=> ?_;rw[h i (a7.1 hi)]
theorem S1(P:Nat->Nat)(h:i<q):(vq P q)[i]? =μ (π (μ ⟨P i,0,ν⟩)):=by simp[vq,h]
def oP(m:Nat):Array eD:=Array.replicate m (σ ν 0 0)
structure AY(w W:eB)(N gI bM m:Nat)(E:List (Int×Int×Int))(ms:Nat->Nat->Int)(q j:Nat)(L:List oI)(v v2:eD)(P lo hi:Nat->Nat):Prop where
 nU:eN w W
 nb:jr W N #[v,σ (μ ⟨gI,0,ν⟩) m m,.map (μ bM),v2] 190
 gi:jr W gI (oP m) 53
 mp:nY W bM E
 row:Row W 1 v q (vq P q)
 AZ:Row W 7 v2 j (rE (L.take j))
 ne:N≠gI/\N≠bM/\gI≠bM/\w.heap.size<=N/\w.heap.size<=gI/\w.heap.size<=bM
 fv:∀k,v.ownBlock=μ k->w.heap.size<=k/\k≠N/\k≠gI/\k≠bM
 Gp:∀k,v2.ownBlock=μ k->w.heap.size<=k/\k≠N/\k≠gI/\k≠bM/\v.ownBlock≠μ k
 Ur:∀i,i<q->VO W i (ms i) (P i) (lo i) (hi i)
 lw:∀i,i<q->w.heap.size<=lo i
 sep:∀i k,i<k->k<q->hi i<=lo k
 out:∀i,i<q->∀k,(k=N \/k=gI \/k=bM \/v.ownBlock=μ k \/v2.ownBlock=μ k)->k<lo i \/hi i<=k
section
variable {w W W':World} {N gI bM m:Nat} {E:List (Int×Int×Int)} {ms:Nat->Nat->Int} {q j:Nat} {L:List oI} {v v2:Value} {P lo hi:Nat->Nat}
theorem AY.uW(h:AY w W N gI bM m E ms q j L v v2 P lo hi):N<W.heap.size:=h.nb.lt
theorem AY.Pa(h:AY w W N gI bM m E ms q j L v v2 P lo hi):bM<W.heap.size:=by
 obtain⟨es,clock,h1,_⟩:=h.mp;exact(aw.1 h1).1
theorem AY.below(h:AY w W N gI bM m E ms q j L v v2 P lo hi)(hb:eN W W'):AY w W' N gI bM m E ms q j L v v2 P lo hi:=
 ⟨iA h.nU hb,h.nb.below hb,h.gi.below hb,h.mp.keep (hb.block bM h.Pa),h.row.below hb,h.AZ.below hb,h.ne,h.fv,h.Gp,λi lO=>(h.Ur i lO).step hb.size (λb _ h2=>hb.block b (by
  obtain⟨_,_,_,_,_,h5,_⟩:=h.Ur i lO;omega)),h.lw,h.sep,h.out⟩
theorem AY.CB(h:AY w W N gI bM m E ms q j L v v2 P lo hi) {W1:eB} {z:Zt} (hz:lW W1 z (jX ((q:Int)+1) 3 (ms q)))(hb:eN W W1)(hzf:∀b,z.oj b->W.heap.size<=b)(hzX:∀b,b<W.heap.size->z.fm.no b)
 {o:Obj} {v':eD} (hr:Row W2 1 v' (q+1) (vq P q++ [π (μ ⟨z.R,0,ν⟩)])) (hg:(W1.alloc o).grownBy W2 v.ownBlock) (hv:∀k,v'.ownBlock=μ k->v.ownBlock=μ k \/W1.heap.size<=k):
 AY w (W2.setCell ⟨N,0,ν⟩ v') N gI bM m E ms (q+1) j L v' v2 (jI P q z.R) (jI lo q W.heap.size) (jI hi q W1.heap.size):=by
 have VP:W1.heap.size<=W2.heap.size:=Nat.le_trans iC hg.size;have S6:∀b,b<W1.heap.size->v.ownBlock≠μ b->W2.heap[b]? =W1.heap[b]? :=λb qU hn=>(hg.block b (by simp;omega) (λe=>hn e.symm)).trans (aT W1 o b qU);have nR:∀b,b<W1.heap.size->v.ownBlock≠μ b->b≠N->(W2.setCell ⟨N,0,ν⟩ v').heap[b]? =W1.heap[b]? :=λb qU hn hN=>(ak _ _ _ b hN).trans (S6 b qU hn);have h1:=h.below hb;have hNv:v.ownBlock≠μ N:=λe=>(h.fv N e).2.1 rfl;have ZD:∀k,v'.ownBlock=μ k->k≠N:=λk e e1=>by
  rcases hv k e with h2|h2
  ·exact(h.fv k h2).2.1 e1
  ·have:=h1.uW;omega
 have Cy:eN w W2:=by
  have h2:=(h1.nU.alloc h1.nU.size o).grown hg (by simp;have:=h1.nU.size;omega) (λk e=>(h.fv k e).1);exact h2
 have alU:=h.nU.size;have pK:∀i,i<q->lo i<=hi i/\hi i<=W.heap.size:=λi lO=>by
  obtain⟨_,_,_,_,h4,h5,_⟩:=h.Ur i lO;exact⟨h4,h5⟩
 have mW:lW (W2.setCell ⟨N,0,ν⟩ v') (z.plus λb=>W1.heap.size<=b/\b<(W2.setCell ⟨N,0,ν⟩ v').heap.size) (jX ((q:Int)+1) 3 (ms q)):=by
  refine hz.besides (by simpa using VP) (λb qU hc=> ?_) _ (λb e=>e);have hbW:W.heap.size<=b:=by
   rcases hc with hc|hc
   ·exact Nat.le_of_not_lt (λe=>hc (hzX b e))
   ·exact hzf b (.inl hc)
  exact nR b qU (λe=>by have:=h.row.lt b e;omega) (λe=>by have:=h.uW;omega)
 refine⟨Cy.setCell (by show w.heap.size<=N;exact h.ne.2.2.2.1) _,?_,h1.gi.keep (nR gI h1.gi.lt (λe=>(h.fv gI e).2.2.1 rfl) (λe=>h.ne.1 e.symm)),h1.mp.keep (nR bM h1.Pa (λe=>(h.fv bM e).2.2.2 rfl) (λe=>h.ne.2.1 e.symm)),?_,h1.AZ.keep (by simpa using VP) (λk e=>nR k (h1.AZ.lt k e) (h.Gp k e).2.2.2.2 (h.Gp k e).2.1),h.ne,λk e=> ?_,λk e=> ?_,λi lO=> ?_,λi lO=> ?_,λi k hik hk=> ?_,λi lO k hk=> ?_⟩
 ·have h2:jr W2 N #[v,σ (μ ⟨gI,0,ν⟩) m m,.map (μ bM),v2] 190:=h1.nb.keep (S6 N h1.uW hNv);exact h2.set 0 v'
 ·rw[Lu,iP,Jl (P':=P) (λi lO=>iL _ _ eE)];exact hr.keep iC (λk e=>ak _ _ _ k (ZD k e))
 ·rcases hv k e with h2|h2
  ·exact h.fv k h2
  ·have a1:=h1.uW;have a2:=h1.gi.lt;have a3:=h1.Pa;have a4:=h1.nU.size;omega
 ·refine⟨(h.Gp k e).1,(h.Gp k e).2.1,(h.Gp k e).2.2.1,(h.Gp k e).2.2.2.1,λe1=> ?_⟩;rcases hv k e1 with h2|h2
  ·exact(h.Gp k e).2.2.2.2 h2
  ·have:=h1.AZ.lt k e;omega
 ·by_cases ei:i=q
  ·subst ei;rw[iP,iP,iP];refine⟨z.plus λb=>W1.heap.size<=b/\b<(W2.setCell ⟨N,0,ν⟩ v').heap.size,rfl,mW,λb qU=>⟨hzf b qU,hz.xk rfl qU⟩,hb.size,by simpa using VP,λb qU=> ?_⟩;show z.fm.no b \/_;rcases qU with e|e
   ·exact .inl (hzX b e)
   ·exact .inr e
  ·rw[iL _ _ ei,iL _ _ ei,iL _ _ ei];have Up:i<q:=eE;refine(h1.Ur i Up).step (by simpa using VP) (λb b1 b2=> ?_);have b3:=(pK i Up).2;have hs:=hb.size;refine nR b eE (λe=> ?_) (λe=> ?_)
   ·have:=h.out i Up b (.inr (.inr (.inr (.inl e))));omega
   ·have:=h.out i Up b (.inl e);omega
 ·by_cases ei:i=q
  ·subst ei;rw[iP];exact h.nU.size
  ·rw[iL _ _ ei];exact h.lw i eE
 ·by_cases ek:k=q
  ·subst ek;rw[iL _ _ eE,iP];exact(pK i hik).2
  ·rw[iL _ _ eE,iL _ _ ek];exact h.sep i k hik eE
 ·have hold:(k=N \/k=gI \/k=bM \/v.ownBlock=μ k \/v2.ownBlock=μ k) \/W1.heap.size<=k:=by
   rcases hk with e|e|e|e|e
   ·exact .inl (.inl e)
   ·exact .inl (.inr (.inl e))
   ·exact .inl (.inr (.inr (.inl e)))
   ·exact(hv k e).imp_left (λe=>.inr (.inr (.inr (.inl e))))
   ·exact .inl (.inr (.inr (.inr (.inr e))))
  by_cases ei:i=q
  ·subst ei;rw[iP,iP];rcases hold with e|e
   ·left;rcases e with e|e|e|e|e
    ·have:=h.uW;omega
    ·have:=h.gi.lt;omega
    ·have:=h.Pa;omega
    ·exact h.row.lt k e
    ·exact h.AZ.lt k e
   ·exact .inr e
  ·rw[iL _ _ ei,iL _ _ ei];rcases hold with e|e
   ·exact h.out i eE k e
   ·have:=(pK i eE).2;have hs:=hb.size;exact .inr eE
theorem AY.EK(h:AY w W N gI bM m E ms q j L v v2 P lo hi) {v':eD} (ht:L.take (j+1)=L.take j++ [c])(hr:Row W2 7 v' (j+1) (rE (L.take j)++rE [c]))(hg:W.grownBy W2 v2.ownBlock)(hv:∀k,v'.ownBlock=μ k->v2.ownBlock=μ k \/W.heap.size<=k):
 AY w (W2.setCell ⟨N,3,ν⟩ v') N gI bM m E ms q (j+1) L v v' P lo hi:=by
 have S6:∀b,b<W.heap.size->v2.ownBlock≠μ b->W2.heap[b]? =W.heap[b]? :=λb qU hn=>hg.block b qU (λe=>hn e.symm);have nR:∀b,b<W.heap.size->v2.ownBlock≠μ b->b≠N->(W2.setCell ⟨N,3,ν⟩ v').heap[b]? =W.heap[b]? :=λb qU hn hN=>(ak _ _ _ b hN).trans (S6 b qU hn);have hNv:v2.ownBlock≠μ N:=λe=>(h.Gp N e).2.1 rfl;have ZD:∀k,v'.ownBlock=μ k->k≠N:=λk e e1=>by
  rcases hv k e with h2|h2
  ·exact(h.Gp k h2).2.1 e1
  ·have:=h.uW;omega
 have Cy:eN w W2:=h.nU.grown hg h.nU.size (λk e=>(h.Gp k e).1);refine⟨Cy.setCell (by show w.heap.size<=N;exact h.ne.2.2.2.1) _,?_,h.gi.keep (nR gI h.gi.lt (λe=>(h.Gp gI e).2.2.1 rfl) (λe=>h.ne.1 e.symm)),h.mp.keep (nR bM h.Pa (λe=>(h.Gp bM e).2.2.2.1 rfl) (λe=>h.ne.2.1 e.symm)),h.row.keep (by simpa using hg.size) (λk e=>nR k (h.row.lt k e) (λe1=>(h.Gp k e1).2.2.2.2 e) (h.fv k e).2.1),?_,h.ne,h.fv,λk e=> ?_,λi lO=> ?_,h.lw,h.sep,λi lO k hk=> ?_⟩
 ·have h2:jr W2 N #[v,σ (μ ⟨gI,0,ν⟩) m m,.map (μ bM),v2] 190:=h.nb.keep (S6 N h.uW hNv);exact h2.set 3 v'
 ·rw[ht,Jk];exact hr.keep iC (λk e=>ak _ _ _ k (ZD k e))
 ·rcases hv k e with h2|h2
  ·exact h.Gp k h2
  ·have a1:=h.uW;have a2:=h.gi.lt;have a3:=h.Pa;have a4:=h.nU.size;refine⟨eE,eE,eE,eE,λe1=> ?_⟩;have:=h.row.lt k e1;omega
 ·obtain⟨_,_,_,_,h4,h5,_⟩:=h.Ur i lO;refine(h.Ur i lO).step (by simpa using hg.size) (λb b1 b2=>nR b eE (λe=> ?_) (λe=> ?_))
  ·have:=h.out i lO b (.inr (.inr (.inr (.inr e))));omega
  ·have:=h.out i lO b (.inl e);omega
 ·obtain⟨_,_,_,_,h4,h5,_⟩:=h.Ur i lO;rcases hk with e|e|e|e|e
  ·exact h.out i lO k (.inl e)
  ·exact h.out i lO k (.inr (.inl e))
  ·exact h.out i lO k (.inr (.inr (.inl e)))
  ·exact h.out i lO k (.inr (.inr (.inr (.inl e))))
  ·rcases hv k e with h2|h2
   ·exact h.out i lO k (.inr (.inr (.inr (.inr h2))))
   ·exact .inr eE
end
def ox(E:List (Int×Int×Int)):List (Int×Int):=E.map λx=>(x.1,x.2.1)
theorem zr:∀ {E:List (Int×Int×Int)} {r p:Int},(kX E r p).isSome=true↔(r,p)∈ox E
 |[],r,p=>by simp[kX,ox]
 |x::E,r,p=>by
  unfold kX;have ih:=zr (E:=E) (r:=r) (p:=p);split
  ·rename_i h
   simp[ox,h.1,h.2]
  ·rename_i h
   rw[ih];constructor
   ·intro h1;exact dj _ h1
   ·intro h1;have h2:(r,p)=(x.1,x.2.1) \/(r,p)∈ox E:=by
     have:(r,p)∈(x.1,x.2.1)::ox E:=h1;simpa using this
    rcases h2 with h2|h2
    ·injection h2 with h3 h4
     exact absurd ⟨h3.symm,h4.symm⟩ h
    ·exact h2
theorem S7 {E:List (Int×Int×Int)} (h:qx many c E=0):(1<=c.m/\c.m<=20)/\ot many c.a c.pa=true/\ot many c.b c.pb=true/\(c.a,c.pa)∉ox E/\(c.b,c.pb)∉ox (E++ [(c.a,c.pa,c.m)]):=by
 unfold qx at h;split at h
 ·simp at h
 ·split at h
  ·simp at h
  ·split at h
   ·simp at h
   ·split at h
    ·simp at h
    ·split at h
     ·simp at h
     ·rename_i h1 h2 h3 h4 h5
      refine⟨eE,by simpa using h2,by simpa using h4,λe=>h3 (zr.2 e),λe=>h5 (zr.2 e)⟩
theorem MZ {many:Int}:∀(L:List oI) (E:List (Int×Int×Int)),xf many L E=0->(ox E).Nodup->(∀c∈L,(1<=c.m/\c.m<=20)/\ot many c.a c.pa=true/\ot many c.b c.pb=true)/\(ox (E++kB L)).Nodup
 |[],E,_,hn=>⟨λc hc=>by simp at hc,by simpa[kB]using hn⟩
 |c::L,E,h,hn=>by
  rw[EV]at h;have h1:qx many c E=0:=by
   rcases Nat.eq_zero_or_pos (qx many c E)with e|e
   ·exact e
   ·rw[ag eE]at h;omega
  rw[h1,ae iC]at h;obtain⟨g1,g2,g3,g4,g5⟩:=S7 h1;have xF:(ox (E++ [(c.a,c.pa,c.m),(c.b,c.pb,c.m)])).Nodup:=by
   have e1:ox (E++ [(c.a,c.pa,c.m),(c.b,c.pb,c.m)])=(ox E++ [(c.a,c.pa)])++ [(c.b,c.pb)] :=by simp[ox]
   have e2:ox (E++ [(c.a,c.pa,c.m)])=ox E++ [(c.a,c.pa)] :=by simp[ox]
   rw[e1];rw[e2]at g5;refine cG.2 ⟨cG.2 ⟨hn,iC,?_⟩,iC,?_⟩
   ·intro x hx y hy e;have:y=(c.a,c.pa):=by simpa using hy
    exact g4 (by rw[<-this,<-e];exact hx)
   ·intro x hx y hy e;have:y=(c.b,c.pb):=by simpa using hy
    exact g5 (by rw[<-this,<-e];exact hx)
  obtain⟨h2,h3⟩:=MZ L _ h xF;refine⟨λx hx=> ?_,?_⟩
  ·rcases bn.1 hx with rfl|hx
   ·exact⟨g1,g2,g3⟩
   ·exact h2 x hx
  ·have e:E++kB (c::L)=E++ [(c.a,c.pa,c.m),(c.b,c.pb,c.m)] ++kB L:=by simp[kB]
   rw[e];exact h3
structure pH(many:Int)(L:List oI):Prop where
 m:1<=many/\many<=6
 l:L.length<=9
 c:∀c∈L,(1<=c.m/\c.m<=20)/\ot many c.a c.pa=true/\ot many c.b c.pb=true
 nd:(ox (kB L)).Nodup
theorem tY(h:nk many L=0):pH many L:=by
 unfold nk at h;split at h
 ·simp at h
 ·split at h
  ·simp at h
  ·obtain⟨h1,h2⟩:=MZ L [] h (by simp[ox]);exact⟨eE,eE,h1,by simpa using h2⟩
theorem oZ(h:ot many r p=true):1<=r/\r<=many/\0<=p/\p<3:=by
 unfold ot at h;simp only[Bool.and_eq_true,decide_eq_true_eq]at h;omega
theorem Pb {x:Int×Int×Int} (h:x∈kB L):∃c∈L,x=(c.a,c.pa,c.m) \/x=(c.b,c.pb,c.m):=by
 unfold kB at h;obtain⟨c,hc,h1⟩:=bB.1 h;exact⟨c,hc,by simpa using h1⟩
theorem pH.ms(h:pH many L)(i p:Nat):1<=pM L i p/\pM L i p<=20:=by
 unfold pM;cases hl:kX (kB L) ((i:Int)+1) (p:Int)with
 |none=>exact⟨eH,eH⟩
 |some m=>
  obtain⟨c,hc,h1⟩:=Pb (ET hl);have h2:=(h.c c hc).1;show 1<=m/\m<=20;rcases h1 with h1|h1
  ·injection h1 with _ h3
   injection h3 with _ h4
   rw[h4];exact h2
  ·injection h1 with _ h3
   injection h3 with _ h4
   rw[h4];exact h2
theorem pH.tells(h:pH many L)(m:Nat)(hE:Bi (kB L)):Sc (kB L) m (pM L):=⟨λi p _ _=>⟨rfl,h.ms i p⟩,hE⟩
theorem yk(L:List oI)(c d:Nat)(hc:c<L.length):(rY L c).e d=if d=0 then((L[c].a-1).toNat,L[c].pa.toNat)else((L[c].b-1).toNat,L[c].pb.toNat):=by
 unfold rY oI.at;simp only[List.getD_eq_getElem?_getD,List.getElem?_eq_getElem hc,Option.getD_some]
theorem pH.en(h:pH many L)(c d:Nat)(hc:c<L.length):((rY L c).e d).1<many.toNat/\((rY L c).e d).2<3:=by
 rw[yk L c d hc];obtain⟨_,h1,h2⟩:=h.c L[c] (aE hc);have e1:=oZ h1;have e2:=oZ h2;split
 ·simp only;omega
 ·simp only;omega
theorem CW:∀(L:List oI) (c d:Nat) (hc:c<L.length),d<2->(ox (kB L))[2*c+d]? =μ (if d=0 then(L[c].a,L[c].pa)else(L[c].b,L[c].pb))
 |x::L,0,d,_,hd=>by
  have:d=0 \/d=1:=eE;rcases this with rfl|rfl<;>rfl
 |x::L,c+1,d,hc,hd=>by
  have e:ox (kB (x::L))=[(x.a,x.pa),(x.b,x.pb)] ++ox (kB L):=by simp[ox,kB]
  rw[e,bz (by simp;omega)];have e2:2*(c+1)+d-List.length [(x.a,x.pa),(x.b,x.pb)] =2*c+d:=by simp;omega
  rw[e2];exact CW L c d (by simpa using hc) hd
theorem Pc {α:Type} {l:List α} (h:l.Nodup) {j:Nat} (hi:i<l.length)(hj:j<l.length)(e:l[i] =l[j]):i=j:=by
 have hp:=dL.1 h;rcases Nat.lt_trichotomy i j with h1|h1|h1
 ·exact absurd e (hp i j hi hj h1)
 ·exact h1
 ·exact absurd e.symm (hp j i hj hi h1)
theorem pH.ds(h:pH many L)(c d c' d':Nat)(hc:c<L.length)(hd:d<2)(kS:c'<L.length)(lD:d'<2)(he:(rY L c).e d=(rY L c').e d'):c=c'/\d=d':=by
 have k1:=CW L c d hc hd;have k2:=CW L c' d' kS lD;rw[yk L c d hc,yk L c' d' kS]at he;obtain⟨_,a1,a2⟩:=h.c L[c] (aE hc);obtain⟨_,b1,b2⟩:=h.c L[c'] (aE kS);have e1:=oZ a1;have e2:=oZ a2;have e3:=oZ b1;have e4:=oZ b2;have wX:(if d=0 then(L[c].a,L[c].pa)else(L[c].b,L[c].pb))=(if d'=0 then(L[c'].a,L[c'].pa)else(L[c'].b,L[c'].pb)):=by
  by_cases h0:d=0
  ·by_cases h1:d'=0
   ·rw[ag h0,ag h1]at he⊢;injection he with p1 p2
    rw[show L[c].a=L[c'].a by omega,show L[c].pa=L[c'].pa by omega]
   ·rw[ag h0,ae h1]at he⊢;injection he with p1 p2
    rw[show L[c].a=L[c'].b by omega,show L[c].pa=L[c'].pb by omega]
  ·by_cases h1:d'=0
   ·rw[ae h0,ag h1]at he⊢;injection he with p1 p2
    rw[show L[c].b=L[c'].a by omega,show L[c].pb=L[c'].pa by omega]
   ·rw[ae h0,ae h1]at he⊢;injection he with p1 p2
    rw[show L[c].b=L[c'].b by omega,show L[c].pb=L[c'].pb by omega]
 rw[wX]at k1;obtain⟨l1,v1⟩:=aH.1 k1;obtain⟨l2,v2⟩:=aH.1 k2;have:=Pc h.nd l1 l2 (v1.trans v2.symm);omega
theorem ym(h:pH many L):j6 (jE many.toNat L) 0 0:=by
 have hm:=h.m;refine⟨by show 1<=many.toNat;omega,by show many.toNat<=6;omega,h.l,λc d hc _=>h.en c d hc,λc d c' d' hc hd kS lD e=>h.ds c d c' d' hc hd kS lD e,λi p _ _=>h.ms i p,λi _=>⟨rfl,rfl⟩,λi hi=> ?_,λ_ _=>⟨Int.le_refl _,Int.le_refl _⟩,λ_ _ _ _=>Nat.zero_le _,λ_ _=>Nat.le_refl _,λi p _ _ _=>pY _ _ p,λ_ _=>⟨Nat.le_refl _,λ_ _=>Nat.zero_le _⟩⟩;have lO:i<many.toNat:=hi;exact yh eE (λp _=>h.ms i p)
theorem Row.spare {sz g n n' cap:Nat} {xs:List eD} (h:Row w sz (σ (μ ⟨g,0,ν⟩) n' cap) n xs)(j:Nat)(hj:j<n*sz):w.frozen? ⟨g,j,ν⟩=false:=by
 rcases h.2 with⟨e,_⟩|⟨g',jL,e,_,h1,_,_,h4⟩
 ·simp at e
 ·simp at e;obtain⟨rfl,rfl,rfl⟩:=e;exact(h4 j (Nat.lt_of_lt_of_le hj (Nat.mul_le_mul_right sz h1))).2
def ZE(g:Option Nat)(n c:Nat):eD:=match g with|none=>.slice none 0 0|some g=>.slice (some ⟨g,0,none⟩) n c
theorem AY.done {N gI bM:Nat} {v v2:eD} {lo hi:Nat->Nat} (jb:pH many L)(hE:Bi (kB L))(h:AY w W N gI bM many.toNat (kB L) (pM L) many.toNat L.length L v v2 P lo hi)(hw:0<w.heap.size)(X:Nat->Prop)(hX:∀b,X b->b<w.heap.size):
 ∃y,jJ W y (jE many.toNat L)/\y.N=N/\(∀b,y.all many.toNat b->w.heap.size<=b)/\∀b,y.ext b↔X b:=by
 have hm:=jb.m;obtain⟨m,R6⟩:=gH (many.toNat);have vY:1<=m/\m<=6:=eE;have Oa:=λc d (hc:c<L.length) (_:d<2)=>jb.en c d hc;rw[R6]at h Oa⊢;have Vx:∃gR sA,v=σ (μ ⟨gR,0,ν⟩) m sA:=by
  rcases h.row.2 with⟨_,e2⟩|⟨g,c,e,_⟩
  ·omega
  ·exact⟨g,c,e⟩
 obtain⟨gR,sA,rfl⟩:=Vx;have hgC:∃gC uT,v2=ZE gC L.length uT/\(gC=ν->L.length=0):=by
  rcases h.AZ.2 with⟨e,e2⟩|⟨g,c,e,_⟩
  ·exact⟨ν,0,e,λ_=>e2⟩
  ·exact⟨μ g,c,e,λe=>by simp at e⟩
 obtain⟨gC,uT,rfl,H5⟩:=hgC;have hex:∀i,∃z:Zt,i<m->z.R=P i/\lW W z (jX ((i:Int)+1) 3 (pM L i))/\(∀b,z.oj b->lo i<=b/\b<hi i)/\∀b,(b<lo i \/(hi i<=b/\b<W.heap.size))->z.fm.no b:=λi=>by
  by_cases lO:i<m
  ·obtain⟨z,h1,h2,h3,_,_,h6⟩:=h.Ur i lO;exact⟨z,λ_=>⟨h1,h2,h3,h6⟩⟩
  ·obtain⟨z,_⟩:=h.Ur 0 eE;exact⟨z,λe=>absurd e lO⟩
 obtain⟨z,hz⟩:=Classical.skolem.1 hex;have hhi:∀i,i<m->lo i<=hi i/\hi i<=W.heap.size:=λi lO=>by
  obtain⟨_,_,_,_,h4,h5,_⟩:=h.Ur i lO;exact⟨h4,h5⟩
 obtain⟨y,hy⟩:∃y:Yt,y={N:=N,gR:=gR,sA:=sA,gI:=gI,xh:=m,gC:=gC,uT:=uT,bM:=bM,z:=z,iv:=λ_=>σ ν 0 0,ov:=λ_ _=>σ ν 0 0,ext:=X}:=⟨_,rfl⟩
 have hvR:eF (σ (μ ⟨gR,0,ν⟩) m sA)=μ gR:=rfl;have ZF:∀g,gC=μ g->eF (ZE gC L.length uT)=μ g:=λg e=>by subst e;rfl
 have hat:∀l k,y.at l=μ k->(l=.N/\k=N) \/(l=.R/\k=gR) \/(l=.I/\k=gI) \/(l=.C/\gC=μ k):=λl k e=>by
  rw[hy]at e;cases l with
  |N=>exact .inl ⟨rfl,(Option.some.inj e).symm⟩
  |R=>exact .inr (.inl ⟨rfl,(Option.some.inj e).symm⟩)
  |I=>exact .inr (.inr (.inl ⟨rfl,(Option.some.inj e).symm⟩))
  |C=>exact .inr (.inr (.inr ⟨rfl,e⟩))
  |ib i=>simp[Yt.at,eF]at e
  |on c d=>simp[Yt.at,eF]at e
 have jC:∀k,y.own k->(k=N \/k=gR \/k=gI \/gC=μ k):=λk ⟨l,e⟩=>by
  rcases hat l k e with⟨_,e⟩|⟨_,e⟩|⟨_,e⟩|⟨_,e⟩
  ·exact .inl e
  ·exact .inr (.inl e)
  ·exact .inr (.inr (.inl e))
  ·exact .inr (.inr (.inr e))
 have hR:=h.fv gR hvR;have Xw:∀k,gC=μ k->w.heap.size<=k/\k≠N/\k≠gI/\k≠bM/\gR≠k:=λk e=>by
  obtain⟨a1,a2,a3,a4,a5⟩:=h.Gp k (ZF k e);exact⟨a1,a2,a3,a4,λe1=>a5 (by rw[<-e1];rfl)⟩
 have Lv:∀k,y.own k->w.heap.size<=k:=λk e=>by
  rcases jC k e with e|e|e|e
  ·rw[e];exact h.ne.2.2.2.1
  ·rw[e];exact hR.1
  ·rw[e];exact h.ne.2.2.2.2.1
  ·exact(Xw k e).1
 have ZG:∀k,y.own k->k<W.heap.size:=λk e=>by
  rcases jC k e with e|e|e|e
  ·rw[e];exact h.uW
  ·rw[e];exact h.row.lt gR hvR
  ·rw[e];exact h.gi.lt
  ·exact h.AZ.lt k (ZF k e)
 have VQ:∀k,y.own k->∀i,i<m->k<lo i \/hi i<=k:=λk e i lO=>by
  rcases jC k e with e|e|e|e
  ·exact h.out i lO k (.inl e)
  ·exact h.out i lO k (.inr (.inr (.inr (.inl (by rw[e];rfl)))))
  ·exact h.out i lO k (.inr (.inl e))
  ·exact h.out i lO k (.inr (.inr (.inr (.inr (ZF k e)))))
 have hyz:y.z=z:=by rw[hy]
 have hye:y.ext=X:=by rw[hy]
 have hwW:=h.nU.size;refine⟨y,⟨vY.1,vY.2,jb.l,?_,?_,?_,?_,?_,?_,?_,?_,?_,?_,λ_ _ _ _=>Nat.zero_le _,Oa,?_,?_,?_,?_,?_⟩,by rw[hy],?_,λb=>by rw[hye]⟩
 ·rw[hy];have e:(Yt.cv {N:=N,gR:=gR,sA:=sA,gI:=gI,xh:=m,gC:=gC,uT:=uT,bM:=bM,z:=z,iv:=λ_=>σ ν 0 0,ov:=λ_ _=>σ ν 0 0,ext:=X} L.length)=ZE gC L.length uT:=by
   rfl
  show jr W N #[σ (μ ⟨gR,0,ν⟩) m sA,σ (μ ⟨gI,0,ν⟩) m m,.map (μ bM),Yt.cv _ L.length] 190;rw[e];exact h.nb
 ·intro j hj;have Hd:j<m:=hj;rw[hy];show W.cell? ⟨gR,0+j,ν⟩=μ (π (μ ⟨(z j).R,0,ν⟩))/\W.frozen? ⟨gR,0+j,ν⟩=false;rw[Nat.zero_add,(hz j Hd).1];exact⟨Row.cell h.row j _ (S1 P Hd),Row.spare h.row j eE⟩
 ·intro j hj;have Hd:j<m:=hj;rw[hy];show W.cell? ⟨gI,0+j,ν⟩=μ (σ ν 0 0)/\W.frozen? ⟨gI,0+j,ν⟩=false;rw[Nat.zero_add];have h1:=h.gi.cell j;have e:(oP m)[j]? =μ (σ ν 0 0):=by
   unfold oP;rw[dP,ag Hd]
  exact⟨h1.trans e,h.gi.frozen j⟩
 ·intro g hg c hc;have Dy:gC=μ g:=by rw[hy]at hg;exact hg
  subst Dy;have kS:c<L.length:=hc;intro i lO;have ji:Row W 7 (σ (μ ⟨g,0,ν⟩) L.length uT) L.length (rE (L.take L.length)):=h.AZ;rw[dc]at ji;refine⟨?_,Row.spare ji (c*7+i) eE⟩;have h1:=MY L c i kS lO;have h2:[eI .i64 L[c].a,ι κ L[c].pa,ι κ L[c].b,ι κ L[c].pb,.bool false,σ ν 0 0,σ ν 0 0][i]? =μ (AO (rY L c) (y.ov c) i):=by
   obtain⟨_,a1,a2⟩:=jb.c L[c] (aE kS);have e1:=oZ a1;have e2:=oZ a2;have f0:=yk L c 0 kS;have f1:=yk L c 1 kS;rw[ag rfl]at f0;rw[ae eH]at f1;have q1:(((L[c].a-1).toNat:Nat):Int)+1=L[c].a:=eE;have q2:((L[c].pa.toNat:Nat):Int)=L[c].pa:=eE;have q3:(((L[c].b-1).toNat:Nat):Int)+1=L[c].b:=eE;have q4:((L[c].pb.toNat:Nat):Int)=L[c].pb:=eE;have:i=0 \/i=1 \/i=2 \/i=3 \/i=4 \/i=5 \/i=6:=eE;rcases this with rfl|rfl|rfl|rfl|rfl|rfl|rfl
   ·show μ _=μ (eI .i64 ((((rY L c).e 0).1:Int)+1));rw[f0,q1]
   ·show μ _=μ (eI .i64 (((rY L c).e 0).2:Int));rw[f0,q2]
   ·show μ _=μ (eI .i64 ((((rY L c).e 1).1:Int)+1));rw[f1,q3]
   ·show μ _=μ (eI .i64 (((rY L c).e 1).2:Int));rw[f1,q4]
   ·rfl
   ·rw[hy];rfl
   ·rw[hy];rfl
  rw[h2]at h1;exact Row.cell ji _ _ h1
 ·intro c hc;have kS:c<L.length:=hc;rw[hy];show∃g,gC=μ g;cases hg:gC with
  |none=>have:=H5 hg;omega
  |some g=>exact⟨g,rfl⟩
 ·exact⟨kB L,by rw[hy];exact h.mp,jb.tells m hE⟩
 ·intro i lO;rw[hyz];exact(hz i lO).2.1
 ·exact λi _=>⟨rfl,rfl⟩
 ·intro i _;rw[hy];exact Row.nil _ 3
 ·intro c d _ _;rw[hy];exact Row.nil _ 1
 ·intro l l' k e e';rcases hat l k e with⟨h1,h2⟩|⟨h1,h2⟩|⟨h1,h2⟩|⟨h1,h2⟩<;>rcases hat l' k e' with⟨h3,h4⟩|⟨h3,h4⟩|⟨h3,h4⟩|⟨h3,h4⟩
  ·rw[h1,h3]
  ·exact absurd (h4.symm.trans h2) hR.2.1
  ·exact absurd (h2.symm.trans h4) h.ne.1
  ·exact absurd h2 (Xw k h4).2.1
  ·exact absurd (h2.symm.trans h4) hR.2.1
  ·rw[h1,h3]
  ·exact absurd (h2.symm.trans h4) hR.2.2.1
  ·exact absurd h2.symm (Xw k h4).2.2.2.2
  ·exact absurd (h4.symm.trans h2) h.ne.1
  ·exact absurd (h4.symm.trans h2) hR.2.2.1
  ·rw[h1,h3]
  ·exact absurd h2 (Xw k h4).2.2.1
  ·exact absurd h4 (Xw k h2).2.1
  ·exact absurd h4.symm (Xw k h2).2.2.2.2
  ·exact absurd h4 (Xw k h2).2.2.1
  ·rw[h1,h3]
 ·intro i lO b hb;have VR:i<m:=lO;obtain⟨_,_,z3,z4⟩:=hz i VR;rw[hyz];have Vs:b<lo i \/(hi i<=b/\b<W.heap.size):=by
   rcases hb with e|e|⟨j,hj,jV,e⟩
   ·have h1:=VQ b e i VR;have h2:=ZG b e;omega
   ·rw[hye]at e;have h1:=hX b e;have h2:=h.lw i VR;omega
   ·have Hd:j<m:=hj;rw[hyz]at e;have h1:=(hz j Hd).2.2.1 b e;have h2:=hhi j Hd;rcases Nat.lt_or_gt_of_ne jV with h3|h3
    ·have:=h.sep j i h3 VR;omega
    ·have:=h.sep i j h3 Hd;omega
  exact⟨z4 b Vs,λe=>by have:=z3 b (.inl e);omega⟩
 ·intro b hb e;rw[hye]at hb;have h1:=hX b hb;have h2:=Lv b e;omega
 ·have hbm:y.bM=bM:=by rw[hy]
  rw[hbm,hye,hyz];refine⟨λe=> ?_,λe=> ?_,λi lO e=> ?_⟩
  ·rcases jC bM e with e|e|e|e
   ·exact h.ne.2.1 e.symm
   ·exact hR.2.2.2 e.symm
   ·exact h.ne.2.2.1 e.symm
   ·exact(Xw bM e).2.2.2.1 rfl
  ·have h1:=hX bM e;have h2:=h.ne.2.2.2.2.2;omega
  ·have h1:=(hz i lO).2.2.1 bM e;have h2:=h.out i lO bM (.inr (.inr (.inl rfl)));omega
 ·intro e;have:=Lv 0 e;omega
 ·intro b e;rcases e with e|⟨j,hj,e⟩
  ·exact Lv b e
  ·rw[hyz]at e;have h1:=(hz j hj).2.2.1 b e;have h2:=h.lw j hj;omega
end Rt
end Go.Proofs.YtieklnlbljejdaaGreatDoor
