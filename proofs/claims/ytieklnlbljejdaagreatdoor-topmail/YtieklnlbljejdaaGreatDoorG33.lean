import Derived.Test.YtieklnlbljejdaaGreatDoorG31
open Go.Value renaming int → ι, slice → σ, pointer → π, tuple → τ, nilIface → η
open Go.IntKind renaming i64 → κ
open Go.Ending renaming returned → ρ
open Go.Obj renaming cells → γ
open Option renaming none → ν, some → μ
open Go renaming World → eB, Calls → fj
open Go.Proofs.Tryz renaming prog → fk, results43 → iH
open Go.RowKit renaming intOf → ft
open Go.Instr renaming makeSlice → iD
open Go.Value renaming bool → iG, cells → fD
open Classical renaming choose → iI
set_option maxRecDepth 100000
set_option maxHeartbeats 8000000
namespace Go.Proofs.YtieklnlbljejdaaGreatDoor
open Go.RowKit St
namespace Rt
variable {L:List oI} {N g i k m:Nat} {V:Nat->AV} {W W' w w' w0:World} {X:Nat->Prop} {e:Ending} {many:Int} {r:iY} {tx:List UInt8}
def D7(r:iY):Prop:=∀p,∃ps,Frames (r.P p).out ps
theorem mH.fr {r':iY} (h:mH r r')(hw:D7 r):D7 r':=λp=>by
 obtain⟨ps,tJ⟩:=hw p;obtain⟨qs,hq⟩:=h.out p ps tJ;exact⟨_,hq⟩
theorem Jw(hw:D7 r)(t:tV)(h0:0<=t.1)(h1:t.1<=255):vU k tx (r.send t)<=vU k tx r+(if Ut k tx t=true then 1 else 0):=by
 unfold iY.send;split
 ·show pc k tx (r.P 0)+pc k tx (r.P 1)+pc k tx (r.P 2)+cI k tx (r.jA++ [t])<=_;unfold cI vU;rw[cT,bY];unfold cI;omega
 ·split
  ·exact Nat.le_trans (Nat.le_of_eq (rb (λ_=>rfl) rfl)) (Nat.le_add_right _ _)
  ·rename_i i _
   refine tk r i (Nat.le_trans (Ti (hw i) 77 _) ?_);have e:Tg k tx (77::j8 t.1::j8 (t.2.1-1)::t.2.2)=Ut k tx t:=by
    have hn:=nK t.1 h0 h1;have e1:Tg k tx (77::j8 t.1::j8 (t.2.1-1)::t.2.2)=((j8 t.1).toNat==k&&t.2.2==tx):=rfl;have e2:Ut k tx t=(t.1==(k:Int)&&t.2.2==tx):=rfl;have e3:((j8 t.1).toNat==k)=(t.1==(k:Int)):=by
     rw[Bool.eq_iff_iff,di,di];omega
    rw[e1,e2,e3]
   rw[e];exact Nat.le_refl _
theorem Pz(hw:D7 r)(i:Nat)(l:List UInt8):vU k tx (jK r i l)<=vU k tx r:=by
 unfold jK;simp only;split
 ·exact Nat.le_refl _
 ·split
  ·obtain⟨a,_,_,d⟩:=nt r (St.iT l).2.1;exact Nat.le_of_eq (rb (λp=>by rw[d]) a)
  ·split
   ·have:=tk (k:=k) (tx:=tx) ({r with K:=lR r.K (St.iT l).1 (St.iT l).2.1 (St.iT l).2.2.1,O:=oW r.K r.O i (St.iT l).1 (St.iT l).2.1 (St.iT l).2.2.1}:iY) i (a:=0) (Nat.le_trans (vT (hw i) (c:=65) eH (sj (St.iT l).1 (St.iT l).2.1 (St.iT l).2.2.1)) (Nat.le_add_right _ _));exact Nat.le_trans this (Nat.le_of_eq (rb (λ_=>rfl) rfl))
   ·exact Nat.le_of_eq (rb (λ_=>rfl) rfl)
theorem Tm(hw:D7 r)(i:Nat)(c:UInt8)(s:List UInt8):vU k tx (r.take i c s)<=vU k tx r+(if Tg k tx (c::s)=true then 1 else 0):=by
 rw[lF];have h1:mH r (jY r i c s):=by
  unfold jY;split
  ·exact mH.jd _ _ (qf.packet _ _)
  ·exact mH.refl r
 have hl:vU k tx (jY r i c s)<=vU k tx r:=by
  unfold jY;split
  ·exact tk r i (a:=0) (Pv (hw i) s)
  ·exact Nat.le_refl _
 have l7:=h1.fr hw;split
 ·rw[vA];omega
 ·unfold mJ;split
  ·split
   ·rw[vA];omega
   ·omega
  ·split
   ·have:=Pz (k:=k) (tx:=tx) l7 i s;omega
   ·split
    ·unfold kO;simp only;split
     ·exact Nat.le_trans (Nat.le_of_eq (rb (r:=jY r i c s) (λ_=>rfl) rfl)) eE
     ·omega
    ·split
     ·rename_i hc
      unfold qw;split
      ·rename_i hlen
       have hs:=Jw (k:=k) (tx:=tx) l7 (((s.getD 0 0).toNat:Int),((s.getD 1 0).toNat:Int),s.drop 2) eE (by have:=(s.getD 0 0).toNat_lt;omega);have e:Ut k tx (((s.getD 0 0).toNat:Int),((s.getD 1 0).toNat:Int),s.drop 2)=Tg k tx (c::s):=by
        rw[hc]
        match s,hlen with
        |a::b::u,_=>
         unfold Ut Tg;congr 1;show(((a.toNat:Nat):Int)==(k:Int))=(a.toNat==k)
         rw[Bool.eq_iff_iff];simp only[beq_iff_eq];omega
       rw[e]at hs;omega
      ·omega
     ·omega
theorem E8 {k:Nat} {tx:List UInt8}:∀(l:List (List UInt8)) {r:iY} (_:D7 r) (i:Nat),vU k tx (r.takes i l)<=vU k tx r+cP k tx l
 |[],_,_,_=>Nat.le_add_right _ _
 |t::l,r,hw,i=>by
  show vU k tx ((j7 r i t).takes i l)<=_;have h1:D7 (j7 r i t)/\vU k tx (j7 r i t)<=vU k tx r+(if Tg k tx t=true then 1 else 0):=by
   cases t with
   |nil=>exact⟨hw,Nat.le_add_right _ _⟩
   |cons c s=>exact⟨(mH.take r i c s).fr hw,Tm hw i c s⟩
  have h2:=E8 (k:=k) (tx:=tx) l h1.1 i;have h3:=h1.2;unfold cP at h2⊢;rw[List.countP_cons];omega
theorem PA(hw:D7 r)(i:Nat):vU k tx (r.jx i)<=vU k tx r:=by
 rw[k9];have h1:mH r (jn r i):=mH.jd _ _ (qf.tick _);have hl:vU k tx (jn r i)<=vU k tx r:=tk r i (a:=0) (V8 (hw i));have l7:=h1.fr hw;split
 ·rw[vA];exact hl
 ·have sT:=(mH.meet (jn r i) i (jg ((jn r i).P i).pe)).fr l7;have hm:=vA (k:=k) (tx:=tx) (jn r i) i (jg ((jn r i).P i).pe);obtain⟨r2,sE⟩:=gH ((jn r i).meet i (jg ((jn r i).P i).pe));rw[sE]at sT hm⊢;have h3:vU k tx (lE r2 i)<=vU k tx r2:=by
   unfold lE;simp only;refine tk r2 i (a:=0) ?_;have hp:=vT (k:=k) (tx:=tx) (sT i) (c:=72) eH [j8 r2.id,j8 (r2.P i).pe.who];split
   ·exact Nat.le_trans (E7 _ ((qf.put (r2.P i) 72 _).fr (sT i))) hp
   ·exact hp
  omega
theorem Tn(hw:D7 r)(i:Nat)(up:Bool):vU k tx (r.iW i up).1<=vU k tx r:=by
 have hp:pc k tx ((r.P i).iW up).1<=pc k tx (r.P i):=by
  unfold jF.iW;generalize k7 (r.P i).L (if up=true then 0 else 1)=e;simp only;split
  ·exact Nat.le_refl _
  ·exact Nat.le_trans (Db e.2.1 (p:={r.P i with L:=e.1,rd:=([],false,false)}) (hw i)) (Nat.le_of_eq (zx rfl))
 unfold iY.iW;simp only;split
 ·exact Nat.le_refl _
 ·rw[vA];exact tk r i (a:=0) hp
structure n8(w0 w:eB)(N:Nat)(X:Nat->Prop)(n:jc):Prop where
 ex:∃y,jJ w y n/\y.N=N/\(∀b,y.all n.n b->w0.heap.size<=b)/\∀b,y.ext b↔X b
 nU:eN w0 w
theorem n8.Tp(h:Pg w many L X e w')(h0:nk many L=0)(hb:eN w0 w):∃N,e=ρ (τ #[π (μ ⟨N,0,ν⟩),η])/\n8 w0 w' N X (jE many.toNat L):=by
 obtain⟨_,h2,h3⟩:=h;obtain⟨y,he,hR,ha,hx⟩:=h2 h0;exact⟨y.N,he,⟨y,hR,rfl,λb qU=>Nat.le_trans hb.size (ha b qU),hx⟩,iA hb h3⟩
theorem n8.ZY(h:Pg w many L X e w')(h0:nk many L≠0)(hb:eN w0 w):e=ρ (τ #[π ν,jy (nk many L)])/\eN w0 w':=by
 obtain⟨h1,_,h3⟩:=h;exact⟨h1 h0,iA hb h3⟩
theorem n8.still {n:jc} (h:n8 w0 w N X n)(hb:eN w w'):n8 w0 w' N X n:=by
 obtain⟨⟨y,hR,hN,ha,hx⟩,ja⟩:=h;exact⟨⟨y,hR.below hb,hN,ha,hx⟩,iA ja hb⟩
theorem n8.tab {n:jc} (h:n8 w0 w N X n)(hT:jo w0):jo w:=hT.below h.nU
theorem n8.went {y:Yt} {n n':jc} (hR:jJ W y n)(ha:∀b,y.all n.n b->w0.heap.size<=b)(hx:∀b,y.ext b↔X b)(hb:eN w0 W)(hn:n'.n=n.n)(h:iV W w' y n' n.n):
 n8 w0 w' y.N X n'/\∀b,X b->w'.heap[b]? =W.heap[b]? :=by
 obtain⟨⟨y',Ir,hs,hm,he⟩,hK⟩:=h;have kH:∀b,X b->b<W.heap.size:=λb qU=>hR.lt (.inr ((hx b).2 qU));have ads:∀b,X b->¬y.all n.n b:=λb qU e=>by
  rcases e with e|⟨j,hj,e⟩
  ·exact hR.nx b ((hx b).2 qU) e
  ·exact hR.IV hj (.inr (.inl ((hx b).2 qU))) e
 refine⟨⟨⟨y',Ir,hs.N,λb qU=> ?_,λb=>(he b).trans (hx b)⟩,?_⟩,λb qU=>hK.block b (kH b qU) (ads b qU)⟩
 ·rw[hn]at qU;rcases hm b qU with e|e
  ·exact ha b e
  ·exact Nat.le_trans hb.size e
 ·refine⟨hK.os.trans hb.os,hK.tape.trans hb.tape,hK.output.trans hb.output,Nat.le_trans hb.size hK.size,λb qU=> ?_⟩;refine(hK.block b (Nat.lt_of_lt_of_le qU hb.size) (λe=> ?_)).trans (hb.block b qU);have:=ha b e;omega
theorem n8.call {n n':jc} {f:FuncId} {args:Array Value} {E:Ending->Prop} (h:n8 w0 W N X n)(hn:n'.n=n.n)
 (k:∀y,jJ W y n->y.N=N->fj fk f args W λe w'=>E e/\iV W w' y n' n.n):fj fk f args W λe w'=>E e/\n8 w0 w' N X n'/\∀b,X b->w'.heap[b]? =W.heap[b]? :=by
 obtain⟨⟨y,hR,hN,ha,hx⟩,hb⟩:=h;refine(k y hR hN).mono ?_;rintro e w' ⟨he,hw⟩;have:=n8.went hR ha hx hb hn hw;rw[hN]at this;exact⟨he,this⟩
def jc.rounds(y:jc):Nat->jc
 |0=>y
 |k+1=>(y.rounds k).round
def Uu:List oI:=[⟨1,0,2,0,3⟩]
def LD:jc:=((jE 2 Uu).iW 0 true).1
theorem Wc:oX ((LD.rounds 6).R 1)=[⟨1,3,1⟩] :=gT
theorem Wd:((jE 2 Uu).iW 0 true).2=0:=gT
theorem LG:nk 2 Uu=0:=gT
theorem Jx(y:jc):∀k,(y.rounds k).n=y.n
 |0=>rfl
 |k+1=>(rD (y.rounds k)).1.trans (Jx y k)
theorem zA {y:jc} {D:Nat} (h:j6 y D 0)(hD:D<=100000000):∀k,k<=100->j6 (y.rounds k) (D+1300000*k) 0
 |0,_=>h
 |k+1,hk=>((zA h hD k eE).round eE).mono eE (Nat.le_refl _)
theorem XE:j6 LD 2 0:=(ym (tY LG)).iW eE 0 true
theorem PB(w:eB)(hT:jo w):fj fk 42 #[] w λe w'=>e=ρ (.bool true)/\eN w w':=by
 obtain⟨W0,nL⟩:=gH (w.alloc (γ #[ι κ 1,ι κ 0,ι κ 2,ι κ 0,ι κ 3] 81));have hb:=iB w (γ #[ι κ 1,ι κ 0,ι κ 2,ι κ 0,ι κ 3] 81);have hc:=λj=>aq w #[ι κ 1,ι κ 0,ι κ 2,ι κ 0,ι κ 3] 81 (0,0) j;rw[nL]at hb;rw[nL]at hc;have hL:AX W0 (μ ⟨w.heap.size,0,ν⟩) Uu:=λj hj=>by
  obtain rfl:j=0:=by simp[Uu]at hj;exact hj
  exact⟨w.heap.size,0,rfl,hc 0,hc 1,hc 2,hc 3,hc 4⟩
 have jw:fj fk 36 #[ι κ 2,σ (μ ⟨w.heap.size,0,ν⟩) 1 1] W0 λe w'=>∃N,e=ρ (τ #[π (μ ⟨N,0,ν⟩),η])/\n8 w w' N (λ_=>False) (jE 2 Uu):=by
  refine(M3 2 (μ ⟨w.heap.size,0,ν⟩) 1 Uu W0 hL eH (jo.below (w:=w) hT hb) (λ_=>False) (λb qU=>qU.elim)).mono ?_;rintro e w' h;exact n8.Tp h LG hb
 have M8:∀W N,n8 w W N (λ_=>False) (jE 2 Uu)->fj fk 57 #[π (μ ⟨N,0,ν⟩),ι κ 0,.bool true] W λe w'=>e=ρ η/\n8 w w' N (λ_=>False) (LD.rounds 0):=by
  intro W N hA;refine(hA.call (E:=λe=>e=ρ η) (n':=LD) rfl λy hR hN=> ?_).mono (λe w' h=>⟨h.1,h.2.1⟩);rw[<-hN];refine(Jb y (jE 2 Uu) 0 0 true W hR (hA.tab hT) (ym (tY LG)) eE).mono ?_;rintro e w' ⟨rfl,hw⟩;rw[Wd];exact⟨rfl,hw⟩
 have Dd:∀W N k,k<6->n8 w W N (λ_=>False) (LD.rounds k)->fj fk 54 #[π (μ ⟨N,0,ν⟩)] W λe w'=>e=ρ (τ #[])/\n8 w w' N (λ_=>False) (LD.rounds (k+1)):=by
  intro W N k hk hA;refine(hA.call (E:=λe=>e=ρ (τ #[])) (n':=LD.rounds (k+1)) (rD (LD.rounds k)).1 λy hR hN=> ?_).mono (λe w' h=>⟨h.1,h.2.1⟩);rw[<-hN];exact zp y (LD.rounds k) (2+1300000*k) W hR (hA.tab hT) (zA XE eE k eE) eE
 have Gy:∀W N,n8 w W N (λ_=>False) (LD.rounds 6)->fj fk 40 #[π (μ ⟨N,0,ν⟩),ι κ 2] W λe w'=>∃R,e=ρ (τ #[π (μ ⟨R,0,ν⟩),η])/\eN w w'/\fj fk 64 #[π (μ ⟨R,0,ν⟩)] w' λe w2=>∃b c,e=ρ (σ b 1 c)/\QJ w2 b 1 [⟨1,3,1⟩] /\eN w w2:=by
  intro W N hA;obtain⟨⟨y,hR,hN,ha,hx⟩,ja⟩:=hA;rw[<-hN];have hn:(LD.rounds 6).n=2:=Jx LD 6;refine(Le y (LD.rounds 6) 1 W hR (by rw[hn];decide)).mono ?_;rintro e w' ⟨rfl,rfl⟩;refine⟨(y.z 1).R,rfl,ja,?_⟩;have jb:=(zA XE eE 6 eE).ok 1 (by rw[hn];decide);refine(EI (y.z 1) ((LD.rounds 6).R 1) W (hR.rt 1 (by rw[hn];decide)) jb.RY).mono ?_;rintro e w2 ⟨b,c,rfl,⟨hH,_⟩,mf⟩;rw[Wc]at hH⊢;exact⟨b,c,rfl,hH,iA ja mf⟩
 have ko:∀W b c W2,eN w W->QJ W b 1 [⟨1,3,1⟩]->W2=W.alloc (γ #[ι κ 1,ι κ 3,ι κ 1] 98)->fj fk 46 #[σ b 1 c,σ (μ ⟨W.heap.size,0,ν⟩) 1 1] W2 λe w'=>e=ρ (.bool true)/\eN w w':=by
  rintro W b c W2 hbW hH rfl;have mf:=iB W (γ #[ι κ 1,ι κ 3,ι κ 1] 98);have P6:=λj=>aq W #[ι κ 1,ι κ 3,ι κ 1] 98 (0,0) j;refine(FQ b (μ ⟨W.heap.size,0,ν⟩) 1 c 1 [⟨1,3,1⟩] _ (hH.below mf) ⟨rfl,.inr ⟨W.heap.size,0,rfl,λj h hj=> ?_⟩⟩ eE).mono ?_
  ·obtain⟨l,v⟩:=aH.1 hj;obtain rfl:j=0:=by simp at l;exact l
   obtain rfl:_=h:=v;exact⟨P6 0,P6 1,P6 2⟩
  ·rintro e w' ⟨rfl,sL⟩;exact⟨rfl,iA hbW (iA mf sL)⟩
 have D3:Hid _:=nL;have HR:Hid _:=Dd;obtain⟨Q,hQ⟩:∃Q:Nat->jc,Q=LD.rounds:=⟨_,rfl⟩
 clear nL hb hc hL Dd;rw[<-hQ]at M8 HR Gy;generalize jE 2 Uu=z0 at jw M8;clear hQ
 go_in
 go_wp2_with(fail)
 try rw[D3.out]
 go_wp2_with(fail);refine jw.mono ?_;rintro e w1 ⟨N,rfl,hA⟩;have h1:=M8 w1 N hA;clear jw M8 hA;go_wp2_with(fail);refine h1.mono ?_;rintro e w2 ⟨rfl,hA⟩;have HA:Hid _:=hA;clear h1 hA
 go_wp2
 go_loopw [3] (λx wr=>∃k:Nat,k<=6/\x=ι κ k/\n8 w wr N (λ_=>False) (Q k)) (λx _=>6-(ft x).toNat)
 case atStart=>exact⟨0,Nat.zero_le _,rfl,HA.out⟩
 case round=>
  obtain⟨k,hk,rfl,hAk⟩:=hrel;obtain⟨V,rfl⟩:∃V,V=wr:=⟨_,rfl⟩
  by_cases kH:k<6
  ·have nG:(k:Int)<6:=eE;have hr:=HR.out V N k kH hAk;clear hAk;go_wp2_with(fail);refine hr.mono ?_;rintro e w3 ⟨rfl,hA3⟩;have HA3:Hid _:=hA3;clear hr hA3
   go_wp2
   go_roundw
   case rel=>exact⟨k+1,eE,by go_num,HA3.out⟩
   case measure=>simp[ft];omega
  ·have yG:¬(k:Int)<6:=eE;obtain rfl:k=6:=eE;have hr:=Gy V N hAk;clear hAk Gy;go_wp2_with(fail);refine hr.mono ?_;rintro e w3 ⟨R,rfl,sL,hh⟩;have JV:Hid _:=sL;clear hr sL;go_wp2_with(fail);refine hh.mono ?_;rintro e w4 ⟨b,c,rfl,hH,hb4⟩;obtain⟨W5,JY⟩:∃W5,W5=w4.alloc (γ #[ι κ 1,ι κ 3,ι κ 1] 98):=⟨_,rfl⟩
   have hs:=ko w4 b c W5 hb4 hH JY;have HW5:Hid _:=JY.symm;clear hh hH hb4 ko JY;go_wp2_with(fail)
   try rw[HW5.out]
   go_wp2_with(fail);refine hs.mono ?_;rintro e w6 ⟨rfl,hb6⟩;have HB6:Hid _:=hb6;clear hs hb6
   go_wp2
   go_ret;exact⟨rfl,HB6.out⟩
theorem A1(a:Option Addr)(n cap:Nat)(w:eB)(_hn:n<=maxLen):fj fk 35 #[σ a n cap] w λe w'=>e=ρ (.bool (decide (n<=12)))/\w=w':=by
 by_cases h:n<=12
 ·have h':(n:Int)<=12:=eE
  go_in
  go_wp2
  go_ret;exact⟨by simp[h],rfl⟩
 ·have h':¬(n:Int)<=12:=eE
  go_in
  go_wp2
  go_ret;exact⟨iC,rfl⟩
def yK(w0:eB)(N:Nat)(X:Nat->Prop)(m nc i:Nat)(n:jc)(w:eB):Prop:=n8 w0 w N X n/\GN n/\j6 n (1300000*i) 0/\n.n=m/\n.nc=nc
theorem yK.act {w0:eB} {N:Nat} {X:Nat->Prop} {m nc i:Nat} {n:jc} {W:eB} (h:yK w0 N X m nc i n W)(hT:jo w0)(hi:i<=300)(v:AV):
 fj fk 59 #[π (μ ⟨N,0,ν⟩),.agg #[.string v.kind,ι κ v.a,ι κ v.b,ι κ v.c,ι κ v.d,.string v.s,ι κ v.Mu,ι κ v.pid,σ v.po v.pn v.BS,ι κ v.x.own,ι κ v.x.seq,σ v.x.a v.x.n v.x.cap]] W λe w'=>e=ρ (τ #[])/\yK w0 N X m nc (i+1) (rF n v) w'/\∀b,X b->w'.heap[b]? =W.heap[b]? :=by
 obtain⟨hA,hG,jb,hn,hc⟩:=h;obtain⟨s1,s2,_,_⟩:=Pk n v;refine(hA.call (E:=λe=>e=ρ (τ #[])) (n':=rF n v) s1 λy hR hN=> ?_).mono ?_
 ·rw[<-hN];exact A4 y n (1300000*i) v W hR (hA.tab hT) jb eE
 ·rintro e w' ⟨he,hA',hX⟩;exact⟨he,⟨hA',(hG.act jb eE v).1,(jb.act eE v).mono eE (Nat.le_refl _),s1.trans hn,s2.trans hc⟩,hX⟩
theorem yK.new(h:Pg w many L X e w')(h0:nk many L=0)(hb:eN w0 w):∃N,e=ρ (τ #[π (μ ⟨N,0,ν⟩),η])/\yK w0 N X many.toNat L.length 0 (jE many.toNat L) w':=by
 obtain⟨N,he,hA⟩:=n8.Tp h h0 hb;exact⟨N,he,hA,C6 _ _,ym (tY h0),rfl,rfl⟩
def n9(y:jc)(V:Nat->AV):Nat->jc
 |0=>y
 |k+1=>rF (n9 y V k) (V k)
theorem n8.write {n:jc} (h:n8 w0 W N X n)(hs:W.heap.size<=W'.heap.size)(hk:∀k,k<W.heap.size->¬X k->W'.heap[k]? =W.heap[k]?)(hX:∀k,X k->w0.heap.size<=k)
 (ho:W'.os=W.os) (ht:W'.tape=W.tape) (hu:W'.output=W.output) (Z:Nat->Prop) (hZ:∀k,Z k->W.heap.size<=k/\k<W'.heap.size):n8 w0 W' N (λb=>X b \/Z b) n:=by
 obtain⟨⟨y,hR,hN,ha,hx⟩,hb⟩:=h;obtain⟨y',Ir,hs',ha',Ep⟩:=hR.beside hs (λk si jV=>hk k si (λe=>jV ((hx k).2 e))) Z hZ;refine⟨⟨y',Ir,hs'.N.trans hN,λb qU=>ha b ((ha' b).1 qU),λb=> ?_⟩,ho.trans hb.os,ht.trans hb.tape,hu.trans hb.output,Nat.le_trans hb.size hs,λb qU=> ?_⟩
 ·rw[Ep b,hx b]
 ·refine(hk b (Nat.lt_of_lt_of_le qU hb.size) (λe=> ?_)).trans (hb.block b qU);have:=hX b e;omega
theorem n8.LH {Y:Nat->Prop} {n:jc} (h:n8 w0 W N X n)(e:∀b,X b↔Y b):n8 w0 W N Y n:=by
 obtain⟨⟨y,hR,hN,ha,hx⟩,hb⟩:=h;exact⟨⟨y,hR,hN,ha,λb=>(hx b).trans (e b)⟩,hb⟩
structure oy(w:eB)(N g m:Nat)(L:List oI)(V:Nat->AV)(i j:Nat)(W:eB):Prop where
 g0:w.heap.size<=g
 at_:yK w N (λb=>b=g) m L.length i (n9 (jE m L) V i) W
 row:pL W g 0 L.length (λk=>.bool ((n9 (jE m L) V j).C k).jG)
def lq(m:Nat):Array Value:=Array.replicate m (.bool false)
theorem adt(W:eB):(iD 87 (ι κ 0) (ι κ 0)).run fk W=.ok (σ (μ ⟨W.heap.size,0,ν⟩) 0 0) (W.alloc (γ (lq 0) 4)):=gT
theorem adu(W:eB):(iD 87 (ι κ 1) (ι κ 1)).run fk W=.ok (σ (μ ⟨W.heap.size,0,ν⟩) 1 1) (W.alloc (γ (lq 1) 4)):=gT
theorem adv(W:eB):(iD 87 (ι κ 2) (ι κ 2)).run fk W=.ok (σ (μ ⟨W.heap.size,0,ν⟩) 2 2) (W.alloc (γ (lq 2) 4)):=gT
theorem adw(W:eB):(iD 87 (ι κ 3) (ι κ 3)).run fk W=.ok (σ (μ ⟨W.heap.size,0,ν⟩) 3 3) (W.alloc (γ (lq 3) 4)):=gT
theorem adx(W:eB):(iD 87 (ι κ 4) (ι κ 4)).run fk W=.ok (σ (μ ⟨W.heap.size,0,ν⟩) 4 4) (W.alloc (γ (lq 4) 4)):=gT
theorem ady(W:eB):(iD 87 (ι κ 5) (ι κ 5)).run fk W=.ok (σ (μ ⟨W.heap.size,0,ν⟩) 5 5) (W.alloc (γ (lq 5) 4)):=gT
theorem adz(W:eB):(iD 87 (ι κ 6) (ι κ 6)).run fk W=.ok (σ (μ ⟨W.heap.size,0,ν⟩) 6 6) (W.alloc (γ (lq 6) 4)):=gT
theorem adA(W:eB):(iD 87 (ι κ 7) (ι κ 7)).run fk W=.ok (σ (μ ⟨W.heap.size,0,ν⟩) 7 7) (W.alloc (γ (lq 7) 4)):=gT
theorem adB(W:eB):(iD 87 (ι κ 8) (ι κ 8)).run fk W=.ok (σ (μ ⟨W.heap.size,0,ν⟩) 8 8) (W.alloc (γ (lq 8) 4)):=gT
theorem adC(W:eB):(iD 87 (ι κ 9) (ι κ 9)).run fk W=.ok (σ (μ ⟨W.heap.size,0,ν⟩) 9 9) (W.alloc (γ (lq 9) 4)):=gT
theorem ahs(p:Nat)(hp:p<=9)(W:eB):(iD 87 (ι κ (p:Int)) (ι κ (p:Int))).run fk W=.ok (σ (μ ⟨W.heap.size,0,ν⟩) p p) (W.alloc (γ (lq p) 4)):=by
 have:p=0 \/p=1 \/p=2 \/p=3 \/p=4 \/p=5 \/p=6 \/p=7 \/p=8 \/p=9:=eE;rcases this with rfl|rfl|rfl|rfl|rfl|rfl|rfl|rfl|rfl|rfl
 ·exact adt W
 ·exact adu W
 ·exact adv W
 ·exact adw W
 ·exact adx W
 ·exact ady W
 ·exact adz W
 ·exact adA W
 ·exact adB W
 ·exact adC W
theorem oy.new {w W:eB} {N m:Nat} {L:List oI} {V:Nat->AV} (h:yK w N (λ_=>False) m L.length 0 (jE m L) W):oy w N W.heap.size m L V 0 0 (W.alloc (γ (lq L.length) 4)):=by
 obtain⟨hA,hG,jb,hn,hc⟩:=h;refine⟨hA.nU.size,⟨?_,hG,jb,hn,hc⟩,?_⟩
 ·refine(n8.write hA (W':=W.alloc (γ (lq L.length) 4)) iC (λk hk _=>aT _ _ _ hk) (λk e=>e.elim) rfl rfl rfl (λb=>b=W.heap.size) (λk e=>by subst e;simp)).LH (λb=>iC)
 ·have hB:jr (W.alloc (γ (lq L.length) 4)) W.heap.size (lq L.length) 4:=jr.new W _ _;intro j hj;have e:(lq L.length)[j]? =μ (.bool false):=by simp[lq,hj]
  refine⟨?_,?_⟩
  ·rw[Nat.zero_add,hB.cell j,e];rfl
  ·rw[Nat.zero_add];exact hB.frozen j
theorem oy.act {w:eB} {N g m:Nat} {L:List oI} {V:Nat->AV} {i:Nat} {W:eB} (h:oy w N g m L V i i W)(hT:jo w)(hi:i<=100):
 fj fk 59 #[π (μ ⟨N,0,ν⟩),.agg #[.string (V i).kind,ι κ (V i).a,ι κ (V i).b,ι κ (V i).c,ι κ (V i).d,.string (V i).s,ι κ (V i).Mu,ι κ (V i).pid,σ (V i).po (V i).pn (V i).BS,ι κ (V i).x.own,ι κ (V i).x.seq,σ (V i).x.a (V i).x.n (V i).x.cap]] W λe w'=>e=ρ (τ #[])/\oy w N g m L V (i+1) i w':=by
 refine(h.at_.act hT eE (V i)).mono ?_;rintro e w' ⟨he,h2,h3⟩;exact⟨he,h.g0,h2,h.row.keep (h3 g rfl)⟩
theorem oy.jG {w:eB} {N g m:Nat} {L:List oI} {V:Nat->AV} {i:Nat} {W:eB} (h:oy w N g m L V i i W)(hi:i<=100)(k:Nat)(hk:k<L.length):
 ((n9 (jE m L) V (i+1)).C k).jG=if zu (V i)=true/\(k:Int)=(V i).a then(V i).b==1 else((n9 (jE m L) V i).C k).jG:=by
 obtain⟨_,hG,jb,_,hc⟩:=h.at_;exact(hG.act jb eE (V i)).2 k (by rw[hc];exact hk)
theorem oy.same(h:oy w N g m L V (i+1) i W)(he:∀k,k<L.length->((n9 (jE m L) V (i+1)).C k).jG=((n9 (jE m L) V i).C k).jG)(hg:g<W.heap.size)(hb:eN W W'):oy w N g m L V (i+1) (i+1) W':=by
 obtain⟨hA,hG,jb,hn,hc⟩:=h.at_;exact⟨h.g0,⟨hA.still hb,hG,jb,hn,hc⟩,(h.row.congr (λk hk=>by show iG _=iG _;rw[he k hk])).keep (hb.block g hg)⟩
theorem oy.gl {j:Nat} (h:oy w N g m L V i j W):g<W.heap.size:=by
 obtain⟨⟨⟨y,hR,_,_,hx⟩,_⟩,_⟩:=h.at_;exact hR.lt (.inr ((hx g).2 rfl))
theorem oy.set {w:eB} {N g m:Nat} {L:List oI} {V:Nat->AV} {i k:Nat} {W W1:eB} {b:Bool} (h:oy w N g m L V (i+1) i W)(hk:k<L.length)
 (he:∀x,x<L.length->((n9 (jE m L) V (i+1)).C x).jG=if x=k then b else((n9 (jE m L) V i).C x).jG) (hb:eN W W1):oy w N g m L V (i+1) (i+1) (W1.setCell ⟨g,k,ν⟩ (.bool b)):=by
 have hg:=h.gl;obtain⟨hA,hG,jb,hn,hc⟩:=h.at_;have hA1:=hA.still hb;refine⟨h.g0,⟨?_,hG,jb,hn,hc⟩,?_⟩
 ·refine(n8.write hA1 (W':=W1.setCell ⟨g,k,ν⟩ (.bool b)) iC (λx _ jV=>ak _ _ _ x (λe=>jV e)) (λx e=>by rw[e];exact h.g0) rfl rfl rfl (λ_=>False) (λ_ e=>e.elim)).LH (λb=>iC)
 ·have h1:=((h.row.keep (hb.block g hg)).set k hk (.bool b))
  rw[Nat.zero_add]at h1;refine h1.congr (λx hx=> ?_);show qF _ k (.bool b) x=iG _;rw[he x hx];by_cases e:x=k
  ·rw[e,og,ag rfl]
  ·rw[jP _ _ e,ae e]
def XF(w:eB)(many:Int)(L:List oI)(n2:Nat)(V:Nat->AV)(e:Ending)(w':eB):Prop:=
 (e=ρ (τ #[π ν,σ ν 0 0,.bool false])/\eN w w') \/
 (nk many L=0/\n2<=40/\∃N g,e=ρ (τ #[π (μ ⟨N,0,ν⟩),σ (μ ⟨g,0,ν⟩) L.length L.length,.bool true])/\oy w N g many.toNat L V n2 n2 w')
theorem oy.nU {w:eB} {N g m:Nat} {L:List oI} {V:Nat->AV} {i j:Nat} {W:eB} (h:oy w N g m L V i j W):eN w W:=h.at_.1.nU
theorem LJ(many:Int)(a:Option Addr)(n cap:Nat)(L:List oI)(a2:Option Addr)(n2 cap2:Nat)(V:Nat->AV)(E:Nat->List j2)(w:eB)(hL:AX w a L)(hl:L.length=n)(hn:n<=maxLen)(hA:BU w a2 n2 V E)(hT:jo w):
 fj fk 43 #[ι κ many,σ a n cap,σ a2 n2 cap2] w λe w'=>XF w many L n2 V e w':=by
 have LK:=A1 a n cap w hn;have hla:fj fk 16 #[σ a2 n2 cap2,ι κ 40] w λe w'=>(∃b:Bool,e=ρ (.bool b)/\(b=true->n2<=40))/\eN w w':=by
  refine(DT a2 n2 cap2 V E 40 w hA eE).mono ?_;rintro e w' ⟨⟨b,he,kt⟩,mf⟩;exact⟨⟨b,he,λhx=>by have:=(kt hx).1;omega⟩,mf⟩
 have jw:∀W,n<=12->eN w W->fj fk 36 #[ι κ many,σ a n cap] W λe w'=>Pg W many L (λ_=>False) e w':=by
  intro W h12 hb;rw[<-hl];exact M3 many a cap L W (hL.below hb) eE (jo.below (w:=w) hT hb) (λ_=>False) (λb qU=>qU.elim)
 have HA:Hid _:=hA;have HT:Hid (jo w):=hT;have HL:Hid _:=hl;clear hL hA hT hl;by_cases h12:n<=12
 case neg=>
  have hd:decide (n<=12)=false:=by simpa using h12
  rw[hd]at LK
  go_in
  go_wp2_with(fail);refine LK.mono ?_;rintro e w2 ⟨rfl,rfl⟩;clear LK hla jw;go_wp2_with(fail);refine aj (v:=τ #[π ν,σ ν 0 0,.bool false]) (by simp[results,iH,go_sem]) rfl ?_;exact .inl ⟨rfl,au _ _⟩
 case pos=>
  have hd:decide (n<=12)=true:=by simpa using h12
  rw[hd]at LK
  go_in
  go_wp2_with(fail);refine LK.mono ?_;rintro e w2 ⟨rfl,rfl⟩;clear LK;go_wp2_with(fail);refine hla.mono ?_;rintro e w2 ⟨⟨b,rfl,adD⟩,mf⟩;have rM:=jw w2 h12 mf;have yS:Hid _:=mf;have aht:Hid _:=adD;clear hla jw mf adD;cases b
  case false=>
   go_wp2_with(fail);refine aj (v:=τ #[π ν,σ ν 0 0,.bool false]) (by simp[results,iH,go_sem]) rfl ?_;exact .inl ⟨rfl,yS.out⟩
  case true=>
   have h40:n2<=40:=aht.out rfl;go_wp2_with(fail);refine rM.mono ?_;rintro e w3 hP;clear rM;by_cases h0:nk many L=0
   case neg=>
    obtain⟨rfl,sL⟩:=n8.ZY hP h0 yS.out;have JV:Hid _:=sL;have he:jy (nk many L)=.iface 128 (ι κ ((nk many L:Nat):Int)):=Rn h0;rw[he];clear hP sL h0 he;go_wp2_with(fail);refine aj (v:=τ #[π ν,σ ν 0 0,.bool false]) (by simp[results,iH,go_sem]) rfl ?_;exact .inl ⟨rfl,JV.out⟩
   case pos=>
    obtain⟨N,rfl,hG0⟩:=yK.new hP h0 yS.out;have hm:=(tY h0).m;have hl9:=(tY h0).l;obtain⟨m,rfl⟩:∃m:Nat,many=(m:Int):=⟨many.toNat,eE⟩
    rw[Int.toNat_natCast]at hG0;have XZ:=oy.new (V:=V) hG0;rw[HL.out]at hl9;have T6:=ahs n hl9;obtain⟨w4,G9⟩:=gH (w3.alloc (γ (lq n) 4));obtain⟨g,hg⟩:=gH (w3.heap.size);rw[HL.out,G9,hg]at XZ;have I0:Hid _:=G9;have HG:Hid _:=hg;have Xr:Hid _:=XZ;have H0:Hid _:=h0;clear hP h0 hG0 XZ G9 hg;go_wp2_with(fail)
    try rw[I0.out]
    try rw[HG.out]
    go_wp2
    go_loopw [12] (λx wr=>∃i:Nat,i<=n2/\x=ι κ i/\oy w N g m L V i i wr) (λx _=>n2-(ft x).toNat)
    case atStart=>exact⟨0,Nat.zero_le _,rfl,Xr.out⟩
    case round=>
     obtain⟨i,hi,rfl,hG⟩:=hrel;obtain⟨V0,rfl⟩:∃V0,V0=wr:=⟨_,rfl⟩
     by_cases kH:i<n2
     case neg=>
      have yG:¬(i:Int)<(n2:Int):=eE;obtain rfl:i=n2:=eE;have HR:Hid _:=hG;clear hG;go_wp2_with(fail);refine aj (v:=τ #[π (μ ⟨N,0,ν⟩),σ (μ ⟨g,0,ν⟩) n n,.bool true]) (by simp[results,iH,go_sem]) rfl ?_;refine .inr ⟨H0.out,h40,N,g,?_,?_⟩
      ·rw[HL.out]
      ·exact HR.out
     case pos=>
      have nG:(i:Int)<(n2:Int):=eE;rcases HA.out.row with h1|⟨b,off,rfl,ji⟩
      ·omega
      have UX:=ji i kH;have hv:=UX.below hG.nU;have HV:Hid (∀W,eN w W->(V i).at_ W b (off+i*12)):=λW hb=>UX.below hb;have PD:=hG.act HT.out eE;have HI:Hid (∀k,k<L.length->((n9 (jE m L) V (i+1)).C k).jG=if zu (V i)=true/\(k:Int)=(V i).a then(V i).b==1 else((n9 (jE m L) V i).C k).jG):=hG.jG eE;clear ji hG UX;generalize V i=v at hv PD HV HI;obtain⟨vk,va,vb,vc,vd,vs,WX,WY,WZ,Uh,z9,⟨xo,xq,xa,xn,xc⟩⟩:=v;obtain⟨c0,c1,c2,c3,c4,c5,c6,c7,c8,c9,Qx,UF⟩:=hv;simp only at c0 c1 c2 c3 c4 c5 c6 c7 c8 c9 Qx UF PD;have gl:=af _ _ c0;have ge:off+i*12+0=off+i*12:=rfl;go_wp2_with(fail);refine PD.mono ?_;rintro e w5 ⟨rfl,hp5⟩;have XG:=hp5.nU;obtain⟨d0,d1,d2,_⟩:=HV.out w5 XG;simp only at d0 d1 d2;have gl5:=af _ _ d0;have HP5:Hid _:=hp5;have HS:Hid ((∀k,k<L.length->((n9 (jE m L) V (i+1)).C k).jG=((n9 (jE m L) V i).C k).jG)->oy w N g m L V (i+1) (i+1) w5):=λhe=>hp5.same he hp5.gl (au _ _);clear PD c0 c1 c2 c3 c4 c5 c6 c7 c8 c9 Qx UF gl hp5 XG;cases k1:(vk.toList==[112,108,117,103])
      case false=>
       go_wp2
       go_roundw
       case rel=>
        refine⟨i+1,eE,by go_num,HS.out λk hk=> ?_⟩;rw[HI.out k hk,ae (λe=>by have e1:(vk.toList==[112,108,117,103])=true:=e.1;rw[k1]at e1;cases e1)]
       case measure=>simp[ft];omega
      case true=>
       by_cases ha0:0<=va
       case neg=>
        go_wp2
        go_roundw
        case rel=>
         refine⟨i+1,eE,by go_num,HS.out λk hk=> ?_⟩;rw[HI.out k hk,ae (λe=>by have e1:(k:Int)=va:=e.2;omega)]
        case measure=>simp[ft];omega
       case pos=>
        by_cases han:va<(n:Int)
        case neg=>
         go_wp2
         go_roundw
         case rel=>
          refine⟨i+1,eE,by go_num,HS.out λk hk=> ?_⟩;have hln:=HL.out;rw[HI.out k hk,ae (λe=>by have e1:(k:Int)=va:=e.2;omega)]
         case measure=>simp[ft];omega
        case pos=>
         obtain⟨k,rfl⟩:∃k:Nat,va=(k:Int):=⟨va.toNat,eE⟩
         have FN:k<n:=eE;have KB:=HP5.out.gl;have hcell:=HP5.out.row.cell k (by rw[HL.out];exact FN);have Qa:=HP5.out.row.fz k (by rw[HL.out];exact FN);rw[Nat.zero_add]at hcell Qa;have Uk:Hid (oy w N g m L V (i+1) (i+1) (w5.drew.setCell ⟨g,k,ν⟩ (.bool (vb==1)))):=by
          refine HP5.out.set (by rw[HL.out];exact FN) (λx hx=> ?_) (jk w5);rw[HI.out x hx];by_cases e:x=k
          ·rw[ag ⟨k1,by show(x:Int)=(k:Int);rw[e]⟩,ag e]
          ·rw[ae (λh=>e (by have h2:(x:Int)=(k:Int):=h.2;omega)),ae e]
         generalize ((n9 (jE m L) V i).C k).jG=old at hcell;have F0:w5.drew.cell? ⟨b,off+i*12,ν⟩=μ (.string vk)/\w5.drew.cell? ⟨b,off+i*12+1,ν⟩=μ (ι κ (k:Int))/\w5.drew.cell? ⟨b,off+i*12+2,ν⟩=μ (ι κ vb)/\w5.drew.cell? ⟨g,k,ν⟩=μ (.bool old):=⟨d0,d1,d2,hcell⟩
         go_upto_region 12 with(fail)
         go_region
         all_goals
          go_wp2
          go_roundw
          case rel=>exact⟨i+1,eE,by go_num,Uk.out⟩
          case measure=>simp[ft];omega
open Go.ChangeShapes Go.WideShapes Go.ChangeAt
theorem Jy {H:Type} {enc:TypeId×Value->H} {a:Option Addr} {n cap:Nat} {d:DataW H} {ps:List MemPlace}
 (h:DataW.Trod enc fk W 0 (λ_=>true) true 61 (σ a n cap) d ps):
 ∃L:List oI,AX W a L/\L.length=n/\n<=maxLen:=by
 obtain⟨fuel,hf⟩:=h;rcases dy Tryz.underlying61 hf with⟨hcs,_⟩|⟨x,len,cp,m',n',D,Pl,hcs,_,hl,hm,Hp,_,hx⟩
 ·simp[fD]at hcs;obtain⟨rfl,rfl,rfl⟩:=hcs;exact⟨[],λj hj=>by simp at hj,rfl,eH⟩
 ·simp[fD]at hcs;obtain⟨rfl,rfl,rfl⟩:=hcs;simp at Hp;have ce:(fk).cellsOf 81=5:=gT;rw[ce]at hx;have each:∀i,i<n->∃q:oI,W.cell? (x.add (i*5))=μ (ι κ q.a)/\W.cell? (x.add (i*5+1))=μ (ι κ q.pa)/\W.cell? (x.add (i*5+2))=μ (ι κ q.b)/\W.cell? (x.add (i*5+3))=μ (ι κ q.pb)/\W.cell? (x.add (i*5+4))=μ (ι κ q.m):=by
   intro i hi;obtain⟨cs',h1,h2⟩:=hx i eE;obtain⟨_,hlen,hcell⟩:=World.cells?_some h1;obtain⟨xs,k,hk,hxy,_,Nt,FJ⟩:=cX Tryz.underlying81 h2
   match xs,Nt,cs',hlen with
   |[y0,y1,y2,y3,y4],_,[v0,v1,v2,v3,v4],_=>
    have g0:=FJ 0 _ rfl;have g1:=FJ 1 _ rfl;have g2:=FJ 2 _ rfl;have g3:=FJ 3 _ rfl;have g4:=FJ 4 _ rfl;have ci:(fk).cellsOf 3=1:=gT;simp[ci]at g0 g1 g2 g3 g4;obtain⟨i0,f0,_,_⟩:=a6 aJ g0;obtain⟨i1,f1,_,_⟩:=a6 aJ g1;obtain⟨i2,f2,_,_⟩:=a6 aJ g2;obtain⟨i3,f3,_,_⟩:=a6 aJ g3;obtain⟨i4,f4,_,_⟩:=a6 aJ g4;simp at f0 f1 f2 f3 f4;subst f0 f1 f2 f3 f4;have c0:=hcell 0 eE;have c1:=hcell 1 eE;have c2:=hcell 2 eE;have c3:=hcell 3 eE;have c4:=hcell 4 eE;rw[Go.Deep.add_add]at c0 c1 c2 c3 c4;exact⟨⟨i0,i1,i2,i3,i4⟩,c0,c1,c2,c3,c4⟩
  obtain⟨Q,hQ⟩:∃Q:Nat->oI,∀i,i<n->W.cell? (x.add (i*5))=μ (ι κ (Q i).a)/\W.cell? (x.add (i*5+1))=μ (ι κ (Q i).pa)/\W.cell? (x.add (i*5+2))=μ (ι κ (Q i).b)/\W.cell? (x.add (i*5+3))=μ (ι κ (Q i).pb)/\W.cell? (x.add (i*5+4))=μ (ι κ (Q i).m):=by
   refine⟨λi=>if hi:i<n then iI (each i hi)else⟨0,0,0,0,0⟩,λi hi=> ?_⟩;show W.cell? _=μ (ι κ (if hi:i<n then iI (each i hi)else⟨0,0,0,0,0⟩:oI).a)/\W.cell? _=μ (ι κ (if hi:i<n then iI (each i hi)else⟨0,0,0,0,0⟩:oI).pa)/\W.cell? _=μ (ι κ (if hi:i<n then iI (each i hi)else⟨0,0,0,0,0⟩:oI).b)/\W.cell? _=μ (ι κ (if hi:i<n then iI (each i hi)else⟨0,0,0,0,0⟩:oI).pb)/\W.cell? _=μ (ι κ (if hi:i<n then iI (each i hi)else⟨0,0,0,0,0⟩:oI).m);rw[dif_pos hi];exact Classical.choose_spec (each i hi)
  refine⟨(List.range n).map Q,λj hj=> ?_,iC,eE⟩;have Hd:j<n:=by simpa using hj
  obtain⟨b,off,spot⟩:=x;obtain⟨q0,q1,q2,q3,q4⟩:=hQ j Hd;have BD:spot=ν:=by simpa[Addr.add]using da (hQ 0 eE).1
  subst BD;have hg:((List.range n).map Q)[j] =Q j:=iC;rw[hg];rw[mR]at q0 q1 q2 q3 q4;exact⟨b,off,rfl,q0,by simpa[Nat.add_assoc]using q1,by simpa[Nat.add_assoc]using q2,by simpa[Nat.add_assoc]using q3,by simpa[Nat.add_assoc]using q4⟩
end Rt
end Go.Proofs.YtieklnlbljejdaaGreatDoor
