import Derived.Test.YtieklnlbljejdaaGreatDoorT22
open Go.Value renaming int → ι, slice → σ, pointer → π, tuple → τ, nilIface → η
open Go.IntKind renaming i64 → κ
open Go.Ending renaming returned → ρ
open Go.Obj renaming cells → γ
open Option renaming none → ν, some → μ
open Go renaming World → dN, Calls → eM
open Go.Proofs.Tryz renaming prog → eN
open Go.Value renaming ownBlock → dQ
open Go.Addr renaming off → gG
open Go.RowKit renaming intOf → eP
set_option maxRecDepth 100000
set_option maxHeartbeats 4000000
namespace Go.Proofs.YtieklnlbljejdaaGreatDoor
open Go.RowKit St
namespace Rt
theorem UD(c:pz)(o:Nat->Value)(x:Nat)(hx:x<2):zZ c o (x*2)=ι κ (((c.e x).1:Int)+1)/\zZ c o (x*2+1)=ι κ ((c.e x).2:Int):=by
 have:x=0 \/x=1:=dP;rcases this with rfl|rfl<;>exact⟨rfl,rfl⟩
theorem zC(y:Yt)(n:iB)(D:Nat)(i d many:Int)(w:dN)(h:jl w y n)(hT:iQ w)(iC:jN n D 0)(hD:D<=900000000):
 eM eN 101 #[π (μ ⟨y.N,0,ν⟩),ι κ i,ι κ d,ι κ many] w λe w'=>e=ρ (iP (n.deliver i d many).2)/\il w w' y (n.deliver i d many).1 n.n:=by
 have hh:=Kl y n i d w h;rcases Kk i d n.nc with⟨hn,hi⟩|⟨c,k,hc,hk,rfl,rfl⟩
 ·have hE:n.deliver i d many=(n,6):=by unfold iB.deliver;rw[ag hi]
  rw[hE];rw[hn]at hh;have HW:Hid _:=il.refl h;clear h iC hT
  go_in
  go_wp2_with(fail);refine hh.mono ?_;rintro e w1 ⟨rfl,rfl⟩;clear hh
  go_wp2
  go_ret;exact⟨rfl,HW.out⟩
 ·rw[Ri hc hk]at hh;obtain⟨q,hq⟩:=fP (min many.toNat ((n.C c).on k).length);have hE:n.deliver (c:Int) (k:Int) many=((n.jw c k q).gather,0):=by
   unfold iB.deliver;rw[ae dP,Int.toNat_natCast,Int.toNat_natCast,hq]
  rw[hE];have e0:iP 0=η:=rfl;rw[e0];obtain⟨a,cp,tU,HJ⟩:=h.XM;obtain⟨g,hg,rfl⟩:=HJ c hc;have kC:=iC.jw (D:=D) (k:=0) (c:=c) (d:=k) (q:=q) dP hc hk;have hG:Hid (∀W,il w W y (n.jw c k q) n.n->eM eN 111 #[π (μ ⟨y.N,0,ν⟩)] W λe w'=>e=ρ (τ #[])/\il w w' y (n.jw c k q).gather n.n):=by
   intro W X;refine X.call λy1 A s1=> ?_;rw[<-s1.N];exact qM y1 _ _ _ W A kC dP dP
  obtain⟨x,hx⟩:=fP (1-k);have Ad:x<2:=dP;have J:=λW=>NG k hk W;rw[hx]at J;obtain⟨j,p,U⟩:∃j p,(n.C c).e x=(j,p):=⟨_,_,rfl⟩
  have HF:Hid (∀W,dV w W->W.cell? ⟨y.N,3,ν⟩=μ (σ (μ ⟨g,0,ν⟩) n.nc cp)/\W.cell? ⟨g,c*7+x*2,ν⟩=μ (ι κ ((j:Int)+1))/\W.cell? ⟨g,c*7+x*2+1,ν⟩=μ (ι κ (p:Int))):=by
   intro W hb;have A:=h.below hb;have h3:=A.k3;rw[tU]at h3;have h4:=(A.rc g hg c hc).cell (x*2) dP;have h5:=(A.rc g hg c hc).cell (x*2+1) dP;obtain⟨g1,g2⟩:=UD (n.C c) (y.ov c) x Ad;rw[g1,U]at h4;rw[g2,U]at h5;exact⟨h3,h4,h5⟩
  have HH:Hid _:=h;have HT:Hid _:=hT;have PO:Hid _:=iC;have HG:Hid _:=hg;have E:Hid _:=U;have HX:Hid _:=hx;have HQ:Hid _:=hq;have c9:=h.c9;have kh:(c:Int)<(n.nc:Int):=dP;have pT:(0:Int)<=(c:Int):=dP;have xE:(x:Int)<2:=dP;have hx0:(0:Int)<=(x:Int):=dP;obtain⟨nc,rJ⟩:=fP (n.nc);rw[rJ]at HF kh c9;obtain⟨S,M⟩:=fP (y.N);rw[M]at HF hh⊢;have ZR:Hid _:=M;have HC:Hid _:=hc;clear h iC hT tU HJ kC hE U rJ hq M hc hg;have V:=HF.out w.drew (iI w);have gl:g<w.drew.heap.size:=af _ _ V.2.1;have Nl:S<w.drew.heap.size:=af _ _ V.1;have gne:g≠w.heap.size:=by have:g<w.heap.size:=gl;omega
  have Nne:S≠w.heap.size:=by have:S<w.heap.size:=Nl;omega
  go_in
  go_wp2_with(fail);refine hh.mono ?_;rintro e w1 ⟨rfl,rfl⟩;clear hh
  go_wp2
  go_cut [9] (λv Z=>∃Y:Nat,v=π (μ ⟨Y,0,ν⟩)/\Z.cell? ⟨Y,0,ν⟩=μ (ι κ ((j:Int)+1))/\Z.cell? ⟨Y,1,ν⟩=μ (ι κ (p:Int))/\dV w Z/\w.heap.size<=Y)
  case first=>
   go_region_held3(λx'=>x'.cell? ⟨S,3,ν⟩=μ (σ (μ ⟨g,0,ν⟩) nc cp)/\x'.cell? ⟨g,c*7+x*2,ν⟩=μ (ι κ ((j:Int)+1))/\x'.cell? ⟨g,c*7+x*2+1,ν⟩=μ (ι κ (p:Int)))
    (first|assumption|exact V|exact zB V|exact Kv (zB V) Nne gne gne)
    (first|(go_at_call 156;refine(J _).mono ?_;rintro e w1 ⟨rfl,rfl⟩))
   all_goals
    go_wp2_with(fail)
    go_meet
    have hB:iM (w.alloc (γ #[ι κ ((j:Int)+1),ι κ (p:Int)] 192)).drew w.heap.size #[ι κ ((j:Int)+1),ι κ (p:Int)] 192:=(iM.new w _ _).drew;exact⟨_,rfl,hB.cell 0,hB.cell 1,iZ (gM _ _),Nat.le_refl _⟩
  case rest=>
   obtain⟨Y,rfl,y0,y1,rO,hY⟩:=hcut
   rename dN=>Z
   have u:=HH.out.below rO;have hT3:iQ Z:=iQ.below (w:=w) HT.out rO;have Yl:=af _ _ y0;have hYn:¬y.all n.n Y:=λe=>by
    have:=HH.out.zy e;omega
   obtain⟨n1,lT⟩:=fP (n.kG c {n.C c with on:=jy (n.C c).on k (((n.C c).on k).drop q)});have zR:n1.n=n.n:=by rw[<-lT];rfl
   have t:n1.nc=n.nc:=by rw[<-lT];rfl
   have OV:j<n.n:=by have:=(PO.out.en c x HC.out Ad).1;rw[E.out]at this;exact this
   have abX:(n.C c).e (1-k)=(j,p):=by rw[HX.out];exact E.out
   have XX:=HF.out;have FW:∀(W:dN) (n':iB),n'.nc=n.nc->il Z W y n' n.n->W.cell? ⟨Y,0,ν⟩=μ (ι κ ((j:Int)+1))/\W.cell? ⟨Y,1,ν⟩=μ (ι κ (p:Int))/\W.cell? ⟨S,3,ν⟩=μ (σ (μ ⟨g,0,ν⟩) nc cp):=by
    intro W n' XF X;have sL:=X.kept.block Y Yl hYn;refine⟨(ai (a:=⟨Y,0,ν⟩) sL).trans y0,(ai (a:=⟨Y,1,ν⟩) sL).trans y1,?_⟩;have h3:=(XX Z rO).1;have k3:=u.k3;rw[ZR.out,h3]at k3;have k4:=X.k3;rw[XF,<-Option.some.inj k3,ZR.out]at k4;exact k4
   have Q:∀(b:Bool) (W:dN),xK Z y n n1 j (y.z j).R b W->W.cell? ⟨Y,0,ν⟩=μ (ι κ ((j:Int)+1))/\W.cell? ⟨Y,1,ν⟩=μ (ι κ (p:Int))/\W.cell? ⟨S,3,ν⟩=μ (σ (μ ⟨g,0,ν⟩) nc cp):=by
    intro b W X;refine FW W _ ?_ X.1;cases b
    ·rfl
    ·exact t
   have hat:=λ(b:Bool) (W:dN) (X:xK Z y n n1 j (y.z j).R b W)=>N6 Z y n n1 j p (y.z j).R b W zR OV X;have G:=λ(W:dN) (X:xK Z y n n1 j (y.z j).R false W)=>H7 Z y n D c k g j (y.z j).R many W PO.out HC.out hk HG.out n1 (by rw[HQ.out];exact lT) X;have H:∀(W:dN),xK Z y n n1 j (y.z j).R true W->eM eN 23 #[π (μ ⟨(y.z j).R,0,ν⟩),ι κ (p:Int),.string ⟨(((n.C c).on k).take q).toArray⟩] W λe w'=>e=ρ η/\il Z w' y (n.jw c k q) n.n/\(w'.cell? ⟨Y,0,ν⟩=μ (ι κ ((j:Int)+1))/\w'.cell? ⟨Y,1,ν⟩=μ (ι κ (p:Int))/\w'.cell? ⟨S,3,ν⟩=μ (σ (μ ⟨g,0,ν⟩) nc cp)):=by
    intro W X;refine(H8 Z y n D c k j p (y.z j).R q W PO.out hD u hT3 HC.out hk abX n1 lT X).mono ?_;rintro e w' ⟨rfl,hw⟩;exact⟨rfl,hw,FW w' (n.jw c k q) rfl hw⟩
   rw[HQ.out]at G;have t0:xK Z y n n1 j (y.z j).R false Z.drew:=⟨il.still u (iI Z),(ai (a:=⟨y.gR,j,ν⟩) rfl).trans (u.ptr OV)⟩
   have V:=Q _ _ t0;have I7:Hid _:=rO;generalize (y.z j).R=RR at hat G H t0 Q;generalize (⟨(((n.C c).on k).take q).toArray⟩:ByteArray)=sx at G H;obtain⟨T,Wd⟩:=fP (xK Z y n n1 j RR);obtain⟨T2,abY⟩:∃T2:dN->Prop,(λw'=>il Z w' y (n.jw c k q) n.n)=T2:=⟨_,rfl⟩
   have Yg:∀x,il Z x y (n.jw c k q) n.n=T2 x:=λx=>bU abY x;have HT2:Hid _:=Yg;simp only[Yg]at H;rw[Wd]at hat G H t0 Q;rw[ZR.out]at hat;have Yl2:Y<Z.drew.heap.size:=Yl;have cl2:=af _ _ V.2.2;clear FW lT zR t XX u hT3 hYn Wd abY Yg abX y0 y1 rO V J;have V:=Q _ _ t0
   go_wp2
   go_region_held3(λx'=>x'.cell? ⟨Y,0,ν⟩=μ (ι κ ((j:Int)+1))/\x'.cell? ⟨Y,1,ν⟩=μ (ι κ (p:Int))/\x'.cell? ⟨S,3,ν⟩=μ (σ (μ ⟨g,0,ν⟩) nc cp))
    (first|assumption|exact V|exact F1|exact F2|exact F3)
    (first
     |(go_at_call 157;refine(hat _ _ iL).mono ?_;rintro e w1 ⟨rfl,t1⟩;have F1:=Q _ _ t1)
     |(go_at_call 158;refine(G _ iL).mono ?_;rintro e w2 ⟨rfl,t2⟩;have F2:=Q _ _ t2)
     |(go_at_call 23;refine(H _ iL).mono ?_;rintro e w3 ⟨rfl,t3,F3⟩))
   all_goals
    have vj:=t3;rw[<-HT2.out]at vj;have jZ:=hG.out _ (il.first I7.out vj);rw[ZR.out]at jZ;clear vj hat G H t0 t1 t2 t3 Q V F1 F2 F3;go_wp2_with(fail);refine jZ.mono ?_;rintro e w4 ⟨rfl,LY⟩;have HW:Hid _:=LY;clear jZ LY
    go_wp2
    go_ret;exact⟨rfl,HW.out⟩
theorem Yh(w:dN):(zeroValue 195).run eN w=.ok (.agg #[σ ν 0 0,σ ν 0 0]) w:=gJ
theorem zD(w:dN)(y:Yt)(M:iB)(D k c d m:Nat)(up:Bool)(T:jN M D k)(hD:D<=900000000)(hk:k<=90000)(hc:c<M.nc)(hd:d<2)(hm:M.n=m)(i p:Nat)(yc:(M.C c).e d=(i,p))(U Y:dN)(t:il w U y M m)(hT:iQ U)(hb:dV U Y)(E:Nat)(u v:Value)(hE:U.heap.size<=E)(X:Y.cell? ⟨E,0,ν⟩=μ u/\Y.cell? ⟨E,1,ν⟩=μ v):
 eM eN 157 #[π (μ ⟨y.N,0,ν⟩),.agg #[ι κ ((i:Int)+1),ι κ (p:Int)]] Y λe Z=>∃R,e=ρ (π (μ ⟨R,0,ν⟩))/\(Z.cell? ⟨E,0,ν⟩=μ u/\Z.cell? ⟨E,1,ν⟩=μ v)/\
  eM eN 20 #[π (μ ⟨R,0,ν⟩),ι κ (p:Int),.bool up] Z λe S=>∃f:Nat,e=ρ (iP f)/\(S.cell? ⟨E,0,ν⟩=μ u/\S.cell? ⟨E,1,ν⟩=μ v)/\il w S y (M.lQ c d up) m:=by
 subst hm;obtain⟨hi,h⟩:=T.en c d hc hd;rw[yc]at hi h;obtain⟨J,H,s1,wO,wU⟩:=t.ex;have G:=H.below hb;have V:E<Y.heap.size:=af _ _ X.1;have Q:¬J.all M.n E:=λe=>by
  have:=H.zy (k:=E) e;omega
 rw[<-s1.N];refine(Km J _ i p Y G hi).mono ?_;rintro e Z ⟨rfl,b1⟩;refine⟨_,rfl,⟨(ai (a:=⟨E,0,ν⟩) (b1.block E V)).trans X.1,(ai (a:=⟨E,1,ν⟩) (b1.block E V)).trans X.2⟩,?_⟩;have ZP:E<Z.heap.size:=Nat.lt_of_lt_of_le V b1.size;have A:=G.below b1;have ZE:iQ Z:=iQ.below (w:=U) hT (gD hb b1);refine(NW up (J.z i) (M.R i) p k Z (A.rt i hi) ZE (T.ok i hi) (T.fits dP hi) dP (by rw[(T.rn i hi).1];exact h)).mono ?_;rintro e S ⟨rfl,hw⟩;have j:=jm.iw (M.R i) p up;have uT:=A.Ax hi hw ⟨j.n,j.id⟩;have rD:=uT.kept.block E ZP Q;refine⟨_,rfl,⟨(ai (a:=⟨E,0,ν⟩) (rD.trans (b1.block E V))).trans X.1,(ai (a:=⟨E,1,ν⟩) (rD.trans (b1.block E V))).trans X.2⟩,?_⟩;have e1:M.lQ c d up=M.jg i ((M.R i).iw p up).1:=by
  unfold iB.lQ;rw[yc]
 rw[e1];exact il.py t.kept s1 wO wU (il.first (gD hb b1) uT)
theorem jl.turn {w x:dN} {y:Yt} {n:iB} {c g:Nat} (h:jl w y n)(hc:c<n.nc)(Y:y.gC=μ g)(up:Bool)(hx:x=((w.setCell ⟨g,c*7+4,ν⟩ (.bool up)).setCell ⟨g,c*7+5,ν⟩ (σ ν 0 0)).setCell ⟨g,c*7+6,ν⟩ (σ ν 0 0)):
 il w x y (n.kG c {n.C c with jr:=up,on:=λ_=>[] }) n.n:=by
 have hC:=h.rc g Y c hc;have V:=((hC.set 4 dS (.bool up)).set 5 dS (σ ν 0 0)).set 6 dS (σ ν 0 0);have pY:x.heap.size=w.heap.size:=by rw[hx];simp
 have T:∀k,k≠g->x.heap[k]? =w.heap[k]? :=λk Z=>by
  rw[hx,ak _ _ _ k Z,ak _ _ _ k Z,ak _ _ _ k Z]
 have b1:Below 0 w x:=by rw[hx];exact(((aq 0 w).setCell (Nat.zero_le _) _).setCell (Nat.zero_le _) _).setCell (Nat.zero_le _) _
 refine h.LQ hc Y _ (λ_=>σ ν 0 0) dP b1.os b1.tape b1.output (λk _ X _=>T k X) (λj U=> ?_) (λj=> ?_) ?_ (λd _=>Row.nil _ 1) (λd _=>Nat.zero_le _) rfl (λd k _ e=>by simp[dQ]at e) (λk e=>by simp[dQ]at e)
 ·rw[hx];rw[aP _ _ _ _ (λe=>by have:=congrArg gG e;simp at this;omega),aP _ _ _ _ (λe=>by have:=congrArg gG e;simp at this;omega),aP _ _ _ _ (λe=>by have:=congrArg gG e;simp at this;omega)]
 ·rw[hx,lz,lz,lz]
 ·rw[hx];refine V.congr λj U=> ?_;have:j=0 \/j=1 \/j=2 \/j=3 \/j=4 \/j=5 \/j=6:=dP;rcases this with rfl|rfl|rfl|rfl|rfl|rfl|rfl<;>rfl
theorem D3(y:Yt)(n:iB)(D k c:Nat)(up:Bool)(w:dN)(h:jl w y n)(hT:iQ w)(iC:jN n D k)(hD:D<=900000000)(hk:k<=80000)(hc:c<n.nc):
 eM eN 113 #[π (μ ⟨y.N,0,ν⟩),ι κ (c:Int),.bool up] w λe w'=>e=ρ (τ #[])/\il w w' y (n.jC c up) n.n:=by
 have c3:=h.k3;obtain⟨a,cp,tU,HJ⟩:=h.XM;obtain⟨g,hg,rfl⟩:=HJ c hc;rw[tU]at c3;have cl:=h.vH;have c9:=h.c9;have kh:(c:Int)<(n.nc:Int):=dP;have pT:(0:Int)<=(c:Int):=dP;have hC:=h.rc g hg c hc;have gl:=hC.lt dS;have k4:=hC.cell 4 dS;have f4:=hC.fz 4 dS;have k5:=hC.cell 5 dS;have f5:=hC.fz 5 dS;have k6:w.cell? ⟨g,c*7+5+1,ν⟩=_:=hC.cell 6 dS;have f6:w.frozen? ⟨g,c*7+5+1,ν⟩=false:=hC.fz 6 dS;have hzo:=Yh;obtain⟨V,Y,H4⟩:∃V Y,(n.C c).e 0=(V,Y):=⟨_,_,rfl⟩
 obtain⟨U,X,H5⟩:∃U X,(n.C c).e 1=(U,X):=⟨_,_,rfl⟩
 have k0:w.cell? ⟨g,c*7,ν⟩=μ (ι κ ((V:Int)+1)):=by
  have:=hC.cell 0 dS;rw[(zA _ _).1,H4]at this;exact this
 have k1:w.cell? ⟨g,c*7+1,ν⟩=μ (ι κ (Y:Int)):=by
  have:=hC.cell 1 dS;rw[(zA _ _).2.1,H4]at this;exact this
 have k2:w.cell? ⟨g,c*7+2,ν⟩=μ (ι κ ((U:Int)+1)):=by
  have:=hC.cell 2 dS;rw[(zA _ _).2.2.1,H5]at this;exact this
 have k3:w.cell? ⟨g,c*7+3,ν⟩=μ (ι κ (X:Int)):=by
  have:=hC.cell 3 dS;rw[(zA _ _).2.2.2.1,H5]at this;exact this
 have H0:Hid (il w (((w.setCell ⟨g,c*7+4,ν⟩ (.bool up)).setCell ⟨g,c*7+5,ν⟩ (σ ν 0 0)).setCell ⟨g,c*7+5+1,ν⟩ (σ ν 0 0)) y (n.kG c {n.C c with jr:=up,on:=λ_=>[] }) n.n):=h.turn hc hg up rfl;have UE:jN (n.kG c {n.C c with jr:=up,on:=λ_=>[] }) D k:=iC.kG (λ_=>rfl) (λ_ _ _=>Nat.zero_le _);obtain⟨T,Hs⟩:=fP (n.kG c {n.C c with jr:=up,on:=λ_=>[] });have hMC:(T.C c).e=(n.C c).e:=by
  rw[<-Hs];show(if c=c then _ else n.C c).e=_;rw[ag rfl]
 have hMn:T.n=n.n:=by rw[<-Hs];rfl
 have M:T.nc=n.nc:=by rw[<-Hs];rfl
 have VT:Hid (n.jC c up=(T.lQ c 0 up).lQ c 1 up):=by
  show _=_;unfold iB.jC;rw[Hs]
 rw[Hs]at H0 UE;have kC:jN (T.lQ c 0 up) D (k+1):=UE.Rx dP (by rw[M];exact hc) dS up;have ZT:Hid (∀Z,il w Z y T n.n->
  eM eN 157 #[π (μ ⟨y.N,0,ν⟩),.agg #[ι κ ((V:Int)+1),ι κ (Y:Int)]] (Z.alloc (γ #[ι κ ((V:Int)+1),ι κ (Y:Int)] 192)).drew λe G=>∃R,e=ρ (π (μ ⟨R,0,ν⟩))/\(G.cell? ⟨Z.heap.size,0,ν⟩=μ (ι κ ((V:Int)+1))/\G.cell? ⟨Z.heap.size,1,ν⟩=μ (ι κ (Y:Int)))/\
  eM eN 20 #[π (μ ⟨R,0,ν⟩),ι κ (Y:Int),.bool up] G λe A=>∃f:Nat,e=ρ (iP f)/\(A.cell? ⟨Z.heap.size,0,ν⟩=μ (ι κ ((V:Int)+1))/\A.cell? ⟨Z.heap.size,1,ν⟩=μ (ι κ (Y:Int)))/\il w A y (T.lQ c 0 up) n.n):=by
  intro Z hw;have hb:=iZ (gM Z (γ #[ι κ ((V:Int)+1),ι κ (Y:Int)] 192));have S:iM (Z.alloc (γ #[ι κ ((V:Int)+1),ι κ (Y:Int)] 192)).drew Z.heap.size #[ι κ ((V:Int)+1),ι κ (Y:Int)] 192:=(iM.new Z _ _).drew;exact zD w y T D k c 0 n.n up UE hD dP (by rw[M];exact hc) dS hMn V Y (by rw[hMC];exact H4) Z _ hw (hw.tab h rfl hT) hb Z.heap.size _ _ (Nat.le_refl _) ⟨S.cell 0,S.cell 1⟩
 have Q:Hid (∀Z,il w Z y (T.lQ c 0 up) n.n->
  eM eN 157 #[π (μ ⟨y.N,0,ν⟩),.agg #[ι κ ((U:Int)+1),ι κ (X:Int)]] (Z.alloc (γ #[ι κ ((U:Int)+1),ι κ (X:Int)] 192)).drew λe G=>∃R,e=ρ (π (μ ⟨R,0,ν⟩))/\(G.cell? ⟨Z.heap.size,0,ν⟩=μ (ι κ ((U:Int)+1))/\G.cell? ⟨Z.heap.size,1,ν⟩=μ (ι κ (X:Int)))/\
  eM eN 20 #[π (μ ⟨R,0,ν⟩),ι κ (X:Int),.bool up] G λe A=>∃f:Nat,e=ρ (iP f)/\(A.cell? ⟨Z.heap.size,0,ν⟩=μ (ι κ ((U:Int)+1))/\A.cell? ⟨Z.heap.size,1,ν⟩=μ (ι κ (X:Int)))/\il w A y (n.jC c up) n.n):=by
  intro Z hw;have hb:=iZ (gM Z (γ #[ι κ ((U:Int)+1),ι κ (X:Int)] 192));have S:iM (Z.alloc (γ #[ι κ ((U:Int)+1),ι κ (X:Int)] 192)).drew Z.heap.size #[ι κ ((U:Int)+1),ι κ (X:Int)] 192:=(iM.new Z _ _).drew;rw[VT.out];exact zD w y (T.lQ c 0 up) D (k+1) c 1 n.n up kC hD dP (by show c<T.nc;rw[M];exact hc) dS hMn U X (by show(T.C c).e 1=_;rw[hMC];exact H5) Z _ hw (hw.tab h rfl hT) hb Z.heap.size _ _ (Nat.le_refl _) ⟨S.cell 0,S.cell 1⟩
 obtain⟨nc,rJ⟩:=fP (n.nc);rw[rJ]at c3 c9 kh;obtain⟨m,hm⟩:=fP (n.n);rw[hm]at H0 ZT Q⊢;obtain⟨M1,sC⟩:=fP (T.lQ c 0 up);rw[sC]at ZT Q;obtain⟨M2,rL⟩:=fP (n.jC c up);rw[rL]at Q⊢;clear h hT iC tU HJ hC hg hc rJ hm sC rL VT UE kC Hs hMC hMn M H4 H5
 go_in
 go_wp2
 go_loopw [27] (λx wr=>(x=ι κ 0/\il w wr y T m) \/(x=ι κ 1/\il w wr y M1 m) \/(x=ι κ 2/\il w wr y M2 m)) (λx _=>2-(eP x).toNat)
 case atStart=>exact .inl ⟨rfl,H0.out⟩
 case round=>
  rcases hrel with⟨rfl,u⟩|⟨rfl,u⟩|⟨rfl,u⟩
  ·have hix:=Yb ((V:Int)+1) (Y:Int) ((U:Int)+1) (X:Int);have hE:=ZT.out wr u;obtain⟨j,J⟩:=fP (wr.alloc (γ #[ι κ ((V:Int)+1),ι κ (Y:Int)] 192));obtain⟨E,H⟩:=fP (wr.heap.size);have t:j.drew.cell? ⟨E,0,ν⟩=μ (ι κ ((V:Int)+1))/\j.drew.cell? ⟨E,1,ν⟩=μ (ι κ (Y:Int)):=by
    have S:iM (wr.alloc (γ #[ι κ ((V:Int)+1),ι κ (Y:Int)] 192)).drew wr.heap.size #[ι κ ((V:Int)+1),ι κ (Y:Int)] 192:=(iM.new wr _ _).drew;rw[J,H]at S;exact⟨S.cell 0,S.cell 1⟩
   have El:E<j.drew.heap.size:=af _ _ t.1;rw[J,H]at hE;have N3:Hid _:=J;have Rb:Hid _:=H;clear u J H;go_wp2_with(fail)
   try rw[N3.out]
   try rw[Rb.out]
   go_region_held3(λx=>x.cell? ⟨E,0,ν⟩=μ (ι κ ((V:Int)+1))/\x.cell? ⟨E,1,ν⟩=μ (ι κ (Y:Int)))
    (first|assumption|exact t|exact F1|exact F2)
    (first
     |(go_at_call 157;refine hE.mono ?_;rintro e G ⟨R,rfl,F1,hO⟩)
     |(go_at_call 20;refine hO.mono ?_;rintro e A ⟨f,rfl,F2,hP⟩))
   all_goals
    have Kr:Hid _:=hP;clear hE hO hP t F1 F2 El
    go_wp2
    go_roundw
    case rel=>exact .inr (.inl ⟨by go_num,Kr.out⟩)
    case measure=>simp[eP]
  ·have hix:=Yc ((V:Int)+1) (Y:Int) ((U:Int)+1) (X:Int);have hE:=Q.out wr u;obtain⟨j,J⟩:=fP (wr.alloc (γ #[ι κ ((U:Int)+1),ι κ (X:Int)] 192));obtain⟨E,H⟩:=fP (wr.heap.size);have t:j.drew.cell? ⟨E,0,ν⟩=μ (ι κ ((U:Int)+1))/\j.drew.cell? ⟨E,1,ν⟩=μ (ι κ (X:Int)):=by
    have S:iM (wr.alloc (γ #[ι κ ((U:Int)+1),ι κ (X:Int)] 192)).drew wr.heap.size #[ι κ ((U:Int)+1),ι κ (X:Int)] 192:=(iM.new wr _ _).drew;rw[J,H]at S;exact⟨S.cell 0,S.cell 1⟩
   have El:E<j.drew.heap.size:=af _ _ t.1;rw[J,H]at hE;have N3:Hid _:=J;have Rb:Hid _:=H;clear u J H;go_wp2_with(fail)
   try rw[N3.out]
   try rw[Rb.out]
   go_region_held3(λx=>x.cell? ⟨E,0,ν⟩=μ (ι κ ((U:Int)+1))/\x.cell? ⟨E,1,ν⟩=μ (ι κ (X:Int)))
    (first|assumption|exact t|exact F1|exact F2)
    (first
     |(go_at_call 157;refine hE.mono ?_;rintro e G ⟨R,rfl,F1,hO⟩)
     |(go_at_call 20;refine hO.mono ?_;rintro e A ⟨f,rfl,F2,hP⟩))
   all_goals
    have Kr:Hid _:=hP;clear hE hO hP t F1 F2 El
    go_wp2
    go_roundw
    case rel=>exact .inr (.inr ⟨by go_num,Kr.out⟩)
    case measure=>simp[eP]
  ·have HQ:Hid _:=u;clear u
   go_wp2
   first|go_end0|refine iq rfl rfl ?_
   exact⟨rfl,HQ.out⟩
theorem H9(y:Yt)(n:iB)(D:Nat)(i:Int)(up:Bool)(w:dN)(h:jl w y n)(U:iQ w)(V:jN n D 0)(hD:D<=900000000):
 eM eN 57 #[π (μ ⟨y.N,0,ν⟩),ι κ i,.bool up] w λe w'=>e=ρ (iP (n.iw i up).2)/\il w w' y (n.iw i up).1 n.n:=by
 have hh:=xG y n i w h;rcases J5 i n.nc with S|⟨c,hc,rfl⟩
 ·have hi:i<0 \/(n.nc:Int)<=i:=by
   unfold hasB at S;by_cases h0:0<=i
   ·by_cases h1:i<(n.nc:Int)
    ·simp[h0,h1]at S
    ·omega
   ·omega
  have X:n.iw i up=(n,6):=by unfold iB.iw;rw[ag hi]
  rw[X];rw[S]at hh;have Y:Hid _:=il.refl h;clear h V U
  go_in
  go_wp2_with(fail);refine hh.mono ?_;rintro e M ⟨rfl,rfl⟩;clear hh
  go_wp2
  go_ret;exact⟨rfl,Y.out⟩
 ·rw[rX hc]at hh;have c3:=h.k3;obtain⟨a,cp,Q,T⟩:=h.XM;obtain⟨g,H,rfl⟩:=T c hc;rw[Q]at c3;have cl:=h.vH;have c9:=h.c9;have kh:(c:Int)<(n.nc:Int):=dP;have pT:(0:Int)<=(c:Int):=dP;have A:w.cell? ⟨g,c*7+4,ν⟩=μ (.bool (n.C c).jr):=(h.rc g H c hc).cell 4 dS;have gl:=(h.rc g H c hc).lt dS;have X:n.iw (c:Int) up=if(n.C c).jr=up then(n,7)else((n.jC c up).gather,0):=by
   unfold iB.iw;rw[ae dP,Int.toNat_natCast]
  rw[X];by_cases Z:(n.C c).jr=up
  ·rw[ag Z];rw[Z]at A;have Y:Hid _:=il.refl h;have J:(up==up)=true:=gN;clear h V U X Z Q T
   go_in
   go_wp2_with(fail);refine hh.mono ?_;rintro e M ⟨rfl,rfl⟩;clear hh
   go_wp2
   go_ret;exact⟨rfl,Y.out⟩
  ·rw[ae Z];have J:((n.C c).jr==up)=false:=by simpa using Z
   have G:=D3 y n D 0 c up w h U V hD dP hc;have u:=V.jC dP hc up;have hG:Hid (∀W,il w W y (n.jC c up) n.n->eM eN 111 #[π (μ ⟨y.N,0,ν⟩)] W λe w'=>e=ρ (τ #[])/\il w w' y (n.jC c up).gather n.n):=by
    intro W hW;refine hW.call λy1 R1 s1=> ?_;rw[<-s1.N];exact qM y1 _ _ _ W R1 u dP dP
   have e0:iP 0=η:=rfl;rw[e0];generalize (n.C c).jr=b at A J;clear h V U X Z Q T u
   go_in
   go_wp2_with(fail);refine hh.mono ?_;rintro e M ⟨rfl,rfl⟩;clear hh;go_wp2_with(fail);refine G.mono ?_;rintro e M ⟨rfl,t⟩;have E:=hG.out _ t;clear G t;go_wp2_with(fail);refine E.mono ?_;rintro e w2 ⟨rfl,j⟩;have Y:Hid _:=j;clear E j
   go_wp2
   go_ret;exact⟨rfl,Y.out⟩
theorem D4(y:iB)(i:Int):(y.tick i).1.n=y.n/\(y.tick i).1.nc=y.nc/\(y.tick i).1.ms=y.ms/\∀x,((y.tick i).1.C x).e=(y.C x).e/\((y.tick i).1.C x).jr=(y.C x).jr:=by
 unfold iB.tick;split
 ·exact⟨rfl,rfl,rfl,λ_=>⟨rfl,rfl⟩⟩
 ·exact lg _
theorem uz(y:iB)(c d q:Nat):(y.jw c d q).n=y.n/\(y.jw c d q).nc=y.nc/\(y.jw c d q).ms=y.ms/\∀x,((y.jw c d q).C x).e=(y.C x).e/\((y.jw c d q).C x).jr=(y.C x).jr:=by
 refine⟨rfl,rfl,rfl,λx=> ?_⟩;show(if x=c then({y.C c with on:=jy (y.C c).on d (((y.C c).on d).drop q)}:pz)else y.C x).e=_/\(if x=c then({y.C c with on:=jy (y.C c).on d (((y.C c).on d).drop q)}:pz)else y.C x).jr=_;by_cases e:x=c
 ·rw[ag e];subst e;exact⟨rfl,rfl⟩
 ·rw[ae e];exact⟨rfl,rfl⟩
theorem oR(y:iB)(i d many:Int):(y.deliver i d many).1.n=y.n/\(y.deliver i d many).1.nc=y.nc/\(y.deliver i d many).1.ms=y.ms/\∀x,((y.deliver i d many).1.C x).e=(y.C x).e/\((y.deliver i d many).1.C x).jr=(y.C x).jr:=by
 unfold iB.deliver;split
 ·exact⟨rfl,rfl,rfl,λ_=>⟨rfl,rfl⟩⟩
 ·obtain⟨g1,X,V,Z⟩:=lg (y.jw i.toNat d.toNat (min many.toNat ((y.C i.toNat).on d.toNat).length));obtain⟨r1,U,T,Y⟩:=uz y i.toNat d.toNat (min many.toNat ((y.C i.toNat).on d.toNat).length);exact⟨g1.trans r1,X.trans U,V.trans T,λx=>⟨(Z x).1.trans (Y x).1,(Z x).2.trans (Y x).2⟩⟩
theorem pB(y:iB):∀q,(y.iW q).n=y.n/\(y.iW q).nc=y.nc/\(y.iW q).ms=y.ms/\∀x,((y.iW q).C x).e=(y.C x).e/\((y.iW q).C x).jr=(y.C x).jr
 |0=>⟨rfl,rfl,rfl,λ_=>⟨rfl,rfl⟩⟩
 |q+1=>by
  obtain⟨g1,X,V,Z⟩:=D4 (y.iW q) ((q:Int)+1);obtain⟨r1,U,T,Y⟩:=pB y q;exact⟨g1.trans r1,X.trans U,V.trans T,λx=>⟨(Z x).1.trans (Y x).1,(Z x).2.trans (Y x).2⟩⟩
def iB.pC(y:iB)(c d:Nat):iB:=if d=0 then y.j6 c else if d=1 then((y.j6 c).deliver (c:Int) 0 2000).1 else y.j6 (c+1)
theorem Ia(y:iB)(c d:Nat)(hd:d<2):y.pC c (d+1)=((y.pC c d).deliver (c:Int) (d:Int) 2000).1:=by
 have:d=0 \/d=1:=dP;rcases this with rfl|rfl<;>rfl
theorem mN(y:iB):∀q,(y.j6 q).n=y.n/\(y.j6 q).nc=y.nc/\(y.j6 q).ms=y.ms/\∀x,((y.j6 q).C x).e=(y.C x).e/\((y.j6 q).C x).jr=(y.C x).jr
 |0=>⟨rfl,rfl,rfl,λ_=>⟨rfl,rfl⟩⟩
 |q+1=>by
  obtain⟨T,S,Q,Y⟩:=oR ((y.j6 q).deliver (q:Int) 0 2000).1 (q:Int) 1 2000;obtain⟨g1,V,U,Z⟩:=oR (y.j6 q) (q:Int) 0 2000;obtain⟨r1,M,J,X⟩:=mN y q;exact⟨T.trans (g1.trans r1),S.trans (V.trans M),Q.trans (U.trans J),λx=>⟨(Y x).1.trans ((Z x).1.trans (X x).1),(Y x).2.trans ((Z x).2.trans (X x).2)⟩⟩
theorem Ib(y:iB)(q d:Nat):(y.pC q d).n=y.n/\(y.pC q d).nc=y.nc:=by
 unfold iB.pC;split
 ·exact⟨(mN y q).1,(mN y q).2.1⟩
 ·split
  ·exact⟨(oR _ _ _ _).1.trans (mN y q).1,(oR _ _ _ _).2.1.trans (mN y q).2.1⟩
  ·exact⟨(mN y (q+1)).1,(mN y (q+1)).2.1⟩
theorem sS(y:iB):∀t,(y.turns t).n=y.n/\(y.turns t).nc=y.nc/\(y.turns t).ms=y.ms/\∀x,((y.turns t).C x).e=(y.C x).e/\((y.turns t).C x).jr=(y.C x).jr
 |0=>⟨rfl,rfl,rfl,λ_=>⟨rfl,rfl⟩⟩
 |t+1=>by
  obtain⟨g1,X,V,Z⟩:=mN (y.turns t) y.nc;obtain⟨r1,U,T,Y⟩:=sS y t;exact⟨g1.trans r1,X.trans U,V.trans T,λx=>⟨(Z x).1.trans (Y x).1,(Z x).2.trans (Y x).2⟩⟩
theorem sT(y:iB):y.round.n=y.n/\y.round.nc=y.nc/\y.round.ms=y.ms/\∀x,(y.round.C x).e=(y.C x).e/\(y.round.C x).jr=(y.C x).jr:=by
 obtain⟨g1,X,V,Z⟩:=sS (y.iW y.n) 12;obtain⟨r1,U,T,Y⟩:=pB y y.n;exact⟨g1.trans r1,X.trans U,V.trans T,λx=>⟨(Z x).1.trans (Y x).1,(Z x).2.trans (Y x).2⟩⟩
theorem jN.iW {y:iB} {D:Nat} (h:jN y D 0)(Z:D<=800000000):∀q,q<=6->jN (y.iW q) (D+6*q) 0
 |0,_=>h
 |q+1,hq=>((jN.iW h Z q dP).tick dP ((q:Int)+1)).mono dP (Nat.le_refl _)
theorem jN.j6 {y:iB} {D:Nat} (h:jN y D 0)(Z:D<=890000000):∀q,q<=9->jN (y.j6 q) (D+12000*q) 0
 |0,_=>h
 |q+1,hq=>(((jN.j6 h Z q dP).deliver dP (q:Int) 0 2000).deliver dP (q:Int) 1 2000).mono dP (Nat.le_refl _)
theorem jN.pC {y:iB} {D:Nat} (h:jN y D 0)(Z:D<=890000000)(q d:Nat)(hq:q<9)(hd:d<=2):jN (y.pC q d) (D+12000*q+6000*d) 0:=by
 unfold iB.pC;split
 ·exact(h.j6 Z q dP).mono dP (Nat.le_refl _)
 ·split
  ·exact((h.j6 Z q dP).deliver dP _ _ _).mono dP (Nat.le_refl _)
  ·exact(h.j6 Z (q+1) dP).mono dP (Nat.le_refl _)
theorem jN.turns {y:iB} {D:Nat} (h:jN y D 0)(X:D<=810000000):∀t,t<=12->jN (y.turns t) (D+108000*t) 0
 |0,_=>h
 |t+1,ht=>by
  have Z:=jN.turns h X t dP;have Y:=h.c9;exact(Z.j6 dP y.nc Y).mono dP (Nat.le_refl _)
theorem jN.round {y:iB} {D:Nat} (h:jN y D 0)(Y:D<=800000000):jN y.round (D+1300000) 0:=by
 have n6:=h.n6;have Z:=h.iW Y y.n n6;exact(Z.turns dP 12 (Nat.le_refl _)).mono dP (Nat.le_refl _)
theorem D5(y:Yt)(n:iB)(D:Nat)(w:dN)(h:jl w y n)(hT:iQ w)(iC:jN n D 0)(hD:D<=800000000):
 eM eN 54 #[π (μ ⟨y.N,0,ν⟩)] w λe w'=>e=ρ (τ #[])/\il w w' y n.round n.n:=by
 have c0:=h.k0;have cl:=h.vH;have n6:=h.n6;have c9:=h.c9;obtain⟨a,cp,tU,HJ⟩:=h.XM;obtain⟨m,U⟩:=fP (n.n);obtain⟨nc,rJ⟩:=fP (n.nc);have H0:Hid (il w w y (n.iW 0) m):=by
  show il _ _ _ _ _;rw[<-U];exact il.refl h
 have Wf:Hid (∀q W,q<m->il w W y (n.iW q) m->eM eN 56 #[π (μ ⟨y.N,0,ν⟩),ι κ ((q:Int)+1)] W λe w'=>(∃v,e=ρ v)/\il w w' y (n.iW (q+1)) m):=by
  intro q W hq Z;have Yf:=Z.tab h U hT;refine(Z.call (E:=λe=>∃v,e=ρ v) λy1 R1 s1=> ?_);rw[<-s1.N];refine(H6 y1 (n.iW q) (D+6*q) ((q:Int)+1) W R1 Yf (iC.iW hD q dP) dP).mono ?_;rintro e w' ⟨rfl,u⟩;rw[(pB n q).1,U]at u;exact⟨⟨_,rfl⟩,u⟩
 have Yi:=iC.iW hD m dP;have HK3:Hid (∀M W,M.nc=nc->il w W y M m->W.cell? ⟨y.N,3,ν⟩=μ (σ a nc cp)/\y.N<W.heap.size):=by
  intro M W hM Z;have h1:=Z.k3;rw[hM,<-rJ,tU]at h1;rw[<-rJ];exact⟨h1,Z.lt⟩
 have Fb:Hid (n.round=(n.iW m).turns 12):=by
  show _=_;unfold iB.round;rw[U]
 obtain⟨T,H⟩:=fP (n.iW m);have A:T.n=m:=by rw[<-H,(pB n m).1,U]
 have S:T.nc=nc:=by rw[<-H,(pB n m).2.1,rJ]
 have Q:Hid (∀W,il w W y (n.iW m) m->il w W y (T.turns 0) m):=by
  intro W Z;rw[H]at Z;exact Z
 rw[H]at Yi Fb;have agm:Hid (∀t c d W,t<12->c<nc->d<2->il w W y ((T.turns t).pC c d) m->eM eN 101 #[π (μ ⟨y.N,0,ν⟩),ι κ (c:Int),ι κ (d:Int),ι κ 2000] W λe w'=>(∃v,e=ρ v)/\il w w' y ((T.turns t).pC c (d+1)) m):=by
  intro t c d W ht hc hd Z;have Yf:=Z.tab h U hT;refine(Z.call (E:=λe=>∃v,e=ρ v) λy1 R1 s1=> ?_);rw[<-s1.N];have h1:=Yi.turns dP t dP;have h2:=h1.pC dP c d dP dP;refine(zC y1 _ _ (c:Int) (d:Int) 2000 W R1 Yf h2 dP).mono ?_;rintro e w' ⟨rfl,u⟩;rw[<-Ia _ _ _ hd,(Ib _ _ _).1,(sS T t).1,A]at u;exact⟨⟨_,rfl⟩,u⟩
 have HNC:Hid (∀t,(T.turns t).nc=nc):=λt=>by rw[(sS T t).2.1,S]
 have ab0:Hid (∀t W,il w W y ((T.turns t).j6 nc) m->il w W y (T.turns (t+1)) m):=by
  intro t W Z;show il w W y ((T.turns t).j6 T.nc) m;rw[S];exact Z
 rw[U]at c0 n6⊢;rw[rJ]at c9;clear h hT iC Yi tU HJ U rJ H A S
 go_in
 go_wp2
 go_loopw [10] (λx wr=>∃q:Nat,q<=m/\x=ι κ q/\il w wr y (n.iW q) m) (λx _=>m-(eP x).toNat)
 case atStart=>exact⟨0,Nat.zero_le _,rfl,H0.out⟩
 case round=>
  obtain⟨q,hq,rfl,qk⟩:=hrel;obtain⟨V,rfl⟩:∃V,V=wr:=⟨_,rfl⟩
  by_cases kc:q<m
  ·have nh:(q:Int)<(m:Int):=dP;have SN:IntKind.i64.wrap ((q:Int)+1)=(q:Int)+1:=aM _ ⟨dP,dP⟩;have ht:=Wf.out q V kc qk;clear qk;go_wp2_with(fail);refine ht.mono ?_;rintro e w1 ⟨⟨v,rfl⟩,j⟩;have Y:Hid _:=j;clear ht j
   go_wp2
   go_roundw
   case rel=>exact⟨q+1,dP,by go_num,Y.out⟩
   case measure=>simp[eP];omega
  ·have zN:¬(q:Int)<(m:Int):=dP;obtain rfl:q=m:=dP;have HT0:Hid (il w V y (T.turns 0) q):=Q.out V qk;clear qk Q H0 Wf
   go_wp2
   go_loopw [18] (λx wr=>∃t:Nat,t<=12/\x=ι κ t/\il w wr y (T.turns t) q) (λx _=>12-(eP x).toNat)
   case atStart=>exact⟨0,Nat.zero_le _,rfl,HT0.out⟩
   case round=>
    obtain⟨t,ht,rfl,J⟩:=hrel;obtain⟨V2,rfl⟩:∃V2,V2=wr:=⟨_,rfl⟩
    by_cases N7:t<12
    ·have ab1:(t:Int)<12:=dP;obtain⟨d3,dl⟩:=HK3.out _ V2 (HNC.out t) J;have HD0:Hid _:=J;clear J
     go_wp2
     go_loopw [25] (λx wr=>∃c:Nat,c<=nc/\x=ι κ c/\il w wr y ((T.turns t).pC c 0) q) (λx _=>nc-(eP x).toNat)
     case atStart=>exact⟨0,Nat.zero_le _,rfl,HD0.out⟩
     case round=>
      obtain⟨c,hc,rfl,X⟩:=hrel;obtain⟨V3,rfl⟩:∃V3,V3=wr:=⟨_,rfl⟩
      by_cases agn:c<nc
      ·have aiQ:(c:Int)<(nc:Int):=dP;have HDc:Hid _:=X;clear X
       go_wp2
       go_loopw [28] (λx wr=>∃d:Nat,d<=2/\x=ι κ d/\il w wr y ((T.turns t).pC c d) q) (λx _=>2-(eP x).toNat)
       case atStart=>exact⟨0,Nat.zero_le _,rfl,HDc.out⟩
       case round=>
        obtain⟨d,hd,rfl,Aw⟩:=hrel;obtain⟨V4,rfl⟩:∃V4,V4=wr:=⟨_,rfl⟩
        by_cases agp:d<2
        ·have aiR:(d:Int)<2:=dP;have G:=agm.out t c d V4 N7 agn agp Aw;clear Aw;go_wp2_with(fail);refine G.mono ?_;rintro e w1 ⟨⟨v,rfl⟩,j⟩;have Y:Hid _:=j;clear G j
         go_wp2
         go_roundw
         case rel=>exact⟨d+1,dP,by go_num,Y.out⟩
         case measure=>simp[eP];omega
        ·have akX:¬(d:Int)<2:=dP;obtain rfl:d=2:=dP;have Y:Hid _:=Aw;clear Aw
         go_wp2
         go_roundw
         case rel=>exact⟨c+1,dP,by go_num,Y.out⟩
         case measure=>simp[eP];omega
      ·have akY:¬(c:Int)<(nc:Int):=dP;obtain rfl:c=nc:=dP;have Y:Hid (il w V3 y (T.turns (t+1)) q):=ab0.out t V3 X;clear X
       go_wp2
       go_roundw
       case rel=>exact⟨t+1,dP,by go_num,Y.out⟩
       case measure=>simp[eP];omega
    ·have Yj:¬(t:Int)<12:=dP;obtain rfl:t=12:=dP;have Y:Hid (il w V2 y n.round q):=by
      show il _ _ _ _ _;rw[Fb.out];exact J
     clear J
     go_wp2
     first|go_end0|refine iq rfl rfl ?_
     exact⟨rfl,Y.out⟩
