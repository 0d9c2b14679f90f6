import Derived.Test.YtieklnlbljejdaaGreatDoorG25
open Go.Value renaming int → ι, slice → σ, pointer → π, tuple → τ, nilIface → η
open Go.IntKind renaming i64 → κ
open Go.Ending renaming returned → ρ
open Go.Obj renaming cells → γ
open Option renaming none → ν, some → μ
open Go renaming World → eB, Calls → fj
open Go.Proofs.Tryz renaming prog → fk
open Go.Value renaming ownBlock → eF
open Go.Addr renaming off → iq
set_option maxRecDepth 100000
set_option maxHeartbeats 4000000
namespace Go.Proofs.YtieklnlbljejdaaGreatDoor
open Go.RowKit St
namespace Rt
variable {c g i k:Nat} {n:jc} {t u v:Value} {w x:World} {y:Yt}
theorem iV.Xo {W:eB} {y1:Yt} {R:Nat} (R1:jJ W y1 n)(s1:y.same y1)(hi:i<n.n)(hc:W.cell? ⟨y.gR,i,ν⟩=μ (π (μ ⟨R,0,ν⟩))):(y1.z i).R=R:=by
 have h1:=R1.ptr hi;rw[s1.gR,hc]at h1;have h2:=Option.some.inj h1;injection h2 with h3
 injection h3 with h4
 injection h4 with h5
 exact h5.symm
def yi(W3:eB)(y:Yt)(n n1:jc)(i R:Nat)(b:Bool)(W:eB):Prop:=iV W3 W y (if b=true then n1 else n) n.n/\W.cell? ⟨y.gR,i,ν⟩=μ (π (μ ⟨R,0,ν⟩))
theorem yi.below {W3:eB} {y:Yt} {n n1:jc} {i R:Nat} {b:Bool} {W W':eB} (h:yi W3 y n n1 i R b W)(hn:n1.n=n.n)(hb:eN W W'):yi W3 y n n1 i R b W':=by
 refine⟨h.1.below (by cases b<;>simp[hn]) hb,?_⟩;exact(ai (a:=⟨y.gR,i,ν⟩) (hb.block y.gR (af _ _ h.2))).trans h.2
theorem O5(W3:eB)(y:Yt)(n n1:jc)(i p R:Nat)(b:Bool)(W:eB)(hn:n1.n=n.n)(hi:i<n.n)(hW:yi W3 y n n1 i R b W):
 fj fk 157 #[π (μ ⟨y.N,0,ν⟩),.agg #[ι κ ((i:Int)+1),ι κ (p:Int)]] W λe w'=>e=ρ (π (μ ⟨R,0,ν⟩))/\yi W3 y n n1 i R b w':=by
 obtain⟨y1,R1,s1,vY,xI⟩:=hW.1.ex;have AE:(if b=true then n1 else n).n=n.n:=by cases b<;>simp[hn]
 have hR:=iV.Xo R1 s1 (by rw[AE];exact hi) hW.2;rw[<-s1.N];refine(Ld y1 _ i p W R1 (by rw[AE];exact hi)).mono ?_;rintro e w1 ⟨rfl,b1⟩;exact⟨by rw[hR],hW.below hn b1⟩
theorem I9(W3:eB)(y:Yt)(n:jc)(D c d g i R:Nat)(many:Int)(W:eB)(jb:j6 n D 0)(hc:c<n.nc)(hd:d<2)(hg:y.gC=μ g)(n1:jc)(mM:n.ll c {n.C c with on:=jI (n.C c).on d (((n.C c).on d).drop (min many.toNat ((n.C c).on d).length))}=n1)(hW:yi W3 y n n1 i R false W):
 fj fk 158 #[π (μ ⟨g,c*7,ν⟩),ι κ (d:Int),ι κ many] W λe w'=>e=ρ (.string ⟨(((n.C c).on d).take (min many.toNat ((n.C c).on d).length)).toArray⟩)/\yi W3 y n n1 i R true w':=by
 obtain⟨h1,h2⟩:=hW;have h1:iV W3 W y n n.n:=h1;obtain⟨y1,R1,s1,vY,xI⟩:=h1.ex;have ki:y1.gC=μ g:=by rw[s1.gC];exact hg
 refine(OH g (c*7) d (n.C c) (y1.ov c) many W hd (R1.rc g ki c hc) (R1.ob c d hc hd) (R1.acA ki) (R1.ol c d hc hd)).mono ?_;rintro e w1 ⟨rfl,v',hw⟩;have hk:=R1.cbW hc hd ki hw rfl (λx hx=>iL _ _ hx) (by
  show(jI (n.C c).on d _ d).length<=2000;rw[iP,dO];have:=jb.ol c d hc hd;omega)
 rw[mM]at hk;refine⟨rfl,iV.pF h1.kept s1 vY xI hk,?_⟩;rw[<-s1.gR]at h2⊢;refine(ai (a:=⟨y1.gR,i,ν⟩) (hw.block y1.gR R1.OB (λe=> ?_) (λe=> ?_))).trans h2
 ·exact R1.sZ (l:=.R) (l':=.C) rfl ki (by intro e;cases e) e
 ·exact R1.sZ (l:=.on c d) (l':=.R) e rfl (by intro e;cases e) rfl
theorem Ja(W3:eB)(y:Yt)(n:jc)(D c d i p R q:Nat)(W:eB)(jb:j6 n D 0)(hD:D<=900000000)(h3:jJ W3 y n)(hT:jo W3)(hc:c<n.nc)(hd:d<2)(yI:(n.C c).e (1-d)=(i,p))(n1:jc)(mM:n.ll c {n.C c with on:=jI (n.C c).on d (((n.C c).on d).drop q)}=n1)(hW:yi W3 y n n1 i R true W):
 fj fk 23 #[π (μ ⟨R,0,ν⟩),ι κ (p:Int),.string ⟨(((n.C c).on d).take q).toArray⟩] W λe w'=>e=ρ η/\iV W3 w' y (n.j0 c d q) n.n:=by
 obtain⟨h1,h2⟩:=hW;have h1:iV W3 W y n1 n.n:=h1;have hi:=(jb.en c (1-d) hc eE)
 rw[yI]at hi;have AE:n1.n=n.n:=by rw[<-mM];rfl
 have Ze:n1.R=n.R:=by rw[<-mM];rfl
 have Zo:=h1.tab h3 rfl hT;obtain⟨y1,R1,s1,vY,xI⟩:=h1.ex;have hR:=iV.Xo R1 s1 (by rw[AE];exact hi.1) h2;rw[<-hR];have hl:=jb.ol c d hc hd;have qI:(⟨(((n.C c).on d).take q).toArray⟩:ByteArray).size<=2000:=by
  show Array.size _<=_;simp;omega
 have hrt:=R1.rt i (by rw[AE];exact hi.1);have Uz:=jb.fits eE (i:=i) hi.1;rw[Ze]at hrt;refine(Sy _ (y1.z i) (n.R i) p 0 W hrt Zo (jb.ok i hi.1) Uz eE (by rw[(jb.rn i hi.1).1];exact hi.2)).mono ?_;rintro e w1 ⟨rfl,hw⟩;have e1:(⟨(((n.C c).on d).take q).toArray⟩:ByteArray).data.toList=((n.C c).on d).take q:=iC;rw[e1]at hw;have xJ:=jR.recv (n.R i) p (((n.C c).on d).take q);have uD:i<n1.n:=by rw[AE];exact hi.1
 have hwn:iV W w1 y1 (n1.jQ i ((n.R i).recv p (((n.C c).on d).take q))) n1.n:=by
  have e2:(n.R i)=n1.R i:=by rw[Ze]
  refine R1.Bl uD ?_ ?_
  ·rw[<-e2];exact hw
  ·rw[<-e2];exact⟨xJ.n,xJ.id⟩
 rw[AE]at hwn;refine⟨rfl,iV.pF h1.kept s1 vY xI ?_⟩;have e3:n.j0 c d q=n1.jQ i ((n.R i).recv p (((n.C c).on d).take q)):=by
  unfold jc.j0;rw[yI,mM]
 rw[e3];exact hwn
theorem Aj {p q r:Addr} {o:Obj} (h:w.cell? p=μ u/\w.cell? q=μ v/\w.cell? r=μ t):(w.alloc o).cell? p=μ u/\(w.alloc o).cell? q=μ v/\(w.alloc o).cell? r=μ t:=⟨mD h.1,mD h.2.1,mD h.2.2⟩
theorem Ln {b d l m:Nat} {a1 a2:Value} (h:x.cell? ⟨b,k,ν⟩=μ u/\x.cell? ⟨c,l,ν⟩=μ v/\x.cell? ⟨d,m,ν⟩=μ t)(hb:b≠g)(hc:c≠g)(hd:d≠g):
 ((x.setCell ⟨g,0,ν⟩ a1).setCell ⟨g,1,ν⟩ a2).cell? ⟨b,k,ν⟩=μ u/\((x.setCell ⟨g,0,ν⟩ a1).setCell ⟨g,1,ν⟩ a2).cell? ⟨c,l,ν⟩=μ v/\((x.setCell ⟨g,0,ν⟩ a1).setCell ⟨g,1,ν⟩ a2).cell? ⟨d,m,ν⟩=μ t:=
 ⟨nZ (nZ h.1 hb) hb,nZ (nZ h.2.1 hc) hc,nZ (nZ h.2.2 hd) hd⟩
theorem VI(c:pX)(o:Nat->Value)(x:Nat)(hx:x<2):AO c o (x*2)=ι κ (((c.e x).1:Int)+1)/\AO c o (x*2+1)=ι κ ((c.e x).2:Int):=by
 have:x=0 \/x=1:=eE;rcases this with rfl|rfl<;>exact⟨rfl,rfl⟩
theorem Ak(y:Yt)(n:jc)(D:Nat)(i d many:Int)(w:eB)(h:jJ w y n)(hT:jo w)(jb:j6 n D 0)(hD:D<=900000000):
 fj fk 101 #[π (μ ⟨y.N,0,ν⟩),ι κ i,ι κ d,ι κ many] w λe w'=>e=ρ (jy (n.deliver i d many).2)/\iV w w' y (n.deliver i d many).1 n.n:=by
 have hh:=Lc y n i d w h;rcases Lb i d n.nc with⟨hn,hi⟩|⟨c,k,hc,hk,rfl,rfl⟩
 ·have hE:n.deliver i d many=(n,6):=by unfold jc.deliver;rw[ag hi]
  rw[hE];rw[hn]at hh;have HW:Hid _:=iV.refl h;clear h jb hT
  go_in
  go_wp2_with(fail);refine hh.mono ?_;rintro e w1 ⟨rfl,rfl⟩;clear hh
  go_wp2
  go_ret;exact⟨rfl,HW.out⟩
 ·rw[Sp hc hk]at hh;obtain⟨q,hq⟩:=gH (min many.toNat ((n.C c).on k).length);have hE:n.deliver (c:Int) (k:Int) many=((n.j0 c k q).gather,0):=by
   unfold jc.deliver;rw[ae eE,Int.toNat_natCast,Int.toNat_natCast,hq]
  rw[hE];have e0:jy 0=η:=rfl;rw[e0];obtain⟨a,cp,uM,I5⟩:=h.Y0;obtain⟨g,hg,rfl⟩:=I5 c hc;have kN:=jb.j0 (D:=D) (k:=0) (c:=c) (d:=k) (q:=q) eE hc hk;have hG:Hid (∀W,iV w W y (n.j0 c k q) n.n->fj fk 111 #[π (μ ⟨y.N,0,ν⟩)] W λe w'=>e=ρ (τ #[])/\iV w w' y (n.j0 c k q).gather n.n):=by
   intro W hW;refine hW.call λy1 R1 s1=> ?_;rw[<-s1.N];exact pZ y1 _ _ _ W R1 kN eE eE
  obtain⟨x,hx⟩:=gH (1-k);have vm:x<2:=eE;have hot:=λW=>OC k hk W;rw[hx]at hot;obtain⟨j,p,hjp⟩:∃j p,(n.C c).e x=(j,p):=⟨_,_,rfl⟩
  have HF:Hid (∀W,eN w W->W.cell? ⟨y.N,3,ν⟩=μ (σ (μ ⟨g,0,ν⟩) n.nc cp)/\W.cell? ⟨g,c*7+x*2,ν⟩=μ (ι κ ((j:Int)+1))/\W.cell? ⟨g,c*7+x*2+1,ν⟩=μ (ι κ (p:Int))):=by
   intro W hb;have R1:=h.below hb;have h3:=R1.k3;rw[uM]at h3;have h4:=(R1.rc g hg c hc).cell (x*2) eE;have h5:=(R1.rc g hg c hc).cell (x*2+1) eE;obtain⟨g1,g2⟩:=VI (n.C c) (y.ov c) x vm;rw[g1,hjp]at h4;rw[g2,hjp]at h5;exact⟨h3,h4,h5⟩
  have HH:Hid _:=h;have HT:Hid _:=hT;have QL:Hid _:=jb;have HG:Hid _:=hg;have HJP:Hid _:=hjp;have HX:Hid _:=hx;have HQ:Hid _:=hq;have c9:=h.c9;have kS:(c:Int)<(n.nc:Int):=eE;have qD:(0:Int)<=(c:Int):=eE;have Af:(x:Int)<2:=eE;have hx0:(0:Int)<=(x:Int):=eE;obtain⟨nc,sH⟩:=gH (n.nc);rw[sH]at HF kS c9;obtain⟨YN,hYN⟩:=gH (y.N);rw[hYN]at HF hh⊢;have Xp:Hid _:=hYN;have HC:Hid _:=hc;clear h jb hT uM I5 kN hE hjp sH hq hYN hc hg;have F0:=HF.out w.drew (jk w);have gl:g<w.drew.heap.size:=af _ _ F0.2.1;have Nl:YN<w.drew.heap.size:=af _ _ F0.1;have gne:g≠w.heap.size:=by have:g<w.heap.size:=gl;omega
  have Nne:YN≠w.heap.size:=by have:YN<w.heap.size:=Nl;omega
  go_in
  go_wp2_with(fail);refine hh.mono ?_;rintro e w1 ⟨rfl,rfl⟩;clear hh
  go_wp2
  go_cut [9] (λv wx=>∃Y:Nat,v=π (μ ⟨Y,0,ν⟩)/\wx.cell? ⟨Y,0,ν⟩=μ (ι κ ((j:Int)+1))/\wx.cell? ⟨Y,1,ν⟩=μ (ι κ (p:Int))/\eN w wx/\w.heap.size<=Y)
  case first=>
   go_region_held3(λx'=>x'.cell? ⟨YN,3,ν⟩=μ (σ (μ ⟨g,0,ν⟩) nc cp)/\x'.cell? ⟨g,c*7+x*2,ν⟩=μ (ι κ ((j:Int)+1))/\x'.cell? ⟨g,c*7+x*2+1,ν⟩=μ (ι κ (p:Int)))
    (first|assumption|exact F0|exact Aj F0|exact Ln (Aj F0) Nne gne gne)
    (first|(go_at_call 156;refine(hot _).mono ?_;rintro e w1 ⟨rfl,rfl⟩))
   all_goals
    go_wp2_with(fail)
    go_meet
    have hB:jr (w.alloc (γ #[ι κ ((j:Int)+1),ι κ (p:Int)] 192)).drew w.heap.size #[ι κ ((j:Int)+1),ι κ (p:Int)] 192:=(jr.new w _ _).drew;exact⟨_,rfl,hB.cell 0,hB.cell 1,jO (iB _ _),Nat.le_refl _⟩
  case rest=>
   obtain⟨Y,rfl,y0,y1,sL,hY⟩:=hcut
   rename eB=>wx
   have R3:=HH.out.below sL;have hT3:jo wx:=jo.below (w:=w) HT.out sL;have Yl:=af _ _ y0;have hYn:¬y.all n.n Y:=λe=>by
    have:=HH.out.Ah e;omega
   obtain⟨n1,mM⟩:=gH (n.ll c {n.C c with on:=jI (n.C c).on k (((n.C c).on k).drop q)});have AE:n1.n=n.n:=by rw[<-mM];rfl
   have acK:n1.nc=n.nc:=by rw[<-mM];rfl
   have Me:j<n.n:=by have:=(QL.out.en c x HC.out vm).1;rw[HJP.out]at this;exact this
   have acL:(n.C c).e (1-k)=(j,p):=by rw[HX.out];exact HJP.out
   have Y9:=HF.out;have FW:∀(W:eB) (n':jc),n'.nc=n.nc->iV wx W y n' n.n->W.cell? ⟨Y,0,ν⟩=μ (ι κ ((j:Int)+1))/\W.cell? ⟨Y,1,ν⟩=μ (ι κ (p:Int))/\W.cell? ⟨YN,3,ν⟩=μ (σ (μ ⟨g,0,ν⟩) nc cp):=by
    intro W n' YU hW;have si:=hW.kept.block Y Yl hYn;refine⟨(ai (a:=⟨Y,0,ν⟩) si).trans y0,(ai (a:=⟨Y,1,ν⟩) si).trans y1,?_⟩;have h3:=(Y9 wx sL).1;have k3:=R3.k3;rw[Xp.out,h3]at k3;have k4:=hW.k3;rw[YU,<-Option.some.inj k3,Xp.out]at k4;exact k4
   have FT:∀(b:Bool) (W:eB),yi wx y n n1 j (y.z j).R b W->W.cell? ⟨Y,0,ν⟩=μ (ι κ ((j:Int)+1))/\W.cell? ⟨Y,1,ν⟩=μ (ι κ (p:Int))/\W.cell? ⟨YN,3,ν⟩=μ (σ (μ ⟨g,0,ν⟩) nc cp):=by
    intro b W hW;refine FW W _ ?_ hW.1;cases b
    ·rfl
    ·exact acK
   have hat:=λ(b:Bool) (W:eB) (hW:yi wx y n n1 j (y.z j).R b W)=>O5 wx y n n1 j p (y.z j).R b W AE Me hW;have yf:=λ(W:eB) (hW:yi wx y n n1 j (y.z j).R false W)=>I9 wx y n D c k g j (y.z j).R many W QL.out HC.out hk HG.out n1 (by rw[HQ.out];exact mM) hW;have hrc:∀(W:eB),yi wx y n n1 j (y.z j).R true W->fj fk 23 #[π (μ ⟨(y.z j).R,0,ν⟩),ι κ (p:Int),.string ⟨(((n.C c).on k).take q).toArray⟩] W λe w'=>e=ρ η/\iV wx w' y (n.j0 c k q) n.n/\(w'.cell? ⟨Y,0,ν⟩=μ (ι κ ((j:Int)+1))/\w'.cell? ⟨Y,1,ν⟩=μ (ι κ (p:Int))/\w'.cell? ⟨YN,3,ν⟩=μ (σ (μ ⟨g,0,ν⟩) nc cp)):=by
    intro W hW;refine(Ja wx y n D c k j p (y.z j).R q W QL.out hD R3 hT3 HC.out hk acL n1 mM hW).mono ?_;rintro e w' ⟨rfl,hw⟩;exact⟨rfl,hw,FW w' (n.j0 c k q) rfl hw⟩
   rw[HQ.out]at yf;have t0:yi wx y n n1 j (y.z j).R false wx.drew:=⟨iV.still R3 (jk wx),(ai (a:=⟨y.gR,j,ν⟩) rfl).trans (R3.ptr Me)⟩
   have F0:=FT _ _ t0;have JV:Hid _:=sL;generalize (y.z j).R=RR at hat yf hrc t0 FT;generalize (⟨(((n.C c).on k).take q).toArray⟩:ByteArray)=sx at yf hrc;obtain⟨T,Xq⟩:=gH (yi wx y n n1 j RR);obtain⟨T2,acM⟩:∃T2:eB->Prop,(λw'=>iV wx w' y (n.j0 c k q) n.n)=T2:=⟨_,rfl⟩
   have Zq:∀x,iV wx x y (n.j0 c k q) n.n=T2 x:=λx=>ch acM x;have HT2:Hid _:=Zq;simp only[Zq]at hrc;rw[Xq]at hat yf hrc t0 FT;rw[Xp.out]at hat;have Yl2:Y<wx.drew.heap.size:=Yl;have cl2:=af _ _ F0.2.2;clear FW mM AE acK Y9 R3 hT3 hYn Xq acM Zq acL y0 y1 sL F0 hot;have F0:=FT _ _ t0
   go_wp2
   go_region_held3(λx'=>x'.cell? ⟨Y,0,ν⟩=μ (ι κ ((j:Int)+1))/\x'.cell? ⟨Y,1,ν⟩=μ (ι κ (p:Int))/\x'.cell? ⟨YN,3,ν⟩=μ (σ (μ ⟨g,0,ν⟩) nc cp))
    (first|assumption|exact F0|exact F1|exact F2|exact F3)
    (first
     |(go_at_call 157;refine(hat _ _ jj).mono ?_;rintro e w1 ⟨rfl,t1⟩;have F1:=FT _ _ t1)
     |(go_at_call 158;refine(yf _ jj).mono ?_;rintro e w2 ⟨rfl,t2⟩;have F2:=FT _ _ t2)
     |(go_at_call 23;refine(hrc _ jj).mono ?_;rintro e w3 ⟨rfl,t3,F3⟩))
   all_goals
    have wh:=t3;rw[<-HT2.out]at wh;have ki:=hG.out _ (iV.first JV.out wh);rw[Xp.out]at ki;clear wh hat yf hrc t0 t1 t2 t3 FT F0 F1 F2 F3;go_wp2_with(fail);refine ki.mono ?_;rintro e w4 ⟨rfl,G9⟩;have HW:Hid _:=G9;clear ki G9
    go_wp2
    go_ret;exact⟨rfl,HW.out⟩
theorem Zr(w:eB):(zeroValue 195).run fk w=.ok (.agg #[σ ν 0 0,σ ν 0 0]) w:=gT
theorem Al(w:eB)(y:Yt)(M:jc)(D k c d m:Nat)(up:Bool)(jb:j6 M D k)(hD:D<=900000000)(hk:k<=90000)(hc:c<M.nc)(hd:d<2)(hm:M.n=m)(i p:Nat)(yI:(M.C c).e d=(i,p))(W0 W1:eB)(hW:iV w W0 y M m)(hT:jo W0)(hb:eN W0 W1)(E:Nat)(u v:Value)(hE:W0.heap.size<=E)(DI:W1.cell? ⟨E,0,ν⟩=μ u/\W1.cell? ⟨E,1,ν⟩=μ v):
 fj fk 157 #[π (μ ⟨y.N,0,ν⟩),.agg #[ι κ ((i:Int)+1),ι κ (p:Int)]] W1 λe w1=>∃R,e=ρ (π (μ ⟨R,0,ν⟩))/\(w1.cell? ⟨E,0,ν⟩=μ u/\w1.cell? ⟨E,1,ν⟩=μ v)/\
  fj fk 20 #[π (μ ⟨R,0,ν⟩),ι κ (p:Int),.bool up] w1 λe w2=>∃f:Nat,e=ρ (jy f)/\(w2.cell? ⟨E,0,ν⟩=μ u/\w2.cell? ⟨E,1,ν⟩=μ v)/\iV w w2 y (M.mL c d up) m:=by
 subst hm;obtain⟨hi,hp⟩:=jb.en c d hc hd;rw[yI]at hi hp;obtain⟨y1,R0,s1,vY,xI⟩:=hW.ex;have R1:=R0.below hb;have MB:E<W1.heap.size:=af _ _ DI.1;have hEn:¬y1.all M.n E:=λe=>by
  have:=R0.Ah (k:=E) e;omega
 rw[<-s1.N];refine(Ld y1 _ i p W1 R1 hi).mono ?_;rintro e w1 ⟨rfl,b1⟩;refine⟨_,rfl,⟨(ai (a:=⟨E,0,ν⟩) (b1.block E MB)).trans DI.1,(ai (a:=⟨E,1,ν⟩) (b1.block E MB)).trans DI.2⟩,?_⟩;have hE1:E<w1.heap.size:=Nat.lt_of_lt_of_le MB b1.size;have R2:=R1.below b1;have Vk:jo w1:=jo.below (w:=W0) hT (iA hb b1);refine(OX up (y1.z i) (M.R i) p k w1 (R2.rt i hi) Vk (jb.ok i hi) (jb.fits eE hi) eE (by rw[(jb.rn i hi).1];exact hp)).mono ?_;rintro e w2 ⟨rfl,hw⟩;have hg:=jR.iW (M.R i) p up;have sT:=R2.Bl hi hw ⟨hg.n,hg.id⟩;have sg:=sT.kept.block E hE1 hEn;refine⟨_,rfl,⟨(ai (a:=⟨E,0,ν⟩) (sg.trans (b1.block E MB))).trans DI.1,(ai (a:=⟨E,1,ν⟩) (sg.trans (b1.block E MB))).trans DI.2⟩,?_⟩;have e1:M.mL c d up=M.jQ i ((M.R i).iW p up).1:=by
  unfold jc.mL;rw[yI]
 rw[e1];exact iV.pF hW.kept s1 vY xI (iV.first (iA hb b1) sT)
theorem jJ.turn(h:jJ w y n)(hc:c<n.nc)(hg:y.gC=μ g)(up:Bool)(hx:x=((w.setCell ⟨g,c*7+4,ν⟩ (.bool up)).setCell ⟨g,c*7+5,ν⟩ (σ ν 0 0)).setCell ⟨g,c*7+6,ν⟩ (σ ν 0 0)):
 iV w x y (n.ll c {n.C c with jG:=up,on:=λ_=>[] }) n.n:=by
 have hC:=h.rc g hg c hc;have h4:=((hC.set 4 eH (.bool up)).set 5 eH (σ ν 0 0)).set 6 eH (σ ν 0 0);have qI:x.heap.size=w.heap.size:=by rw[hx];simp
 have nR:∀k,k≠g->x.heap[k]? =w.heap[k]? :=λk hk=>by
  rw[hx,ak _ _ _ k hk,ak _ _ _ k hk,ak _ _ _ k hk]
 have b1:Below 0 w x:=by rw[hx];exact(((au 0 w).setCell (Nat.zero_le _) _).setCell (Nat.zero_le _) _).setCell (Nat.zero_le _) _
 refine h.EK hc hg _ (λ_=>σ ν 0 0) eE b1.os b1.tape b1.output (λk _ h1 _=>nR k h1) (λj hj=> ?_) (λj=> ?_) ?_ (λd _=>Row.nil _ 1) (λd _=>Nat.zero_le _) rfl (λd k _ e=>by simp[eF]at e) (λk e=>by simp[eF]at e)
 ·rw[hx];rw[aU _ _ _ _ (λe=>by have:=congrArg iq e;simp at this;omega),aU _ _ _ _ (λe=>by have:=congrArg iq e;simp at this;omega),aU _ _ _ _ (λe=>by have:=congrArg iq e;simp at this;omega)]
 ·rw[hx,mA,mA,mA]
 ·rw[hx];refine h4.congr λj hj=> ?_;have:j=0 \/j=1 \/j=2 \/j=3 \/j=4 \/j=5 \/j=6:=eE;rcases this with rfl|rfl|rfl|rfl|rfl|rfl|rfl<;>rfl
theorem ES(y:Yt)(n:jc)(D k c:Nat)(up:Bool)(w:eB)(h:jJ w y n)(hT:jo w)(jb:j6 n D k)(hD:D<=900000000)(hk:k<=80000)(hc:c<n.nc):
 fj fk 113 #[π (μ ⟨y.N,0,ν⟩),ι κ (c:Int),.bool up] w λe w'=>e=ρ (τ #[])/\iV w w' y (n.j5 c up) n.n:=by
 have c3:=h.k3;obtain⟨a,cp,uM,I5⟩:=h.Y0;obtain⟨g,hg,rfl⟩:=I5 c hc;rw[uM]at c3;have cl:=h.uW;have c9:=h.c9;have kS:(c:Int)<(n.nc:Int):=eE;have qD:(0:Int)<=(c:Int):=eE;have hC:=h.rc g hg c hc;have gl:=hC.lt eH;have k4:=hC.cell 4 eH;have f4:=hC.fz 4 eH;have k5:=hC.cell 5 eH;have f5:=hC.fz 5 eH;have k6:w.cell? ⟨g,c*7+5+1,ν⟩=_:=hC.cell 6 eH;have f6:w.frozen? ⟨g,c*7+5+1,ν⟩=false:=hC.fz 6 eH;have hzo:=Zr;obtain⟨i0,p0,I6⟩:∃i0 p0,(n.C c).e 0=(i0,p0):=⟨_,_,rfl⟩
 obtain⟨i1,p1,I7⟩:∃i1 p1,(n.C c).e 1=(i1,p1):=⟨_,_,rfl⟩
 have k0:w.cell? ⟨g,c*7,ν⟩=μ (ι κ ((i0:Int)+1)):=by
  have:=hC.cell 0 eH;rw[(Ai _ _).1,I6]at this;exact this
 have k1:w.cell? ⟨g,c*7+1,ν⟩=μ (ι κ (p0:Int)):=by
  have:=hC.cell 1 eH;rw[(Ai _ _).2.1,I6]at this;exact this
 have k2:w.cell? ⟨g,c*7+2,ν⟩=μ (ι κ ((i1:Int)+1)):=by
  have:=hC.cell 2 eH;rw[(Ai _ _).2.2.1,I7]at this;exact this
 have k3:w.cell? ⟨g,c*7+3,ν⟩=μ (ι κ (p1:Int)):=by
  have:=hC.cell 3 eH;rw[(Ai _ _).2.2.2.1,I7]at this;exact this
 have H0:Hid (iV w (((w.setCell ⟨g,c*7+4,ν⟩ (.bool up)).setCell ⟨g,c*7+5,ν⟩ (σ ν 0 0)).setCell ⟨g,c*7+5+1,ν⟩ (σ ν 0 0)) y (n.ll c {n.C c with jG:=up,on:=λ_=>[] }) n.n):=h.turn hc hg up rfl;have VJ:j6 (n.ll c {n.C c with jG:=up,on:=λ_=>[] }) D k:=jb.ll (λ_=>rfl) (λ_ _ _=>Nat.zero_le _);obtain⟨M0,IZ⟩:=gH (n.ll c {n.C c with jG:=up,on:=λ_=>[] });have hMC:(M0.C c).e=(n.C c).e:=by
  rw[<-IZ];show(if c=c then _ else n.C c).e=_;rw[ag rfl]
 have hMn:M0.n=n.n:=by rw[<-IZ];rfl
 have hMc:M0.nc=n.nc:=by rw[<-IZ];rfl
 have Xg:Hid (n.j5 c up=(M0.mL c 0 up).mL c 1 up):=by
  show _=_;unfold jc.j5;rw[IZ]
 rw[IZ]at H0 VJ;have kN:j6 (M0.mL c 0 up) D (k+1):=VJ.SH eE (by rw[hMc];exact hc) eH up;have Xr:Hid (∀W0,iV w W0 y M0 n.n->
  fj fk 157 #[π (μ ⟨y.N,0,ν⟩),.agg #[ι κ ((i0:Int)+1),ι κ (p0:Int)]] (W0.alloc (γ #[ι κ ((i0:Int)+1),ι κ (p0:Int)] 192)).drew λe w1=>∃R,e=ρ (π (μ ⟨R,0,ν⟩))/\(w1.cell? ⟨W0.heap.size,0,ν⟩=μ (ι κ ((i0:Int)+1))/\w1.cell? ⟨W0.heap.size,1,ν⟩=μ (ι κ (p0:Int)))/\
  fj fk 20 #[π (μ ⟨R,0,ν⟩),ι κ (p0:Int),.bool up] w1 λe w2=>∃f:Nat,e=ρ (jy f)/\(w2.cell? ⟨W0.heap.size,0,ν⟩=μ (ι κ ((i0:Int)+1))/\w2.cell? ⟨W0.heap.size,1,ν⟩=μ (ι κ (p0:Int)))/\iV w w2 y (M0.mL c 0 up) n.n):=by
  intro W0 hw;have hb:=jO (iB W0 (γ #[ι κ ((i0:Int)+1),ι κ (p0:Int)] 192));have hB:jr (W0.alloc (γ #[ι κ ((i0:Int)+1),ι κ (p0:Int)] 192)).drew W0.heap.size #[ι κ ((i0:Int)+1),ι κ (p0:Int)] 192:=(jr.new W0 _ _).drew;exact Al w y M0 D k c 0 n.n up VJ hD eE (by rw[hMc];exact hc) eH hMn i0 p0 (by rw[hMC];exact I6) W0 _ hw (hw.tab h rfl hT) hb W0.heap.size _ _ (Nat.le_refl _) ⟨hB.cell 0,hB.cell 1⟩
 have HP1:Hid (∀W0,iV w W0 y (M0.mL c 0 up) n.n->
  fj fk 157 #[π (μ ⟨y.N,0,ν⟩),.agg #[ι κ ((i1:Int)+1),ι κ (p1:Int)]] (W0.alloc (γ #[ι κ ((i1:Int)+1),ι κ (p1:Int)] 192)).drew λe w1=>∃R,e=ρ (π (μ ⟨R,0,ν⟩))/\(w1.cell? ⟨W0.heap.size,0,ν⟩=μ (ι κ ((i1:Int)+1))/\w1.cell? ⟨W0.heap.size,1,ν⟩=μ (ι κ (p1:Int)))/\
  fj fk 20 #[π (μ ⟨R,0,ν⟩),ι κ (p1:Int),.bool up] w1 λe w2=>∃f:Nat,e=ρ (jy f)/\(w2.cell? ⟨W0.heap.size,0,ν⟩=μ (ι κ ((i1:Int)+1))/\w2.cell? ⟨W0.heap.size,1,ν⟩=μ (ι κ (p1:Int)))/\iV w w2 y (n.j5 c up) n.n):=by
  intro W0 hw;have hb:=jO (iB W0 (γ #[ι κ ((i1:Int)+1),ι κ (p1:Int)] 192));have hB:jr (W0.alloc (γ #[ι κ ((i1:Int)+1),ι κ (p1:Int)] 192)).drew W0.heap.size #[ι κ ((i1:Int)+1),ι κ (p1:Int)] 192:=(jr.new W0 _ _).drew;rw[Xg.out];exact Al w y (M0.mL c 0 up) D (k+1) c 1 n.n up kN hD eE (by show c<M0.nc;rw[hMc];exact hc) eH hMn i1 p1 (by show(M0.C c).e 1=_;rw[hMC];exact I7) W0 _ hw (hw.tab h rfl hT) hb W0.heap.size _ _ (Nat.le_refl _) ⟨hB.cell 0,hB.cell 1⟩
 obtain⟨nc,sH⟩:=gH (n.nc);rw[sH]at c3 c9 kS;obtain⟨m,hm⟩:=gH (n.n);rw[hm]at H0 Xr HP1⊢;obtain⟨M1,sG⟩:=gH (M0.mL c 0 up);rw[sG]at Xr HP1;obtain⟨M2,qq⟩:=gH (n.j5 c up);rw[qq]at HP1⊢;clear h hT jb uM I5 hC hg hc sH hm sG qq Xg VJ kN IZ hMC hMn hMc I6 I7
 go_in
 go_wp2
 go_loopw [27] (λx wr=>(x=ι κ 0/\iV w wr y M0 m) \/(x=ι κ 1/\iV w wr y M1 m) \/(x=ι κ 2/\iV w wr y M2 m)) (λx _=>2-(intOf x).toNat)
 case atStart=>exact .inl ⟨rfl,H0.out⟩
 case round=>
  rcases hrel with⟨rfl,Bk⟩|⟨rfl,Bk⟩|⟨rfl,Bk⟩
  ·have hix:=Zk ((i0:Int)+1) (p0:Int) ((i1:Int)+1) (p1:Int);have hE:=Xr.out wr Bk;obtain⟨W1,ke⟩:=gH (wr.alloc (γ #[ι κ ((i0:Int)+1),ι κ (p0:Int)] 192));obtain⟨E,ug⟩:=gH (wr.heap.size);have F0:W1.drew.cell? ⟨E,0,ν⟩=μ (ι κ ((i0:Int)+1))/\W1.drew.cell? ⟨E,1,ν⟩=μ (ι κ (p0:Int)):=by
    have hB:jr (wr.alloc (γ #[ι κ ((i0:Int)+1),ι κ (p0:Int)] 192)).drew wr.heap.size #[ι κ ((i0:Int)+1),ι κ (p0:Int)] 192:=(jr.new wr _ _).drew;rw[ke,ug]at hB;exact⟨hB.cell 0,hB.cell 1⟩
   have El:E<W1.drew.heap.size:=af _ _ F0.1;rw[ke,ug]at hE;have O2:Hid _:=ke;have Sj:Hid _:=ug;clear Bk ke ug;go_wp2_with(fail)
   try rw[O2.out]
   try rw[Sj.out]
   go_region_held3(λx=>x.cell? ⟨E,0,ν⟩=μ (ι κ ((i0:Int)+1))/\x.cell? ⟨E,1,ν⟩=μ (ι κ (p0:Int)))
    (first|assumption|exact F0|exact F1|exact F2)
    (first
     |(go_at_call 157;refine hE.mono ?_;rintro e w1 ⟨R,rfl,F1,hO⟩)
     |(go_at_call 20;refine hO.mono ?_;rintro e w2 ⟨f,rfl,F2,hP⟩))
   all_goals
    have I0:Hid _:=hP;clear hE hO hP F0 F1 F2 El
    go_wp2
    go_roundw
    case rel=>exact .inr (.inl ⟨by go_num,I0.out⟩)
    case measure=>simp[intOf]
  ·have hix:=Zl ((i0:Int)+1) (p0:Int) ((i1:Int)+1) (p1:Int);have hE:=HP1.out wr Bk;obtain⟨W1,ke⟩:=gH (wr.alloc (γ #[ι κ ((i1:Int)+1),ι κ (p1:Int)] 192));obtain⟨E,ug⟩:=gH (wr.heap.size);have F0:W1.drew.cell? ⟨E,0,ν⟩=μ (ι κ ((i1:Int)+1))/\W1.drew.cell? ⟨E,1,ν⟩=μ (ι κ (p1:Int)):=by
    have hB:jr (wr.alloc (γ #[ι κ ((i1:Int)+1),ι κ (p1:Int)] 192)).drew wr.heap.size #[ι κ ((i1:Int)+1),ι κ (p1:Int)] 192:=(jr.new wr _ _).drew;rw[ke,ug]at hB;exact⟨hB.cell 0,hB.cell 1⟩
   have El:E<W1.drew.heap.size:=af _ _ F0.1;rw[ke,ug]at hE;have O2:Hid _:=ke;have Sj:Hid _:=ug;clear Bk ke ug;go_wp2_with(fail)
   try rw[O2.out]
   try rw[Sj.out]
   go_region_held3(λx=>x.cell? ⟨E,0,ν⟩=μ (ι κ ((i1:Int)+1))/\x.cell? ⟨E,1,ν⟩=μ (ι κ (p1:Int)))
    (first|assumption|exact F0|exact F1|exact F2)
    (first
     |(go_at_call 157;refine hE.mono ?_;rintro e w1 ⟨R,rfl,F1,hO⟩)
     |(go_at_call 20;refine hO.mono ?_;rintro e w2 ⟨f,rfl,F2,hP⟩))
   all_goals
    have I0:Hid _:=hP;clear hE hO hP F0 F1 F2 El
    go_wp2
    go_roundw
    case rel=>exact .inr (.inr ⟨by go_num,I0.out⟩)
    case measure=>simp[intOf]
  ·have HQ:Hid _:=Bk;clear Bk
   go_wp2
   first|go_end0|refine aj (ar rfl _ _ _) rfl ?_
   exact⟨rfl,HQ.out⟩
theorem Jb(y:Yt)(n:jc)(D:Nat)(i:Int)(up:Bool)(w:eB)(h:jJ w y n)(hT:jo w)(jb:j6 n D 0)(hD:D<=900000000):
 fj fk 57 #[π (μ ⟨y.N,0,ν⟩),ι κ i,.bool up] w λe w'=>e=ρ (jy (n.iW i up).2)/\iV w w' y (n.iW i up).1 n.n:=by
 have hh:=ye y n i w h;rcases KY i n.nc with hn|⟨c,hc,rfl⟩
 ·have hi:i<0 \/(n.nc:Int)<=i:=by
   unfold hasB at hn;by_cases h0:0<=i
   ·by_cases h1:i<(n.nc:Int)
    ·simp[h0,h1]at hn
    ·omega
   ·omega
  have hE:n.iW i up=(n,6):=by unfold jc.iW;rw[ag hi]
  rw[hE];rw[hn]at hh;have HW:Hid _:=iV.refl h;clear h jb hT
  go_in
  go_wp2_with(fail);refine hh.mono ?_;rintro e w1 ⟨rfl,rfl⟩;clear hh
  go_wp2
  go_ret;exact⟨rfl,HW.out⟩
 ·rw[ya hc]at hh;have c3:=h.k3;obtain⟨a,cp,uM,I5⟩:=h.Y0;obtain⟨g,hg,rfl⟩:=I5 c hc;rw[uM]at c3;have cl:=h.uW;have c9:=h.c9;have kS:(c:Int)<(n.nc:Int):=eE;have qD:(0:Int)<=(c:Int):=eE;have k4:w.cell? ⟨g,c*7+4,ν⟩=μ (.bool (n.C c).jG):=(h.rc g hg c hc).cell 4 eH;have gl:=(h.rc g hg c hc).lt eH;have hE:n.iW (c:Int) up=if(n.C c).jG=up then(n,7)else((n.j5 c up).gather,0):=by
   unfold jc.iW;rw[ae eE,Int.toNat_natCast]
  rw[hE];by_cases hu:(n.C c).jG=up
  ·rw[ag hu];rw[hu]at k4;have HW:Hid _:=iV.refl h;have RZ:(up==up)=true:=iC;clear h jb hT hE hu uM I5
   go_in
   go_wp2_with(fail);refine hh.mono ?_;rintro e w1 ⟨rfl,rfl⟩;clear hh
   go_wp2
   go_ret;exact⟨rfl,HW.out⟩
  ·rw[ae hu];have RZ:((n.C c).jG==up)=false:=by simpa using hu
   have hp:=ES y n D 0 c up w h hT jb hD eE hc;have kN:=jb.j5 eE hc up;have hG:Hid (∀W,iV w W y (n.j5 c up) n.n->fj fk 111 #[π (μ ⟨y.N,0,ν⟩)] W λe w'=>e=ρ (τ #[])/\iV w w' y (n.j5 c up).gather n.n):=by
    intro W hW;refine hW.call λy1 R1 s1=> ?_;rw[<-s1.N];exact pZ y1 _ _ _ W R1 kN eE eE
   have e0:jy 0=η:=rfl;rw[e0];generalize (n.C c).jG=b at k4 RZ;clear h jb hT hE hu uM I5 kN
   go_in
   go_wp2_with(fail);refine hh.mono ?_;rintro e w1 ⟨rfl,rfl⟩;clear hh;go_wp2_with(fail);refine hp.mono ?_;rintro e w1 ⟨rfl,l7⟩;have ki:=hG.out _ l7;clear hp l7;go_wp2_with(fail);refine ki.mono ?_;rintro e w2 ⟨rfl,sT⟩;have HW:Hid _:=sT;clear ki sT
   go_wp2
   go_ret;exact⟨rfl,HW.out⟩
theorem jJ.ag2 {w':eB} (h:jJ w y n)(hi:i<n.n)(v:Value)(l:List tV)(hs:w.heap.size<=w'.heap.size)(DA:w'.os=w.os)(JX:w'.tape=w.tape)(KU:w'.output=w.output)
 (hk:∀k,k<w.heap.size->k≠y.gI->(y.iv i).ownBlock≠μ k->w'.heap[k]? =w.heap[k]?) (G5:pL w' y.gI 0 n.n (jI y.iv i v)) (Uj:Row w' 3 v l.length (nh l))
 (jC:∀k,v.ownBlock=μ k->(y.iv i).ownBlock=μ k \/w.heap.size<=k):∃y',jJ w' y' {n with jA:=jI n.jA i l} /\y.same y'/\(∀k,y'.all n.n k->y.all n.n k \/w.heap.size<=k)/\(∀k,y'.ext k↔y.ext k)/\uj w w' y n.n/\(∀q,q≠ .ib i->y'.at q=y.at q)/\y'.iv i=v/\∀j k,(y'.z j).oj k↔(y.z j).oj k:=by
 obtain⟨y1,yc⟩:∃y1:Yt,y1={y with iv:=jI y.iv i v}:=⟨_,rfl⟩
 obtain⟨y',np⟩:∃y':Yt,y'={y with iv:=jI y.iv i v,z:=λj=>(y.z j).plus (uu w w' y1)}:=⟨_,rfl⟩
 have jD:∀k,y'.own k↔y1.own k:=λk=>by
  rw[np,yc];constructor
  ·rintro⟨l,e⟩;exact⟨l,by cases l<;>exact e⟩
  ·rintro⟨l,e⟩;exact⟨l,by cases l<;>exact e⟩
 have hX:uu w w' y1=uu w w' y':=by
  funext k
  apply propext;unfold uu;rw[<-jD k];have:y1.ext=y'.ext:=by rw[yc,np]
  rw[this]
 have hat:∀l k,y'.at l=μ k->y.at l=μ k \/(w.heap.size<=k/\l=.ib i/\v.ownBlock=μ k):=by
  intro l k e;rw[np]at e;cases l with
  |N=>exact .inl e
  |R=>exact .inl e
  |I=>exact .inl e
  |C=>exact .inl e
  |on x d=>exact .inl e
  |ib x=>
   have e':(jI y.iv i v x).ownBlock=μ k:=e;by_cases hx:x=i
   ·subst hx;rw[iP]at e';rcases jC k e' with e1|e1
    ·exact .inl e1
    ·exact .inr ⟨e1,rfl,e'⟩
   ·rw[iL _ _ hx]at e';exact .inl e'
 have kH:∀k,y'.own k->k<w'.heap.size:=by
  rintro k ⟨l,e⟩;rcases hat l k e with e1|⟨_,rfl,e1⟩
  ·exact Nat.lt_of_lt_of_le (h.qL e1) hs
  ·exact Uj.lt k e1
 have ko:∀l k,y.at l=μ k->l≠ .I->l≠ .ib i->w'.heap[k]? =w.heap[k]? :=by
  intro l k e h1 h2;refine hk k (h.qL e) (λe1=> ?_) (λe1=> ?_)
  ·exact h.sZ e (show y.at .I=μ y.gI from rfl) h1 e1
  ·exact h2 (h.inj _ _ k e (show y.at (.ib i)=μ k from e1))
 have H:=h.owned (y':=y') (n':={n with jA:=jI n.jA i l}) hs (λk si h1 _=>hk k si (λe=>h1 ⟨.I,by rw[e];rfl⟩) (λe=>h1 ⟨.ib i,e⟩)) (by rw[np]) (by rw[<-hX,np])
  (λk e=>e.elim (kH k) (λe=>by
   have e':y.ext k:=by rw[np]at e;exact e
   exact Nat.lt_of_lt_of_le (h.lt (.inr e')) hs))
  (by
   rintro k ⟨l,e⟩;rcases hat l k e with e1|⟨e1,_⟩
   ·exact .inl ⟨l,e1⟩
   ·exact .inr e1) (λk e=>.inl (by rw[np]at e;exact e)) rfl rfl rfl h.c9 (by rw[np];exact h.nN.keep (ko .N _ rfl (λe=>nomatch e) (λe=>nomatch e)))
  (by rw[np];exact h.rr.keep (ko .R _ rfl (λe=>nomatch e) (λe=>nomatch e))) (by rw[np];exact G5)
  (by
   intro g' Dy x hx;have vZ:y.gC=μ g':=by rw[np]at Dy;exact Dy
   have:=(h.rc g' vZ x hx).keep (ko .C g' vZ (λe=>nomatch e) (λe=>nomatch e));rw[np];exact this)
  (by
   intro x hx;obtain⟨g',e⟩:=h.gc x hx;exact⟨g',by rw[np];exact e⟩)
  (by
   intro x hx;show Row w' 3 (y'.iv x) (jI n.jA i l x).length (nh (jI n.jA i l x));have e0:y'.iv x=jI y.iv i v x:=by rw[np]
   rw[e0];by_cases e:x=i
   ·subst e;rw[iP,iP];exact Uj
   ·rw[iL _ _ e,iL _ _ e];exact(h.ib x hx).keep hs (λk e1=>ko (.ib x) k e1 (λe=>nomatch e) (λe'=>e (by injection e'))))
  (by
   intro x d hx hd;have:=(h.ob x d hx hd).keep hs (λk e1=>ko (.on x d) k e1 (λe=>nomatch e) (λe=>nomatch e));rw[np];exact this)
  h.ol h.en
  (by
   intro l l' k e e';rcases hat l k e with e1|⟨e1,rfl,e2⟩
   ·rcases hat l' k e' with e3|⟨e3,_⟩
    ·exact h.inj l l' k e1 e3
    ·have:=h.qL e1;omega
   ·rcases hat l' k e' with e3|⟨e3,rfl,e4⟩
    ·have:=h.qL e3;omega
    ·rfl)
  (by
   intro k e;have e0:y.ext k:=by rw[np]at e;exact e
   rintro⟨l,e1⟩;rcases hat l k e1 with e2|⟨e2,_⟩
   ·exact h.nx k e0 ⟨l,e2⟩
   ·have:=h.lt (.inr e0);omega)
 refine⟨y',H.1,by rw[np];exact⟨rfl,rfl,rfl,rfl,rfl,rfl,rfl,rfl⟩,H.2,λk=>by rw[np],⟨DA,JX,KU,hs,λk si hn=>hk k si (λe=>hn (.inl ⟨.I,by rw[e];rfl⟩)) (λe=>hn (.inl ⟨.ib i,e⟩))⟩,λq hq=> ?_,?_,λj k=> ?_⟩
 ·rw[np];cases q with
  |N=>rfl
  |R=>rfl
  |I=>rfl
  |C=>rfl
  |on x d=>rfl
  |ib x=>
   show(jI y.iv i v x).ownBlock=(y.iv x).ownBlock;rw[iL _ _ (λe=>hq (by rw[e]))]
 ·rw[np];exact iP _ _ _
 ·rw[np];exact eu
theorem jJ.hand(h:jJ w y n)(hk:k<n.n):∃y',jJ (w.setCell ⟨y.gI,k,ν⟩ (σ ν 0 0)) y' {n with jA:=jI n.jA k [] } /\y.same y'/\(∀b,y'.all n.n b->y.all n.n b \/w.heap.size<=b)/\(∀b,y'.ext b↔y.ext b)/\uj w (w.setCell ⟨y.gI,k,ν⟩ (σ ν 0 0)) y n.n/\
 ∀b,(y.iv k).ownBlock=μ b->¬y'.all n.n b:=by
 have G5:=h.ri.set k hk (σ ν 0 0);rw[Nat.zero_add]at G5;obtain⟨y',h1,h2,h3,h4,h5,h6,h7,h8⟩:=h.ag2 (w':=w.setCell ⟨y.gI,k,ν⟩ (σ ν 0 0)) hk (σ ν 0 0) [] iC rfl rfl rfl (λj _ hj _=>ak _ _ _ j hj) (G5.congr λx hx=>by
  by_cases e:x=k
  ·subst e;rw[iP];unfold qF;simp
  ·rw[iL _ _ e];unfold qF;simp[e]) (Row.nil _ 3) (λb e=>by simp[eF]at e)
 refine⟨y',h1,h2,h3,h4,h5,λb hb e=> ?_⟩;rcases e with⟨l,hl⟩|⟨j,hj,hf⟩
 ·by_cases el:l=.ib k
  ·subst el;have:(y'.iv k).ownBlock=μ b:=hl;rw[h7]at this;simp[eF]at this
  ·rw[h6 l el]at hl;exact el (h.inj l (.ib k) b hl hb)
 ·exact h.Gc hj ⟨.ib k,hb⟩ ((h8 j b).1 hf)
theorem O6(y:Yt)(n:jc)(D k:Nat)(w:eB)(h:jJ w y n)(jb:j6 n D 0)(hD:D<=900000000)(hk:k<n.n):
 fj fk 52 #[π (μ ⟨y.N,0,ν⟩),ι κ ((k:Int)+1)] w λe w'=>∃v,e=ρ (τ #[v,η])/\Row w' 3 v (n.jA k).length (nh (n.jA k))/\iV w w' y (n.inbox k) n.n/\∀b,v.ownBlock=μ b->¬y.ext b:=by
 have hh:=oJ y n ((k:Int)+1) w h;rw[uX hk]at hh;have k1:=h.k1;have cl:=h.uW;have d0:=h.Sn hk;have f0:=h.ri.fz k hk;rw[Nat.zero_add]at f0;have dl:=h.Vt;have n6:=h.n6;have hw:=vR hk n6;have lO:(k:Int)<(n.n:Int):=eE;have NR:(0:Int)<=(k:Int):=eE;obtain⟨y',h1,h2,h3,h4,h5,h6⟩:=h.hand hk;have ji:=h.ib k hk;have kN:j6 ({n with jA:=jI n.jA k [] }:jc) D 0:=⟨jb.n1,jb.n6,jb.c9,jb.en,jb.ds,jb.ms,jb.rn,jb.ok,jb.drop,jb.ol,λj hj=>by
  show(jI n.jA k [] j).length<=_;by_cases e:j=k
  ·subst e;rw[iP];exact Nat.zero_le _
  ·rw[iL _ _ e];exact jb.ib j hj,jb.idle,jb.fit⟩
 have hg:=pZ y' _ D 0 _ h1 kN eE eE;rw[h2.N]at hg;have Vh:∀b,(y.iv k).ownBlock=μ b->b≠y.gI:=λb e=>h.sZ (l:=.ib k) (l':=.I) e rfl (by intro e;cases e);have vZ:fj fk 111 #[π (μ ⟨y.N,0,ν⟩)] (w.setCell ⟨y.gI,k,ν⟩ (σ ν 0 0)) λe w'=>e=ρ (τ #[])/\Row w' 3 (y.iv k) (n.jA k).length (nh (n.jA k))/\iV w w' y (n.inbox k) n.n:=by
  refine hg.mono ?_;rintro e w' ⟨rfl,Vn⟩;refine⟨rfl,?_,iV.pF h5 h2 h3 h4 Vn⟩;have r1:Row (w.setCell ⟨y.gI,k,ν⟩ (σ ν 0 0)) 3 (y.iv k) (n.jA k).length (nh (n.jA k)):=ji.keep iC (λb e=>ak _ _ _ b (Vh b e));exact r1.keep Vn.kept.size (λb e=>Vn.kept.block b (r1.lt b e) (h6 b e))
 have hvx:∀b,(y.iv k).ownBlock=μ b->¬y.ext b:=λb e hx=>h.nx b hx ⟨.ib k,e⟩;obtain⟨aI,cI,KX⟩:=Row.shape ji;rw[KX]at d0 vZ hvx;have HVX:Hid _:=hvx;clear h jb hg h1 h2 h3 h4 h5 h6 ji kN Vh KX hvx
 go_in
 go_wp2_with(fail);refine hh.mono ?_;rintro e w1 ⟨rfl,rfl⟩;clear hh;go_wp2_with(fail);refine vZ.mono ?_;rintro e w2 ⟨rfl,hr,sT⟩;have HR:Hid _:=hr;have HW:Hid _:=sT;clear vZ hr sT
 go_wp2
 go_ret2
 exact⟨_,rfl,HR.out,HW.out,HVX.out⟩
end Rt
end Go.Proofs.YtieklnlbljejdaaGreatDoor
