import Derived.Test.YtieklnlbljejdaaGreatDoorV05
open Go.Value renaming int → ι, slice → σ, pointer → π, tuple → τ, nilIface → η, ownBlock → fD, cells → gG
open Go.IntKind renaming i64 → κ
open Go.Ending renaming returned → ρ
open Go.Obj renaming cells → γ
open Option renaming none → ν, some → μ, getD → ji, isSome → jj
open Go renaming World → fA, Calls → gb, Value → fB
open Go.Proofs.Tryz renaming prog → gg
open Go.Addr renaming off → jl
open Go.RowKit renaming intOf → gj
open List renaming range → gw, append_nil → jm, length_append → fT, length_cons → fU, length_nil → fV
open Bool renaming false_eq_true → iW, and_eq_true → jo
open Go.Instr renaming makeSlice → jq, loadAt → iH
open Classical renaming choose → jr
set_option maxRecDepth 100000
set_option maxHeartbeats 8000000
set_option linter.defProp false
open Go.Proofs.Tryz
namespace Go.Proofs.YtieklnlbljejdaaGreatDoor
open Go.RowKit St
namespace Rt
variable {L:List qM} {P:Nat->Nat} {W W2 w w' x:World} {a:Option Addr} {b c cap g i k n q:Nat} {many:Int} {p:kB} {r:jO} {s:LS} {t u v:Value} {y y1:Yt} {z:Zt}
def jH.ac0 {n:jQ} {R:Nat} (Y:kL W y1 n)(s1:y.same y1)(hi:i<n.n)(hc:W.cell? ⟨y.gR,i,ν⟩=μ (π (μ ⟨R,0,ν⟩))):(y1.z i).R=R:=by
 have Z:=Y.ptr hi;rw[s1.gR,hc]at Z;have X:=aL Z;injection X with V;injection V with U;injection U with T;exact T.symm
def Bu(W3:fA)(y:Yt)(n n1:jQ)(i R:Nat)(b:Bool)(W:fA):Prop:=jH W3 W y (if b=true then n1 else n) n.n/\W.cell? ⟨y.gR,i,ν⟩=μ (π (μ ⟨R,0,ν⟩))
def Bu.below {W3:fA} {y:Yt} {n n1:jQ} {i R:Nat} {b:Bool} {W W':fA} (h:Bu W3 y n n1 i R b W)(Y:n1.n=n.n)(Z:fP W W'):Bu W3 y n n1 i R b W':=by
 refine⟨h.1.below (by cases b<;>simp[Y]) Z,?_⟩;exact(ak (a:=⟨y.gR,i,ν⟩) (Z.block y.gR (ai _ _ h.2))).trans h.2
def Ub(V:fA)(y:Yt)(n n1:jQ)(i p R:Nat)(b:Bool)(W:fA)(U:n1.n=n.n)(hi:i<n.n)(Z:Bu V y n n1 i R b W):
 gb gg 157 #[π (μ ⟨y.N,0,ν⟩),.agg #[ι κ ((i:Int)+1),ι κ (p:Int)]] W λe w'=>e=ρ (π (μ ⟨R,0,ν⟩))/\Bu V y n n1 i R b w':=by
  obtain⟨y1,X,s1,xP,AU⟩:=Z.1.ex;have Y:(if b=true then n1 else n).n=n.n:=by cases b<;>simp[U]
  have T:=jH.ac0 X s1 (by rw[Y];exact hi) Z.2;rw[<-s1.N];refine(PI y1 _ i p W X (by rw[Y];exact hi)).mono ?_;rintro e w1 ⟨rfl,b1⟩;exact⟨by rw[T],Z.below U b1⟩
def M9(V:fA)(y:Yt)(n:jQ)(D c d g i R:Nat)(many:Int)(W:fA)(J:ll n D 0)(hc:c<n.nc)(hd:d<2)(M:y.gC=μ g)(n1:jQ)(H:n.nj c {n.C c with on:=kK (n.C c).on d (((n.C c).on d).drop (min many.toNat ((n.C c).on d).length))}=n1)(Q:Bu V y n n1 i R false W):
 gb gg 158 #[π (μ ⟨g,c*7,ν⟩),ι κ (d:Int),ι κ many] W λe w'=>e=ρ (.string ⟨(((n.C c).on d).take (min many.toNat ((n.C c).on d).length)).toArray⟩)/\Bu V y n n1 i R true w':=by
  obtain⟨Y,U⟩:=Q;have Y:jH V W y n n.n:=Y;obtain⟨y1,Z,s1,G,S⟩:=Y.ex;have X:y1.gC=μ g:=by rw[s1.gC];exact M
  refine(TH g (c*7) d (n.C c) (y1.ov c) many W hd (Z.rc g X c hc) (Z.ob c d hc hd) (Z.aic X) (Z.ol c d hc hd)).mono ?_;rintro e w1 ⟨rfl,v',hw⟩;have T:=Z.cbW hc hd X hw rfl (λx hx=>iw _ _ hx) (by
   show(kK (n.C c).on d _ d).length<=2000;rw[jd,eG];have:=J.ol c d hc hd;omega)
  rw[H]at T;refine⟨rfl,jH.rY Y.kept s1 G S T,?_⟩;rw[<-s1.gR]at U⊢;refine(ak (a:=⟨y1.gR,i,ν⟩) (hw.block y1.gR Z.TE (λe=> ?_) (λe=> ?_))).trans U;{exact Z.wB (l:=.R) (l':=.C) rfl X (by intro e;cases e) e};exact Z.wB (l:=.on c d) (l':=.R) e rfl (by intro e;cases e) rfl
def Na(Z:fA)(y:Yt)(n:jQ)(D c d i p R q:Nat)(W:fA)(T:ll n D 0)(hD:D<=900000000)(h3:kL Z y n)(hT:kd Z)(hc:c<n.nc)(hd:d<2)(H:(n.C c).e (1-d)=(i,p))(n1:jQ)(J:n.nj c {n.C c with on:=kK (n.C c).on d (((n.C c).on d).drop q)}=n1)(hW:Bu Z y n n1 i R true W):
 gb gg 23 #[π (μ ⟨R,0,ν⟩),ι κ (p:Int),.string ⟨(((n.C c).on d).take q).toArray⟩] W λe w'=>e=ρ η/\jH Z w' y (n.ky c d q) n.n:=by
  obtain⟨Y,h2⟩:=hW;have Y:jH Z W y n1 n.n:=Y;have hi:=(T.en c (1-d) hc fC)
  rw[H]at hi;have S:n1.n=n.n:=by rw[<-J];rfl
  have X:n1.R=n.R:=by rw[<-J];rfl
  have M:=Y.tab h3 rfl hT;obtain⟨y1,Q,s1,xP,h⟩:=Y.ex;have hR:=jH.ac0 Q s1 (by rw[S];exact hi.1) h2;rw[<-hR];have hl:=T.ol c d hc hd
  have ud:(⟨(((n.C c).on d).take q).toArray⟩:ByteArray).size<=2000:=by
   show Array.size _<=_;simp;omega
  have V:=Q.rt i (by rw[S];exact hi.1);have Z4:=T.fits fC (i:=i) hi.1;rw[X]at V;refine(XO _ (y1.z i) (n.R i) p 0 W V M (T.ok i hi.1) Z4 fC (by rw[(T.rn i hi.1).1];exact hi.2)).mono ?_;rintro e w1 ⟨rfl,hw⟩;have e1:(⟨(((n.C c).on d).take q).toArray⟩:ByteArray).data.toList=((n.C c).on d).take q:=gZ;rw[e1]at hw;have A:=kR.recv (n.R i) p (((n.C c).on d).take q);have xu:i<n1.n:=by rw[S];exact hi.1
  have U:jH W w1 y1 (n1.kG i ((n.R i).recv p (((n.C c).on d).take q))) n1.n:=by
   have G:(n.R i)=n1.R i:=by rw[X]
   refine Q.EM xu ?_ ?_;{rw[<-G];exact hw};rw[<-G];exact⟨A.n,A.id⟩
  rw[S]at U;refine⟨rfl,jH.rY Y.kept s1 xP h ?_⟩
  have e3:n.ky c d q=n1.kG i ((n.R i).recv p (((n.C c).on d).take q)):=by
   unfold jQ.ky;rw[H,J]
  rw[e3];exact U
def DF {p q r:Addr} {o:Obj} (h:w.cell? p=μ u/\w.cell? q=μ v/\w.cell? r=μ t):(w.alloc o).cell? p=μ u/\(w.alloc o).cell? q=μ v/\(w.alloc o).cell? r=μ t:=⟨oq h.1,oq h.2.1,oq h.2.2⟩
def PX {d l m:Nat} {a1 a2:fB} (h:x.cell? ⟨b,k,ν⟩=μ u/\x.cell? ⟨c,l,ν⟩=μ v/\x.cell? ⟨d,m,ν⟩=μ t)(Z:b≠g)(hc:c≠g)(hd:d≠g):
 ((x.setCell ⟨g,0,ν⟩ a1).setCell ⟨g,1,ν⟩ a2).cell? ⟨b,k,ν⟩=μ u/\((x.setCell ⟨g,0,ν⟩ a1).setCell ⟨g,1,ν⟩ a2).cell? ⟨c,l,ν⟩=μ v/\((x.setCell ⟨g,0,ν⟩ a1).setCell ⟨g,1,ν⟩ a2).cell? ⟨d,m,ν⟩=μ t:=
 ⟨qz (qz h.1 Z) Z,qz (qz h.2.1 hc) hc,qz (qz h.2.2 hd) hd⟩
def abb(c:sE)(o:Nat->fB)(x:Nat)(hx:x<2):Em c o (x*2)=ι κ (((c.e x).1:Int)+1)/\Em c o (x*2+1)=ι κ ((c.e x).2:Int):=by
 have:x=0 \/x=1:=fC;obtain rfl|rfl:=this<;>exact⟨rfl,rfl⟩
def DG(y:Yt)(n:jQ)(D:Nat)(i d many:Int)(w:fA)(h:kL w y n)(hT:kd w)(jR:ll n D 0)(hD:D<=900000000):
 gb gg 101 #[π (μ ⟨y.N,0,ν⟩),ι κ i,ι κ d,ι κ many] w λe w'=>e=ρ (kr (n.j7 i d many).2)/\jH w w' y (n.j7 i d many).1 n.n:=by
  have hh:=PH y n i d w h;obtain⟨hn,hi⟩|⟨c,k,hc,hk,rfl,rfl⟩:=PG i d n.nc
  ·have hE:n.j7 i d many=(n,6):=by unfold jQ.j7;rw[ag hi]
   rw[hE];rw[hn]at hh;have HW:Hid _:=jH.refl h;clear h jR hT;go_in;go_wp2_with fail;refine hh.mono ?_;rintro e w1 ⟨rfl,rfl⟩;clear hh;go_wp2;go_ret;exact⟨rfl,HW.out⟩
  rw[XI hc hk]at hh;obtain⟨q,hq⟩:=fH (min many.toNat ((n.C c).on k).length)
  have hE:n.j7 (c:Int) (k:Int) many=((n.ky c k q).gather,0):=by
   unfold jQ.j7;rw[af fC,bI,bI,hq]
  rw[hE];have e0:kr 0=η:=rfl;rw[e0];obtain⟨a,cp,x5,M3⟩:=h.cvs;obtain⟨g,hg,rfl⟩:=M3 c hc;have mI:=jR.ky (D:=D) (k:=0) (c:=c) (d:=k) (q:=q) fC hc hk
  have hG:Hid (∀W,jH w W y (n.ky c k q) n.n->gb gg 111 #[π (μ ⟨y.N,0,ν⟩)] W λe w'=>e=ρ (τ #[])/\jH w w' y (n.ky c k q).gather n.n):=by
   intro W V;refine V.call λy1 R1 s1=> ?_;rw[<-s1.N];exact sW y1 _ _ _ W R1 mI fC fC
  obtain⟨x,hx⟩:=fH (1-k);have Et:x<2:=fC;have A:=λW=>TF k hk W;rw[hx]at A;obtain⟨j,p,Q⟩:∃j p,(n.C c).e x=(j,p):=⟨_,_,rfl⟩
  have HF:Hid (∀W,fP w W->W.cell? ⟨y.N,3,ν⟩=μ (σ (μ ⟨g,0,ν⟩) n.nc cp)/\W.cell? ⟨g,c*7+x*2,ν⟩=μ (ι κ ((j:Int)+1))/\W.cell? ⟨g,c*7+x*2+1,ν⟩=μ (ι κ (p:Int))):=by
   intro W hb;have R1:=h.below hb;have h3:=R1.k3;rw[x5]at h3;have h4:=(R1.rc g hg c hc).cell (x*2) fC;have h5:=(R1.rc g hg c hc).cell (x*2+1) fC;obtain⟨g1,g2⟩:=abb (n.C c) (y.ov c) x Et;rw[g1,Q]at h4;rw[g2,Q]at h5;exact⟨h3,h4,h5⟩
  have HH:Hid _:=h;have HT:Hid _:=hT;have Tk:Hid _:=jR;have HG:Hid _:=hg;have HJP:Hid _:=Q;have HX:Hid _:=hx;have HQ:Hid _:=hq;have c9:=h.c9;have kY:(c:Int)<(n.nc:Int):=fC;have sy:(0:Int)<=(c:Int):=fC;have xG:(x:Int)<2:=fC;have hx0:(0:Int)<=(x:Int):=fC;obtain⟨nc,vt⟩:=fH (n.nc);rw[vt]at HF kY c9;obtain⟨M,G⟩:=fH (y.N);rw[G]at HF hh⊢;have S:Hid _:=G;have HC:Hid _:=hc;clear h jR hT x5 M3 mI hE Q vt hq G hc hg;have U:=HF.out w.drew (j4 w);have gl:g<w.drew.heap.size:=ai _ _ U.2.1;have Nl:M<w.drew.heap.size:=ai _ _ U.1;have gne:g≠w.heap.size:=by have:g<w.heap.size:=gl;omega
  have Nne:M≠w.heap.size:=by have:M<w.heap.size:=Nl;omega
  go_in;go_wp2_with fail;refine hh.mono ?_;rintro e w1 ⟨rfl,rfl⟩;clear hh;go_wp2;go_cut [9] (λv Z=>∃Y:Nat,v=π (μ ⟨Y,0,ν⟩)/\Z.cell? ⟨Y,0,ν⟩=μ (ι κ ((j:Int)+1))/\Z.cell? ⟨Y,1,ν⟩=μ (ι κ (p:Int))/\fP w Z/\w.heap.size<=Y)
  case first=>
   go_region_held3(λx'=>x'.cell? ⟨M,3,ν⟩=μ (σ (μ ⟨g,0,ν⟩) nc cp)/\x'.cell? ⟨g,c*7+x*2,ν⟩=μ (ι κ ((j:Int)+1))/\x'.cell? ⟨g,c*7+x*2+1,ν⟩=μ (ι κ (p:Int)))
    (first|assumption|exact U|exact DF U|exact PX (DF U) Nne gne gne)
    (first|(go_at_call 156;refine(A _).mono ?_;rintro e w1 ⟨rfl,rfl⟩))
   all_goals
    go_wp2_with fail
    go_meet
    have hB:j2 (w.alloc (γ #[ι κ ((j:Int)+1),ι κ (p:Int)] 192)).drew w.heap.size #[ι κ ((j:Int)+1),ι κ (p:Int)] 192:=(j2.new w _ _).drew;exact⟨_,rfl,hB.cell 0,hB.cell 1,kN (gu _ _),aj _⟩
  case rest=>
   obtain⟨Y,rfl,y0,y1,uA,hY⟩:=hcut
   rename fA=>Z
   have R3:=HH.out.below uA;have hT3:kd Z:=kd.below (w:=w) HT.out uA;have Yl:=ai _ _ y0
   have hYn:¬y.all n.n Y:=λe=>by
    have:=HH.out.DC e;omega
   obtain⟨n1,oA⟩:=fH (n.nj c {n.C c with on:=kK (n.C c).on k (((n.C c).on k).drop q)});have B4:n1.n=n.n:=by rw[<-oA];rfl
   have aik:n1.nc=n.nc:=by rw[<-oA];rfl
   have Ke:j<n.n:=by have:=(Tk.out.en c x HC.out Et).1;rw[HJP.out]at this;exact this
   have ail:(n.C c).e (1-k)=(j,p):=by rw[HX.out];exact HJP.out
   have hF3:=HF.out
   have FW:∀(W:fA) (n':jQ),n'.nc=n.nc->jH Z W y n' n.n->W.cell? ⟨Y,0,ν⟩=μ (ι κ ((j:Int)+1))/\W.cell? ⟨Y,1,ν⟩=μ (ι κ (p:Int))/\W.cell? ⟨M,3,ν⟩=μ (σ (μ ⟨g,0,ν⟩) nc cp):=by
    intro W n' hn' V;have vK:=V.kept.block Y Yl hYn;refine⟨(ak (a:=⟨Y,0,ν⟩) vK).trans y0,(ak (a:=⟨Y,1,ν⟩) vK).trans y1,?_⟩;have h3:=(hF3 Z uA).1;have k3:=R3.k3;rw[S.out,h3]at k3;have k4:=V.k3;rw[hn',<-aL k3,S.out]at k4;exact k4
   have J:∀(b:Bool) (W:fA),Bu Z y n n1 j (y.z j).R b W->W.cell? ⟨Y,0,ν⟩=μ (ι κ ((j:Int)+1))/\W.cell? ⟨Y,1,ν⟩=μ (ι κ (p:Int))/\W.cell? ⟨M,3,ν⟩=μ (σ (μ ⟨g,0,ν⟩) nc cp):=by
    intro b W V;refine FW W _ ?_ V.1;cases b;{rfl};exact aik
   have hat:=λ(b:Bool) (W:fA) (V:Bu Z y n n1 j (y.z j).R b W)=>Ub Z y n n1 j p (y.z j).R b W B4 Ke V;have AQ:=λ(W:fA) (V:Bu Z y n n1 j (y.z j).R false W)=>M9 Z y n D c k g j (y.z j).R many W Tk.out HC.out hk HG.out n1 (by rw[HQ.out];exact oA) V
   have X:∀(W:fA),Bu Z y n n1 j (y.z j).R true W->gb gg 23 #[π (μ ⟨(y.z j).R,0,ν⟩),ι κ (p:Int),.string ⟨(((n.C c).on k).take q).toArray⟩] W λe w'=>e=ρ η/\jH Z w' y (n.ky c k q) n.n/\(w'.cell? ⟨Y,0,ν⟩=μ (ι κ ((j:Int)+1))/\w'.cell? ⟨Y,1,ν⟩=μ (ι κ (p:Int))/\w'.cell? ⟨M,3,ν⟩=μ (σ (μ ⟨g,0,ν⟩) nc cp)):=by
    intro W V;refine(Na Z y n D c k j p (y.z j).R q W Tk.out hD R3 hT3 HC.out hk ail n1 oA V).mono ?_;rintro e w' ⟨rfl,hw⟩;exact⟨rfl,hw,FW w' (n.ky c k q) rfl hw⟩
   rw[HQ.out]at AQ;have t0:Bu Z y n n1 j (y.z j).R false Z.drew:=⟨jH.still R3 (j4 Z),(ak (a:=⟨y.gR,j,ν⟩) rfl).trans (R3.ptr Ke)⟩
   have U:=J _ _ t0;have Ly:Hid _:=uA;generalize (y.z j).R=RR at hat AQ X t0 J;generalize (⟨(((n.C c).on k).take q).toArray⟩:ByteArray)=sx at AQ X;obtain⟨T,hTe⟩:=fH (Bu Z y n n1 j RR);obtain⟨T2,aim⟩:∃T2:fA->Prop,(λw'=>jH Z w' y (n.ky c k q) n.n)=T2:=⟨_,rfl⟩
   have H:∀x,jH Z x y (n.ky c k q) n.n=T2 x:=λx=>cN aim x;have HT2:Hid _:=H;simp only[H]at X;rw[hTe]at hat AQ X t0 J;rw[S.out]at hat;have Yl2:Y<Z.drew.heap.size:=Yl;have cl2:=ai _ _ U.2.2;clear FW oA B4 aik hF3 R3 hT3 hYn hTe aim H ail y0 y1 uA U A;have U:=J _ _ t0;go_wp2
   go_region_held3(λx'=>x'.cell? ⟨Y,0,ν⟩=μ (ι κ ((j:Int)+1))/\x'.cell? ⟨Y,1,ν⟩=μ (ι κ (p:Int))/\x'.cell? ⟨M,3,ν⟩=μ (σ (μ ⟨g,0,ν⟩) nc cp))
    (first|assumption|exact U|exact F1|exact F2|exact F3)
    (first
     |(go_at_call 157;refine(hat _ _ j9).mono ?_;rintro e w1 ⟨rfl,t1⟩;have F1:=J _ _ t1)
     |(go_at_call 158;refine(AQ _ j9).mono ?_;rintro e w2 ⟨rfl,t2⟩;have F2:=J _ _ t2)
     |(go_at_call 23;refine(X _ j9).mono ?_;rintro e w3 ⟨rfl,t3,F3⟩))
   all_goals(have zx:=t3;rw[<-HT2.out]at zx;have mb:=hG.out _ (jH.first Ly.out zx);rw[S.out]at mb;clear zx hat AQ X t0 t1 t2 t3 J U F1 F2 F3;go_wp2_with fail;refine mb.mono ?_;rintro e w4 ⟨rfl,RD⟩;have HW:Hid _:=RD;clear mb RD;go_wp2;go_ret;exact⟨rfl,HW.out⟩)
def aeZ(w:fA):(zeroValue 195).run gg w=.ok (.agg #[σ ν 0 0,σ ν 0 0]) w:=iV
def DH(w:fA)(y:Yt)(M:jQ)(D k c d m:Nat)(up:Bool)(U:ll M D k)(hD:D<=900000000)(hk:k<=90000)(hc:c<M.nc)(hd:d<2)(hm:M.n=m)(i p:Nat)(H:(M.C c).e d=(i,p))(V Z:fA)(hW:jH w V y M m)(hT:kd V)(J:fP V Z)(E:Nat)(u v:fB)(hE:V.heap.size<=E)(Y:Z.cell? ⟨E,0,ν⟩=μ u/\Z.cell? ⟨E,1,ν⟩=μ v):
 gb gg 157 #[π (μ ⟨y.N,0,ν⟩),.agg #[ι κ ((i:Int)+1),ι κ (p:Int)]] Z λe w1=>∃R,e=ρ (π (μ ⟨R,0,ν⟩))/\(w1.cell? ⟨E,0,ν⟩=μ u/\w1.cell? ⟨E,1,ν⟩=μ v)/\
  gb gg 20 #[π (μ ⟨R,0,ν⟩),ι κ (p:Int),.bool up] w1 λe T=>∃f:Nat,e=ρ (kr f)/\(T.cell? ⟨E,0,ν⟩=μ u/\T.cell? ⟨E,1,ν⟩=μ v)/\jH w T y (M.oH c d up) m:=by
  subst hm;obtain⟨hi,hp⟩:=U.en c d hc hd;rw[H]at hi hp;obtain⟨y1,G,s1,xP,AU⟩:=hW.ex;have A:=G.below J;have X:E<Z.heap.size:=ai _ _ Y.1
  have Q:¬y1.all M.n E:=λe=>by
   have:=G.DC (k:=E) e;omega
  rw[<-s1.N];refine(PI y1 _ i p Z A hi).mono ?_;rintro e w1 ⟨rfl,b1⟩;refine⟨_,rfl,⟨(ak (a:=⟨E,0,ν⟩) (b1.block E X)).trans Y.1,(ak (a:=⟨E,1,ν⟩) (b1.block E X)).trans Y.2⟩,?_⟩;have S:E<w1.heap.size:=aq X b1.size;have h:=A.below b1;have ZH:kd w1:=kd.below (w:=V) hT (fQ J b1);refine(TW up (y1.z i) (M.R i) p k w1 (h.rt i hi) ZH (U.ok i hi) (U.fits fC hi) fC (by rw[(U.rn i hi).1];exact hp)).mono ?_;rintro e T ⟨rfl,hw⟩;have hg:=kR.jT (M.R i) p up;have wV:=h.EM hi hw ⟨hg.n,hg.id⟩;have tU:=wV.kept.block E S Q;refine⟨_,rfl,⟨(ak (a:=⟨E,0,ν⟩) (tU.trans (b1.block E X))).trans Y.1,(ak (a:=⟨E,1,ν⟩) (tU.trans (b1.block E X))).trans Y.2⟩,?_⟩
  have e1:M.oH c d up=M.kG i ((M.R i).jT p up).1:=by
   unfold jQ.oH;rw[H]
  rw[e1];exact jH.rY hW.kept s1 xP AU (jH.first (fQ J b1) wV)
def kL.turn {n:jQ} (h:kL w y n)(hc:c<n.nc)(Y:y.gC=μ g)(up:Bool)(hx:x=((w.setCell ⟨g,c*7+4,ν⟩ (.bool up)).setCell ⟨g,c*7+5,ν⟩ (σ ν 0 0)).setCell ⟨g,c*7+6,ν⟩ (σ ν 0 0)):
 jH w x y (n.nj c {n.C c with jU:=up,on:=λ_=>[] }) n.n:=by
  have hC:=h.rc g Y c hc;have V:=((hC.set 4 fF (.bool up)).set 5 fF (σ ν 0 0)).set 6 fF (σ ν 0 0);have ud:x.heap.size=w.heap.size:=by rw[hx];simp
  have T:∀k,k≠g->x.heap[k]? =w.heap[k]? :=λk Z=>by
   rw[hx,ax _ _ _ k Z,ax _ _ _ k Z,ax _ _ _ k Z]
  have b1:Below 0 w x:=by rw[hx];exact(((aC 0 w).setCell (aw _) _).setCell (aw _) _).setCell (aw _) _
  refine h.Rv hc Y _ (λ_=>σ ν 0 0) fC b1.os b1.tape b1.output (λk _ X _=>T k X) (λj U=> ?_) (λj=> ?_) ?_ (λd _=>Row.nil _ 1) (λd _=>aw _) rfl (λd k _ e=>by simp[fD]at e) (λk e=>by simp[fD]at e);{rw[hx];rw[br _ _ _ _ (λe=>by have:=congrArg jl e;simp at this;omega),br _ _ _ _ (λe=>by have:=congrArg jl e;simp at this;omega),br _ _ _ _ (λe=>by have:=congrArg jl e;simp at this;omega)]};{rw[hx,og,og,og]};rw[hx];refine V.congr λj U=> ?_;have:j=0 \/j=1 \/j=2 \/j=3 \/j=4 \/j=5 \/j=6:=fC;obtain rfl|rfl|rfl|rfl|rfl|rfl|rfl:=this<;>rfl
def JC(y:Yt)(n:jQ)(D k c:Nat)(up:Bool)(w:fA)(h:kL w y n)(hT:kd w)(jR:ll n D k)(hD:D<=900000000)(hk:k<=80000)(hc:c<n.nc):
 gb gg 113 #[π (μ ⟨y.N,0,ν⟩),ι κ (c:Int),.bool up] w λe w'=>e=ρ (τ #[])/\jH w w' y (n.lD c up) n.n:=by
  have c3:=h.k3;obtain⟨a,cp,x5,M3⟩:=h.cvs;obtain⟨g,hg,rfl⟩:=M3 c hc;rw[x5]at c3;have cl:=h.zz;have c9:=h.c9;have kY:(c:Int)<(n.nc:Int):=fC;have sy:(0:Int)<=(c:Int):=fC;have hC:=h.rc g hg c hc;have gl:=hC.lt fF;have k4:=hC.cell 4 fF;have f4:=hC.fz 4 fF;have k5:=hC.cell 5 fF;have f5:=hC.fz 5 fF;have k6:w.cell? ⟨g,c*7+5+1,ν⟩=_:=hC.cell 6 fF;have f6:w.frozen? ⟨g,c*7+5+1,ν⟩=false:=hC.fz 6 fF;have hzo:=aeZ;obtain⟨i0,Y,M4⟩:∃i0 Y,(n.C c).e 0=(i0,Y):=⟨_,_,rfl⟩
  obtain⟨i1,X,M6⟩:∃i1 X,(n.C c).e 1=(i1,X):=⟨_,_,rfl⟩
  have k0:w.cell? ⟨g,c*7,ν⟩=μ (ι κ ((i0:Int)+1)):=by
   have:=hC.cell 0 fF;rw[(DE _ _).1,M4]at this;exact this
  have k1:w.cell? ⟨g,c*7+1,ν⟩=μ (ι κ (Y:Int)):=by
   have:=hC.cell 1 fF;rw[(DE _ _).2.1,M4]at this;exact this
  have k2:w.cell? ⟨g,c*7+2,ν⟩=μ (ι κ ((i1:Int)+1)):=by
   have:=hC.cell 2 fF;rw[(DE _ _).2.2.1,M6]at this;exact this
  have k3:w.cell? ⟨g,c*7+3,ν⟩=μ (ι κ (X:Int)):=by
   have:=hC.cell 3 fF;rw[(DE _ _).2.2.2.1,M6]at this;exact this
  have H0:Hid (jH w (((w.setCell ⟨g,c*7+4,ν⟩ (.bool up)).setCell ⟨g,c*7+5,ν⟩ (σ ν 0 0)).setCell ⟨g,c*7+5+1,ν⟩ (σ ν 0 0)) y (n.nj c {n.C c with jU:=up,on:=λ_=>[] }) n.n):=h.turn hc hg up rfl;have S:ll (n.nj c {n.C c with jU:=up,on:=λ_=>[] }) D k:=jR.nj (λ_=>rfl) (λ_ _ _=>aw _);obtain⟨V,MT⟩:=fH (n.nj c {n.C c with jU:=up,on:=λ_=>[] })
  have hMC:(V.C c).e=(n.C c).e:=by
   rw[<-MT];show(if c=c then _ else n.C c).e=_;rw[ag rfl]
  have hMn:V.n=n.n:=by rw[<-MT];rfl
  have Q:V.nc=n.nc:=by rw[<-MT];rfl
  have HE1:Hid (n.lD c up=(V.oH c 0 up).oH c 1 up):=by
   show _=_;unfold jQ.lD;rw[MT]
  rw[MT]at H0 S;have mI:ll (V.oH c 0 up) D (k+1):=S.XZ fC (by rw[Q];exact hc) fF up;have HP0:Hid (∀Z,jH w Z y V n.n->
   gb gg 157 #[π (μ ⟨y.N,0,ν⟩),.agg #[ι κ ((i0:Int)+1),ι κ (Y:Int)]] (Z.alloc (γ #[ι κ ((i0:Int)+1),ι κ (Y:Int)] 192)).drew λe w1=>∃R,e=ρ (π (μ ⟨R,0,ν⟩))/\(w1.cell? ⟨Z.heap.size,0,ν⟩=μ (ι κ ((i0:Int)+1))/\w1.cell? ⟨Z.heap.size,1,ν⟩=μ (ι κ (Y:Int)))/\
   gb gg 20 #[π (μ ⟨R,0,ν⟩),ι κ (Y:Int),.bool up] w1 λe J=>∃f:Nat,e=ρ (kr f)/\(J.cell? ⟨Z.heap.size,0,ν⟩=μ (ι κ ((i0:Int)+1))/\J.cell? ⟨Z.heap.size,1,ν⟩=μ (ι κ (Y:Int)))/\jH w J y (V.oH c 0 up) n.n):=by
   intro Z hw;have hb:=kN (gu Z (γ #[ι κ ((i0:Int)+1),ι κ (Y:Int)] 192));have U:j2 (Z.alloc (γ #[ι κ ((i0:Int)+1),ι κ (Y:Int)] 192)).drew Z.heap.size #[ι κ ((i0:Int)+1),ι κ (Y:Int)] 192:=(j2.new Z _ _).drew;exact DH w y V D k c 0 n.n up S hD fC (by rw[Q];exact hc) fF hMn i0 Y (by rw[hMC];exact M4) Z _ hw (hw.tab h rfl hT) hb Z.heap.size _ _ (aj _) ⟨U.cell 0,U.cell 1⟩
  have T:Hid (∀Z,jH w Z y (V.oH c 0 up) n.n->
   gb gg 157 #[π (μ ⟨y.N,0,ν⟩),.agg #[ι κ ((i1:Int)+1),ι κ (X:Int)]] (Z.alloc (γ #[ι κ ((i1:Int)+1),ι κ (X:Int)] 192)).drew λe w1=>∃R,e=ρ (π (μ ⟨R,0,ν⟩))/\(w1.cell? ⟨Z.heap.size,0,ν⟩=μ (ι κ ((i1:Int)+1))/\w1.cell? ⟨Z.heap.size,1,ν⟩=μ (ι κ (X:Int)))/\
   gb gg 20 #[π (μ ⟨R,0,ν⟩),ι κ (X:Int),.bool up] w1 λe J=>∃f:Nat,e=ρ (kr f)/\(J.cell? ⟨Z.heap.size,0,ν⟩=μ (ι κ ((i1:Int)+1))/\J.cell? ⟨Z.heap.size,1,ν⟩=μ (ι κ (X:Int)))/\jH w J y (n.lD c up) n.n):=by
   intro Z hw;have hb:=kN (gu Z (γ #[ι κ ((i1:Int)+1),ι κ (X:Int)] 192));have U:j2 (Z.alloc (γ #[ι κ ((i1:Int)+1),ι κ (X:Int)] 192)).drew Z.heap.size #[ι κ ((i1:Int)+1),ι κ (X:Int)] 192:=(j2.new Z _ _).drew;rw[HE1.out];exact DH w y (V.oH c 0 up) D (k+1) c 1 n.n up mI hD fC (by show c<V.nc;rw[Q];exact hc) fF hMn i1 X (by show(V.C c).e 1=_;rw[hMC];exact M6) Z _ hw (hw.tab h rfl hT) hb Z.heap.size _ _ (aj _) ⟨U.cell 0,U.cell 1⟩
  obtain⟨nc,vt⟩:=fH (n.nc);rw[vt]at c3 c9 kY;obtain⟨m,hm⟩:=fH (n.n);rw[hm]at H0 HP0 T⊢;obtain⟨M1,tC⟩:=fH (V.oH c 0 up);rw[tC]at HP0 T;obtain⟨M2,vZ⟩:=fH (n.lD c up);rw[vZ]at T⊢;clear h hT jR x5 M3 hC hg hc vt hm tC vZ HE1 S mI MT hMC hMn Q M4 M6;go_in;go_wp2;go_loopw [27] (λx wr=>(x=ι κ 0/\jH w wr y V m) \/(x=ι κ 1/\jH w wr y M1 m) \/(x=ι κ 2/\jH w wr y M2 m)) (λx _=>2-(gj x).toNat);(case atStart=>exact .inl ⟨rfl,H0.out⟩)
  case round=>
   obtain⟨rfl,G⟩|⟨rfl,G⟩|⟨rfl,G⟩:=hrel
   ·have hix:=aeT ((i0:Int)+1) (Y:Int) ((i1:Int)+1) (X:Int);have hE:=HP0.out wr G;obtain⟨W1,M⟩:=fH (wr.alloc (γ #[ι κ ((i0:Int)+1),ι κ (Y:Int)] 192));obtain⟨E,H⟩:=fH (wr.heap.size)
    have A:W1.drew.cell? ⟨E,0,ν⟩=μ (ι κ ((i0:Int)+1))/\W1.drew.cell? ⟨E,1,ν⟩=μ (ι κ (Y:Int)):=by
     have U:j2 (wr.alloc (γ #[ι κ ((i0:Int)+1),ι κ (Y:Int)] 192)).drew wr.heap.size #[ι κ ((i0:Int)+1),ι κ (Y:Int)] 192:=(j2.new wr _ _).drew;rw[M,H]at U;exact⟨U.cell 0,U.cell 1⟩
    have El:E<W1.drew.heap.size:=ai _ _ A.1;rw[M,H]at hE;have LC:Hid _:=M;have XD:Hid _:=H;clear G M H;go_wp2_with fail;(try rw[LC.out]);(try rw[XD.out])
    go_region_held3(λx=>x.cell? ⟨E,0,ν⟩=μ (ι κ ((i0:Int)+1))/\x.cell? ⟨E,1,ν⟩=μ (ι κ (Y:Int)))
     (first|assumption|exact A|exact F1|exact F2)
     (first
      |(go_at_call 157;refine hE.mono ?_;rintro e w1 ⟨R,rfl,F1,hO⟩)
      |(go_at_call 20;refine hO.mono ?_;rintro e J ⟨f,rfl,F2,hP⟩))
    all_goals(have MU:Hid _:=hP;clear hE hO hP A F1 F2 El;go_wp2;go_roundw;(case rel=>exact .inr (.inl ⟨by go_num,MU.out⟩));(case measure=>simp[gj]))
   ·have hix:=aeU ((i0:Int)+1) (Y:Int) ((i1:Int)+1) (X:Int);have hE:=T.out wr G;obtain⟨W1,M⟩:=fH (wr.alloc (γ #[ι κ ((i1:Int)+1),ι κ (X:Int)] 192));obtain⟨E,H⟩:=fH (wr.heap.size)
    have A:W1.drew.cell? ⟨E,0,ν⟩=μ (ι κ ((i1:Int)+1))/\W1.drew.cell? ⟨E,1,ν⟩=μ (ι κ (X:Int)):=by
     have U:j2 (wr.alloc (γ #[ι κ ((i1:Int)+1),ι κ (X:Int)] 192)).drew wr.heap.size #[ι κ ((i1:Int)+1),ι κ (X:Int)] 192:=(j2.new wr _ _).drew;rw[M,H]at U;exact⟨U.cell 0,U.cell 1⟩
    have El:E<W1.drew.heap.size:=ai _ _ A.1;rw[M,H]at hE;have LC:Hid _:=M;have XD:Hid _:=H;clear G M H;go_wp2_with fail;(try rw[LC.out]);(try rw[XD.out])
    go_region_held3(λx=>x.cell? ⟨E,0,ν⟩=μ (ι κ ((i1:Int)+1))/\x.cell? ⟨E,1,ν⟩=μ (ι κ (X:Int)))
     (first|assumption|exact A|exact F1|exact F2)
     (first
      |(go_at_call 157;refine hE.mono ?_;rintro e w1 ⟨R,rfl,F1,hO⟩)
      |(go_at_call 20;refine hO.mono ?_;rintro e J ⟨f,rfl,F2,hP⟩))
    all_goals(have MU:Hid _:=hP;clear hE hO hP A F1 F2 El;go_wp2;go_roundw;(case rel=>exact .inr (.inr ⟨by go_num,MU.out⟩));(case measure=>simp[gj]))
   have HQ:Hid _:=G;clear G;go_wp2_with fail;go_end0;exact⟨rfl,HQ.out⟩
def Nb(y:Yt)(n:jQ)(D:Nat)(i:Int)(up:Bool)(w:fA)(h:kL w y n)(V:kd w)(X:ll n D 0)(hD:D<=900000000):
 gb gg 57 #[π (μ ⟨y.N,0,ν⟩),ι κ i,.bool up] w λe w'=>e=ρ (kr (n.jT i up).2)/\jH w w' y (n.jT i up).1 n.n:=by
  have hh:=Br y n i w h;obtain T|⟨c,hc,rfl⟩:=Pq i n.nc
  ·have hi:i<0 \/(n.nc:Int)<=i:=by
    unfold hasB at T;by_cases h0:0<=i;{by_cases h1:i<(n.nc:Int);{simp[h0,h1]at T};omega};omega
   have Y:n.jT i up=(n,6):=by unfold jQ.jT;rw[ag hi]
   rw[Y];rw[T]at hh;have Z:Hid _:=jH.refl h;clear h X V;go_in;go_wp2_with fail;refine hh.mono ?_;rintro e w1 ⟨rfl,rfl⟩;clear hh;go_wp2;go_ret;exact⟨rfl,Z.out⟩
  rw[Bp hc]at hh;have c3:=h.k3;obtain⟨a,cp,S,U⟩:=h.cvs;obtain⟨g,M,rfl⟩:=U c hc;rw[S]at c3;have cl:=h.zz;have c9:=h.c9;have kY:(c:Int)<(n.nc:Int):=fC;have sy:(0:Int)<=(c:Int):=fC;have H:w.cell? ⟨g,c*7+4,ν⟩=μ (.bool (n.C c).jU):=(h.rc g M c hc).cell 4 fF;have gl:=(h.rc g M c hc).lt fF
  have Y:n.jT (c:Int) up=if(n.C c).jU=up then(n,7)else((n.lD c up).gather,0):=by
   unfold jQ.jT;rw[af fC,bI]
  rw[Y];by_cases hu:(n.C c).jU=up;{rw[ag hu];rw[hu]at H;have Z:Hid _:=jH.refl h;have Q:(up==up)=true:=gZ;clear h X V Y hu S U;go_in;go_wp2_with fail;refine hh.mono ?_;rintro e w1 ⟨rfl,rfl⟩;clear hh;go_wp2;go_ret;exact⟨rfl,Z.out⟩};rw[af hu];have Q:((n.C c).jU==up)=false:=by simpa using hu
  have J:=JC y n D 0 c up w h V X hD fC hc;have G:=X.lD fC hc up
  have hG:Hid (∀W,jH w W y (n.lD c up) n.n->gb gg 111 #[π (μ ⟨y.N,0,ν⟩)] W λe w'=>e=ρ (τ #[])/\jH w w' y (n.lD c up).gather n.n):=by
   intro W hW;refine hW.call λy1 R1 s1=> ?_;rw[<-s1.N];exact sW y1 _ _ _ W R1 G fC fC
  have e0:kr 0=η:=rfl;rw[e0];generalize (n.C c).jU=b at H Q;clear h X V Y hu S U G;go_in;go_wp2_with fail;refine hh.mono ?_;rintro e w1 ⟨rfl,rfl⟩;clear hh;go_wp2_with fail;refine J.mono ?_;rintro e w1 ⟨rfl,oC⟩;have A:=hG.out _ oC;clear J oC;go_wp2_with fail;refine A.mono ?_;rintro e w2 ⟨rfl,wV⟩;have Z:Hid _:=wV;clear A wV;go_wp2;go_ret;exact⟨rfl,Z.out⟩
def kL.anz {n:jQ} (h:kL w y n)(hi:i<n.n)(v:fB)(l:List wK)(hs:w.heap.size<=w'.heap.size)(Hy:w'.os=w.os)(N7:w'.tape=w.tape)(Iv:w'.output=w.output)
 (M:∀k<w.heap.size,k≠y.gI->(y.iv i).ownBlock≠μ k->w'.heap[k]? =w.heap[k]?) (Dj:sg w' y.gI 0 n.n (kK y.iv i v)) (D:Row w' 3 v l.length (rz l))
 (ku:∀k,v.ownBlock=μ k->(y.iv i).ownBlock=μ k \/w.heap.size<=k):∃y',kL w' y' {n with kA:=kK n.kA i l} /\y.same y'/\(∀k,y'.all n.n k->y.all n.n k \/w.heap.size<=k)/\(∀k,y'.ext k↔y.ext k)/\xw w w' y n.n/\(∀q,q≠ .ib i->y'.at q=y.at q)/\y'.iv i=v/\∀j k,(y'.z j).qF k↔(y.z j).qF k:=by
  obtain⟨y1,vS⟩:∃y1:Yt,y1={y with iv:=kK y.iv i v}:=⟨_,rfl⟩
  obtain⟨y',Y⟩:∃y':Yt,y'={y with iv:=kK y.iv i v,z:=λj=>(y.z j).plus (xF w w' y1)}:=⟨_,rfl⟩
  have kO:∀k,y'.own k↔y1.own k:=λk=>by
   rw[Y,vS];constructor;{rintro⟨l,e⟩;exact⟨l,by cases l<;>exact e⟩};rintro⟨l,e⟩;exact⟨l,by cases l<;>exact e⟩
  have hX:xF w w' y1=xF w w' y':=by
   funext k;apply propext;unfold xF;rw[<-kO k];have:y1.ext=y'.ext:=by rw[vS,Y]
   rw[this]
  have hat:∀l k,y'.at l=μ k->y.at l=μ k \/(w.heap.size<=k/\l=.ib i/\v.ownBlock=μ k):=by
   intro l k e;rw[Y]at e;cases l with|N=>exact .inl e|R=>exact .inl e|I=>exact .inl e|C=>exact .inl e|on x d=>exact .inl e|ib x=>have e':(kK y.iv i v x).ownBlock=μ k:=e;by_cases hx:x=i;{subst hx;rw[jd]at e';obtain Z|Z:=ku k e';{exact .inl Z};exact .inr ⟨Z,rfl,e'⟩};{rw[iw _ _ hx]at e';exact .inl e'}
  have lZ:∀k,y'.own k->k<w'.heap.size:=by
   rintro k ⟨l,e⟩;obtain Z|⟨_,rfl,Z⟩:=hat l k e;{exact aq (h.uh Z) hs};exact D.lt k Z
  have U:∀l k,y.at l=μ k->l≠ .I->l≠ .ib i->w'.heap[k]? =w.heap[k]? :=by
   intro l k e S h2;refine M k (h.uh e) (λZ=> ?_) (λZ=> ?_);{exact h.wB e (show y.at .I=μ y.gI from rfl) S Z};exact h2 (h.inj _ _ k e (show y.at (.ib i)=μ k from Z))
  have H:=h.owned (y':=y') (n':={n with kA:=kK n.kA i l}) hs (λk J S _=>M k J (λe=>S ⟨.I,by rw[e];rfl⟩) (λe=>S ⟨.ib i,e⟩)) (by rw[Y]) (by rw[<-hX,Y])
   (λk e=>e.elim (lZ k) (λe=>by
    have e':y.ext k:=by rw[Y]at e;exact e
    exact aq (h.lt (.inr e')) hs))
   (by
    rintro k ⟨l,e⟩;obtain Z|⟨Z,_⟩:=hat l k e;{exact .inl ⟨l,Z⟩}
    ·exact .inr Z) (λk e=>.inl (by rw[Y]at e;exact e)) rfl rfl rfl h.c9 (by rw[Y];exact h.pT.keep (U .N _ rfl (λe=>nomatch e) (λe=>nomatch e)))
   (by rw[Y];exact h.rr.keep (U .R _ rfl (λe=>nomatch e) (λe=>nomatch e))) (by rw[Y];exact Dj)
   (by
    intro V G x hx;have zv:y.gC=μ V:=by rw[Y]at G;exact G
    have:=(h.rc V zv x hx).keep (U .C V zv (λe=>nomatch e) (λe=>nomatch e));rw[Y];exact this)
   (by
    intro x hx;obtain⟨V,e⟩:=h.gc x hx;exact⟨V,by rw[Y];exact e⟩)
   (by
    intro x hx;show Row w' 3 (y'.iv x) (kK n.kA i l x).length (rz (kK n.kA i l x));have T:y'.iv x=kK y.iv i v x:=by rw[Y]
    rw[T];by_cases e:x=i;{subst e;rw[jd,jd];exact D}
    ·rw[iw _ _ e,iw _ _ e];exact(h.ib x hx).keep hs (λk Z=>U (.ib x) k Z (λe=>nomatch e) (λe'=>e (by injection e'))))
   (by
    intro x d hx hd;have:=(h.ob x d hx hd).keep hs (λk Z=>U (.on x d) k Z (λe=>nomatch e) (λe=>nomatch e));rw[Y];exact this)
   h.ol h.en
   (by
    intro l l' k e e';obtain Z|⟨Z,rfl,Q⟩:=hat l k e;{obtain X|⟨X,_⟩:=hat l' k e';{exact h.inj l l' k Z X};{have:=h.uh Z;omega}}
    ·obtain X|⟨X,rfl,e4⟩:=hat l' k e';{have:=h.uh X;omega}
     ·rfl)
   (by
    intro k e;have T:y.ext k:=by rw[Y]at e;exact e
    rintro⟨l,Z⟩;obtain Q|⟨Q,_⟩:=hat l k Z;{exact h.nx k T ⟨l,Q⟩}
    ·have:=h.lt (.inr T);omega)
  refine⟨y',H.1,by rw[Y];exact⟨rfl,rfl,rfl,rfl,rfl,rfl,rfl,rfl⟩,H.2,λk=>by rw[Y],⟨Hy,N7,Iv,hs,λk J A=>M k J (λe=>A (.inl ⟨.I,by rw[e];rfl⟩)) (λe=>A (.inl ⟨.ib i,e⟩))⟩,λq hq=> ?_,?_,λj k=> ?_⟩;{rw[Y];cases q with|N=>rfl|R=>rfl|I=>rfl|C=>rfl|on x d=>rfl|ib x=>show(kK y.iv i v x).ownBlock=(y.iv x).ownBlock;rw[iw _ _ (λe=>hq (by rw[e]))]};{rw[Y];exact jd _ _ _};rw[Y];exact fc
def kL.hand {n:jQ} (h:kL w y n)(V:k<n.n):∃y',kL (w.setCell ⟨y.gI,k,ν⟩ (σ ν 0 0)) y' {n with kA:=kK n.kA k [] } /\y.same y'/\(∀b,y'.all n.n b->y.all n.n b \/w.heap.size<=b)/\(∀b,y'.ext b↔y.ext b)/\xw w (w.setCell ⟨y.gI,k,ν⟩ (σ ν 0 0)) y n.n/\
 ∀b,(y.iv k).ownBlock=μ b->¬y'.all n.n b:=by
  have Y:=h.ri.set k V (σ ν 0 0);rw[aY]at Y;obtain⟨y',U,T,S,Q,M,J,H,G⟩:=h.anz (w':=w.setCell ⟨y.gI,k,ν⟩ (σ ν 0 0)) V (σ ν 0 0) [] gZ rfl rfl rfl (λj _ Z _=>ax _ _ _ j Z) (Y.congr λx hx=>by
   by_cases e:x=k;{subst e;rw[jd];unfold ui;simp}
   ·rw[iw _ _ e];unfold ui;simp[e]) (Row.nil _ 3) (λb e=>by simp[fD]at e)
  refine⟨y',U,T,S,Q,M,λb X e=> ?_⟩;obtain⟨l,hl⟩|⟨j,Z,hf⟩:=e;{by_cases el:l=.ib k;{subst el;have:(y'.iv k).ownBlock=μ b:=hl;rw[H]at this;simp[fD]at this};rw[J l el]at hl;exact el (h.inj l (.ib k) b hl X)};exact h.KH Z ⟨.ib k,X⟩ ((G j b).1 hf)
def Uc(y:Yt)(n:jQ)(D k:Nat)(w:fA)(h:kL w y n)(Z:ll n D 0)(hD:D<=900000000)(X:k<n.n):
 gb gg 52 #[π (μ ⟨y.N,0,ν⟩),ι κ ((k:Int)+1)] w λe w'=>∃v,e=ρ (τ #[v,η])/\Row w' 3 v (n.kA k).length (rz (n.kA k))/\jH w w' y (n.inbox k) n.n/\∀b,v.ownBlock=μ b->¬y.ext b:=by
  have hh:=qZ y n ((k:Int)+1) w h;rw[yo X]at hh;have k1:=h.k1;have cl:=h.zz;have d0:=h.XH X;have f0:=h.ri.fz k X;rw[aY]at f0;have dl:=h.aaY;have n6:=h.n6;have hw:=zd X n6;have mR:(k:Int)<(n.n:Int):=fC;have KB:(0:Int)<=(k:Int):=fC;obtain⟨y',G,S,A,h4,h5,h6⟩:=h.hand X;have M:=h.ib k X;have mI:ll ({n with kA:=kK n.kA k [] }:jQ) D 0:=⟨Z.n1,Z.n6,Z.c9,Z.en,Z.ds,Z.ms,Z.rn,Z.ok,Z.drop,Z.ol,λj hj=>by
   show(kK n.kA k [] j).length<=_;by_cases e:j=k;{subst e;rw[jd];exact aw _}
   ·rw[iw _ _ e];exact Z.ib j hj,Z.idle,Z.fit⟩
  have Q:=sW y' _ D 0 _ G mI fC fC;rw[S.N]at Q;have V:∀b,(y.iv k).ownBlock=μ b->b≠y.gI:=λb e=>h.wB (l:=.ib k) (l':=.I) e rfl (by intro e;cases e)
  have J:gb gg 111 #[π (μ ⟨y.N,0,ν⟩)] (w.setCell ⟨y.gI,k,ν⟩ (σ ν 0 0)) λe w'=>e=ρ (τ #[])/\Row w' 3 (y.iv k) (n.kA k).length (rz (n.kA k))/\jH w w' y (n.inbox k) n.n:=by
   refine Q.mono ?_;rintro e w' ⟨rfl,T⟩;refine⟨rfl,?_,jH.rY h5 S A h4 T⟩;have r1:Row (w.setCell ⟨y.gI,k,ν⟩ (σ ν 0 0)) 3 (y.iv k) (n.kA k).length (rz (n.kA k)):=M.keep gZ (λb e=>ax _ _ _ b (V b e));exact r1.keep T.kept.size (λb e=>T.kept.block b (r1.lt b e) (h6 b e))
  have Y:∀b,(y.iv k).ownBlock=μ b->¬y.ext b:=λb e hx=>h.nx b hx ⟨.ib k,e⟩;obtain⟨aI,cI,H⟩:=Row.shape M;rw[H]at d0 J Y;have U:Hid _:=Y;clear h Z Q G S A h4 h5 h6 M mI V H Y;go_in;go_wp2_with fail;refine hh.mono ?_;rintro e w1 ⟨rfl,rfl⟩;clear hh;go_wp2_with fail;refine J.mono ?_;rintro e w2 ⟨rfl,hr,wV⟩;have HR:Hid _:=hr;have HW:Hid _:=wV;clear J hr wV;go_wp2;go_ret2;exact⟨_,rfl,HR.out,HW.out,U.out⟩
def JD(y:jQ)(i:Int):(y.tick i).1.n=y.n/\(y.tick i).1.nc=y.nc/\(y.tick i).1.ms=y.ms/\∀x,((y.tick i).1.C x).e=(y.C x).e/\((y.tick i).1.C x).jU=(y.C x).jU:=by
 unfold jQ.tick;split;{exact⟨rfl,rfl,rfl,λ_=>⟨rfl,rfl⟩⟩};exact mB _
def tN(y:jQ)(c d q:Nat):(y.ky c d q).n=y.n/\(y.ky c d q).nc=y.nc/\(y.ky c d q).ms=y.ms/\∀x,((y.ky c d q).C x).e=(y.C x).e/\((y.ky c d q).C x).jU=(y.C x).jU:=by
 refine⟨rfl,rfl,rfl,λx=> ?_⟩;show(if x=c then({y.C c with on:=kK (y.C c).on d (((y.C c).on d).drop q)}:sE)else y.C x).e=_/\(if x=c then({y.C c with on:=kK (y.C c).on d (((y.C c).on d).drop q)}:sE)else y.C x).jU=_;by_cases e:x=c;{rw[ag e];subst e;exact⟨rfl,rfl⟩};rw[af e];exact⟨rfl,rfl⟩
def oN(y:jQ)(i d many:Int):(y.j7 i d many).1.n=y.n/\(y.j7 i d many).1.nc=y.nc/\(y.j7 i d many).1.ms=y.ms/\∀x,((y.j7 i d many).1.C x).e=(y.C x).e/\((y.j7 i d many).1.C x).jU=(y.C x).jU:=by
 unfold jQ.j7;split;{exact⟨rfl,rfl,rfl,λ_=>⟨rfl,rfl⟩⟩};obtain⟨g1,X,V,Z⟩:=mB (y.ky i.toNat d.toNat (min many.toNat ((y.C i.toNat).on d.toNat).length));obtain⟨r1,U,T,Y⟩:=tN y i.toNat d.toNat (min many.toNat ((y.C i.toNat).on d.toNat).length);exact⟨g1.trans r1,X.trans U,V.trans T,λx=>⟨(Z x).1.trans (Y x).1,(Z x).2.trans (Y x).2⟩⟩
def qA(y:jQ):∀q,(y.j5 q).n=y.n/\(y.j5 q).nc=y.nc/\(y.j5 q).ms=y.ms/\∀x,((y.j5 q).C x).e=(y.C x).e/\((y.j5 q).C x).jU=(y.C x).jU
 |0=>⟨rfl,rfl,rfl,λ_=>⟨rfl,rfl⟩⟩
 |q+1=>by
  obtain⟨g1,X,V,Z⟩:=JD (y.j5 q) ((q:Int)+1);obtain⟨r1,U,T,Y⟩:=qA y q;exact⟨g1.trans r1,X.trans U,V.trans T,λx=>⟨(Z x).1.trans (Y x).1,(Z x).2.trans (Y x).2⟩⟩
def jQ.sX(y:jQ)(c d:Nat):jQ:=if d=0 then y.k9 c else if d=1 then((y.k9 c).j7 (c:Int) 0 2000).1 else y.k9 (c+1)
def Nc(y:jQ)(c d:Nat)(hd:d<2):y.sX c (d+1)=((y.sX c d).j7 (c:Int) (d:Int) 2000).1:=by
 have:d=0 \/d=1:=fC;obtain rfl|rfl:=this<;>rfl
def nF(y:jQ):∀q,(y.k9 q).n=y.n/\(y.k9 q).nc=y.nc/\(y.k9 q).ms=y.ms/\∀x,((y.k9 q).C x).e=(y.C x).e/\((y.k9 q).C x).jU=(y.C x).jU
 |0=>⟨rfl,rfl,rfl,λ_=>⟨rfl,rfl⟩⟩
 |q+1=>by
  obtain⟨T,S,Q,Y⟩:=oN ((y.k9 q).j7 (q:Int) 0 2000).1 (q:Int) 1 2000;obtain⟨g1,V,U,Z⟩:=oN (y.k9 q) (q:Int) 0 2000;obtain⟨r1,M,J,X⟩:=nF y q;exact⟨T.trans (g1.trans r1),S.trans (V.trans M),Q.trans (U.trans J),λx=>⟨(Y x).1.trans ((Z x).1.trans (X x).1),(Y x).2.trans ((Z x).2.trans (X x).2)⟩⟩
def Nd(y:jQ)(q d:Nat):(y.sX q d).n=y.n/\(y.sX q d).nc=y.nc:=by
 unfold jQ.sX;split;{exact⟨(nF y q).1,(nF y q).2.1⟩};split;{exact⟨(oN _ _ _ _).1.trans (nF y q).1,(oN _ _ _ _).2.1.trans (nF y q).2.1⟩};exact⟨(nF y (q+1)).1,(nF y (q+1)).2.1⟩
def sY(y:jQ):∀t,(y.turns t).n=y.n/\(y.turns t).nc=y.nc/\(y.turns t).ms=y.ms/\∀x,((y.turns t).C x).e=(y.C x).e/\((y.turns t).C x).jU=(y.C x).jU
 |0=>⟨rfl,rfl,rfl,λ_=>⟨rfl,rfl⟩⟩
 |t+1=>by
  obtain⟨g1,X,V,Z⟩:=nF (y.turns t) y.nc;obtain⟨r1,U,T,Y⟩:=sY y t;exact⟨g1.trans r1,X.trans U,V.trans T,λx=>⟨(Z x).1.trans (Y x).1,(Z x).2.trans (Y x).2⟩⟩
def mC(y:jQ):y.round.n=y.n/\y.round.nc=y.nc/\y.round.ms=y.ms/\∀x,(y.round.C x).e=(y.C x).e/\(y.round.C x).jU=(y.C x).jU:=by
 obtain⟨g1,X,V,Z⟩:=sY (y.j5 y.n) 12;obtain⟨r1,U,T,Y⟩:=qA y y.n;exact⟨g1.trans r1,X.trans U,V.trans T,λx=>⟨(Z x).1.trans (Y x).1,(Z x).2.trans (Y x).2⟩⟩
def ll.j5 {y:jQ} {D:Nat} (h:ll y D 0)(Z:D<=800000000):∀q≤6,ll (y.j5 q) (D+6*q) 0
 |0,_=>h
 |q+1,hq=>((ll.j5 h Z q fC).tick fC ((q:Int)+1)).mono fC (aj _)
def ll.k9 {y:jQ} {D:Nat} (h:ll y D 0)(Z:D<=890000000):∀q≤9,ll (y.k9 q) (D+12000*q) 0
 |0,_=>h
 |q+1,hq=>(((ll.k9 h Z q fC).j7 fC (q:Int) 0 2000).j7 fC (q:Int) 1 2000).mono fC (aj _)
def ll.sX {y:jQ} {D:Nat} (h:ll y D 0)(Z:D<=890000000)(q d:Nat)(hq:q<9)(hd:d<=2):ll (y.sX q d) (D+12000*q+6000*d) 0:=by
 unfold jQ.sX;split;{exact(h.k9 Z q fC).mono fC (aj _)};split;{exact((h.k9 Z q fC).j7 fC _ _ _).mono fC (aj _)};exact(h.k9 Z (q+1) fC).mono fC (aj _)
def ll.turns {y:jQ} {D:Nat} (h:ll y D 0)(X:D<=810000000):∀t≤12,ll (y.turns t) (D+108000*t) 0
 |0,_=>h
 |t+1,ht=>by
  have Z:=ll.turns h X t fC;have Y:=h.c9;exact(Z.k9 fC y.nc Y).mono fC (aj _)
def ll.round {y:jQ} {D:Nat} (h:ll y D 0)(Y:D<=800000000):ll y.round (D+1300000) 0:=by
 have n6:=h.n6;have Z:=h.j5 Y y.n n6;exact(Z.turns fC 12 (aj _)).mono fC (aj _)
def CM(y:Yt)(n:jQ)(D:Nat)(w:fA)(h:kL w y n)(hT:kd w)(jR:ll n D 0)(hD:D<=800000000):
 gb gg 54 #[π (μ ⟨y.N,0,ν⟩)] w λe w'=>e=ρ (τ #[])/\jH w w' y n.round n.n:=by
  have c0:=h.k0;have cl:=h.zz;have n6:=h.n6;have c9:=h.c9;obtain⟨a,cp,x5,M3⟩:=h.cvs;obtain⟨m,S⟩:=fH (n.n);obtain⟨nc,vt⟩:=fH (n.nc)
  have H0:Hid (jH w w y (n.j5 0) m):=by
   show jH _ _ _ _ _;rw[<-S];exact jH.refl h
  have ac3:Hid (∀q W,q<m->jH w W y (n.j5 q) m->gb gg 56 #[π (μ ⟨y.N,0,ν⟩),ι κ ((q:Int)+1)] W λe w'=>(∃v,e=ρ v)/\jH w w' y (n.j5 (q+1)) m):=by
   intro q W hq Z;have J:=Z.tab h S hT;refine(Z.call (E:=λe=>∃v,e=ρ v) λy1 R1 s1=> ?_);rw[<-s1.N];refine(M7 y1 (n.j5 q) (D+6*q) ((q:Int)+1) W R1 J (jR.j5 hD q fC) fC).mono ?_;rintro e w' ⟨rfl,hw⟩;rw[(qA n q).1,S]at hw;exact⟨⟨_,rfl⟩,hw⟩
  have Q:=jR.j5 hD m fC
  have HK3:Hid (∀M W,M.nc=nc->jH w W y M m->W.cell? ⟨y.N,3,ν⟩=μ (σ a nc cp)/\y.N<W.heap.size):=by
   intro M W hM Z;have h1:=Z.k3;rw[hM,<-vt,x5]at h1;rw[<-vt];exact⟨h1,Z.lt⟩
  have KO:Hid (n.round=(n.j5 m).turns 12):=by
   show _=_;unfold jQ.round;rw[S]
  obtain⟨T,Y⟩:=fH (n.j5 m);have hTn:T.n=m:=by rw[<-Y,(qA n m).1,S]
  have H:T.nc=nc:=by rw[<-Y,(qA n m).2.1,vt]
  have G:Hid (∀W,jH w W y (n.j5 m) m->jH w W y (T.turns 0) m):=by
   intro W Z;rw[Y]at Z;exact Z
  rw[Y]at Q KO
  have anC:Hid (∀t c d W,t<12->c<nc->d<2->jH w W y ((T.turns t).sX c d) m->gb gg 101 #[π (μ ⟨y.N,0,ν⟩),ι κ (c:Int),ι κ (d:Int),ι κ 2000] W λe w'=>(∃v,e=ρ v)/\jH w w' y ((T.turns t).sX c (d+1)) m):=by
   intro t c d W ht hc hd Z;have J:=Z.tab h S hT;refine(Z.call (E:=λe=>∃v,e=ρ v) λy1 R1 s1=> ?_);rw[<-s1.N];have h1:=Q.turns fC t fC;have h2:=h1.sX fC c d fC fC;refine(DG y1 _ _ (c:Int) (d:Int) 2000 W R1 J h2 fC).mono ?_;rintro e w' ⟨rfl,hw⟩;rw[<-Nc _ _ _ hd,(Nd _ _ _).1,(sY T t).1,hTn]at hw;exact⟨⟨_,rfl⟩,hw⟩
  have HNC:Hid (∀t,(T.turns t).nc=nc):=λt=>by rw[(sY T t).2.1,H]
  have aio:Hid (∀t W,jH w W y ((T.turns t).k9 nc) m->jH w W y (T.turns (t+1)) m):=by
   intro t W Z;show jH w W y ((T.turns t).k9 T.nc) m;rw[H];exact Z
  rw[S]at c0 n6⊢;rw[vt]at c9;clear h hT jR Q x5 M3 S vt Y hTn H;go_in;go_wp2;go_loopw [10] (λx wr=>∃q:Nat,q<=m/\x=ι κ q/\jH w wr y (n.j5 q) m) (λx _=>m-(gj x).toNat);(case atStart=>exact⟨0,aw _,rfl,H0.out⟩)
  case round=>
   obtain⟨q,hq,rfl,ur⟩:=hrel;obtain⟨V,rfl⟩:∃V,V=wr:=⟨_,rfl⟩
   by_cases lZ:q<m;{have pE:(q:Int)<(m:Int):=fC;have ZE:κ.wrap ((q:Int)+1)=(q:Int)+1:=bg _ ⟨fC,fC⟩;have ht:=ac3.out q V lZ ur;clear ur;go_wp2_with fail;refine ht.mono ?_;rintro e w1 ⟨⟨v,rfl⟩,oC⟩;have X:Hid _:=oC;clear ht oC;go_wp2;go_roundw;(case rel=>exact⟨q+1,fC,by go_num,X.out⟩);case measure=>simp[gj];omega};have zD:¬(q:Int)<(m:Int):=fC;obtain rfl:q=m:=fC;have HT0:Hid (jH w V y (T.turns 0) q):=G.out V ur;clear ur G H0 ac3;go_wp2;go_loopw [18] (λx wr=>∃t:Nat,t<=12/\x=ι κ t/\jH w wr y (T.turns t) q) (λx _=>12-(gj x).toNat);(case atStart=>exact⟨0,aw _,rfl,HT0.out⟩)
   case round=>
    obtain⟨t,ht,rfl,A⟩:=hrel;obtain⟨V2,rfl⟩:∃V2,V2=wr:=⟨_,rfl⟩
    by_cases ae1:t<12
    ·have aip:(t:Int)<12:=fC;obtain⟨d3,dl⟩:=HK3.out _ V2 (HNC.out t) A;have HD0:Hid _:=A;clear A;go_wp2;go_loopw [25] (λx wr=>∃c:Nat,c<=nc/\x=ι κ c/\jH w wr y ((T.turns t).sX c 0) q) (λx _=>nc-(gj x).toNat);(case atStart=>exact⟨0,aw _,rfl,HD0.out⟩)
     case round=>
      obtain⟨c,hc,rfl,U⟩:=hrel;obtain⟨V3,rfl⟩:∃V3,V3=wr:=⟨_,rfl⟩
      by_cases anD:c<nc
      ·have aqk:(c:Int)<(nc:Int):=fC;have HDc:Hid _:=U;clear U;go_wp2;go_loopw [28] (λx wr=>∃d:Nat,d<=2/\x=ι κ d/\jH w wr y ((T.turns t).sX c d) q) (λx _=>2-(gj x).toNat);(case atStart=>exact⟨0,aw _,rfl,HDc.out⟩)
       case round=>
        obtain⟨d,hd,rfl,EL⟩:=hrel;obtain⟨V4,rfl⟩:∃V4,V4=wr:=⟨_,rfl⟩
        by_cases anE:d<2;{have aql:(d:Int)<2:=fC;have aiq:=anC.out t c d V4 ae1 anD anE EL;clear EL;go_wp2_with fail;refine aiq.mono ?_;rintro e w1 ⟨⟨v,rfl⟩,oC⟩;have X:Hid _:=oC;clear aiq oC;go_wp2;go_roundw;(case rel=>exact⟨d+1,fC,by go_num,X.out⟩);case measure=>simp[gj];omega};have asW:¬(d:Int)<2:=fC;obtain rfl:d=2:=fC;have X:Hid _:=EL;clear EL;go_wp2;go_roundw;(case rel=>exact⟨c+1,fC,by go_num,X.out⟩);case measure=>simp[gj];omega
      have air:¬(c:Int)<(nc:Int):=fC;obtain rfl:c=nc:=fC;have X:Hid (jH w V3 y (T.turns (t+1)) q):=aio.out t V3 U;clear U;go_wp2;go_roundw;(case rel=>exact⟨t+1,fC,by go_num,X.out⟩);case measure=>simp[gj];omega
    have ae2:¬(t:Int)<12:=fC;obtain rfl:t=12:=fC
    have X:Hid (jH w V2 y n.round q):=by
     show jH _ _ _ _ _;rw[KO.out];exact A
    clear A;go_wp2_with fail;go_end0;exact⟨rfl,X.out⟩
def sG(l:List Nat):List fB:=l.map λ(n:Nat)=>ι .i64 (n:Int)
def vp(n:jQ)(k c:Nat):Bool:=(n.C c).jU&& (((n.C c).e 0).1==k||((n.C c).e 1).1==k)
def KR(y:Yt)(n:jQ)(k:Nat)(w:fA)(h:kL w y n):
 gb gg 115 #[π (μ ⟨y.N,0,ν⟩),ι κ ((k:Int)+1)] w λe w'=>∃v,e=ρ v/\Row w' 1 v (n.nt k).length (sG (n.nt k))/\(∀b,v.ownBlock=μ b->w.heap.size<=b)/\fP w w':=by
  obtain⟨i0,hi,pB,oR,oe⟩:=bu RB;have c3:=h.k3;obtain⟨a,cp,x5,M3⟩:=h.cvs;rw[x5]at c3;have cl:=h.zz;have c9:=h.c9;obtain⟨nc,G⟩:=fH (n.nc)
  have HGC:Hid (∀c<nc,∃g,y.gC=μ g/\a=μ ⟨g,0,ν⟩):=by
   show∀c,_->_;rw[<-G];exact M3
  have HF:Hid (∀W q g,fP w W->q<nc->y.gC=μ g->∃S n0 c0 Q n1 c1,W.cell? ⟨g,q*7,ν⟩=μ (ι κ ((((n.C q).e 0).1:Int)+1))/\W.cell? ⟨g,q*7+1,ν⟩=μ (ι κ (((n.C q).e 0).2:Int))/\W.cell? ⟨g,q*7+2,ν⟩=μ (ι κ ((((n.C q).e 1).1:Int)+1))/\W.cell? ⟨g,q*7+3,ν⟩=μ (ι κ (((n.C q).e 1).2:Int))/\W.cell? ⟨g,q*7+4,ν⟩=μ (.bool (n.C q).jU)/\W.cell? ⟨g,q*7+5,ν⟩=μ (σ S n0 c0)/\W.cell? ⟨g,q*7+6,ν⟩=μ (σ Q n1 c1)/\g<W.heap.size):=by
   intro W q g V hq hg;have R:=h.below V;have hC:=R.rc g hg q (by rw[G];exact hq);obtain⟨S,c0,e0⟩:=Row.shape (R.ob q 0 (by rw[G];exact hq) fF);obtain⟨Q,c1,e1⟩:=Row.shape (R.ob q 1 (by rw[G];exact hq) fF);refine⟨S,((n.C q).on 0).length,c0,Q,((n.C q).on 1).length,c1,hC.cell 0 fF,hC.cell 1 fF,hC.cell 2 fF,hC.cell 3 fF,hC.cell 4 fF,?_,?_,hC.lt fF⟩;{rw[<-e0];exact hC.cell 5 fF};rw[<-e1];exact hC.cell 6 fF
  have HE:Hid (n.nt k=(gw nc).filter (vp n k)):=by
   show _=_;rw[<-G];rfl
  rw[G]at c3 c9;clear h M3 x5 G;go_in;go_wp2;go_loopw [5,13] (λv x wr=>∃q:Nat,q<=nc/\x=ι κ q/\Row wr 1 v ((gw q).filter (vp n k)).length (sG ((gw q).filter (vp n k)))/\(∀b,v.ownBlock=μ b->w.heap.size<=b)/\fP w wr) (λ_ x _=>nc-(gj x).toNat);(case atStart=>exact⟨0,aw _,rfl,Row.nil _ _,λb V=>by simp[fD]at V,aC _ _⟩)
  case round=>
   obtain⟨q,hq,rfl,Y,ku,jS⟩:=hrel;by_cases lZ:q<nc
   ·have pE:(q:Int)<(nc:Int):=fC;have hq0:(0:Int)<=(q:Int):=fC;obtain⟨g,hg,rfl⟩:=HGC.out q lZ;obtain⟨S,n0,c0,Q,n1,c1,k0,k1,k2,k3,k4,k5,k6,gl⟩:=HF.out wr q g jS lZ hg
    have HP:Hid ((gw (q+1)).filter (vp n k)=(gw q).filter (vp n k)++if vp n k q=true then [q]else []):=by
     show _=_;rw[cE,cS];congr 1;by_cases e:vp n k q=true;{rw[ag e,List.filter_cons_of_pos e];rfl};rw[af e,List.filter_cons_of_neg e];rfl
    have Z:vp n k q=((n.C q).jU&& (((n.C q).e 0).1==k||((n.C q).e 1).1==k)):=rfl;have HR:Hid _:=Y;have D:Hid _:=ku;have T:Hid _:=jS;clear ku jS hg;obtain⟨L,A⟩:=fH ((gw q).filter (vp n k))
    have hLq:L.length<=q:=by
     rw[<-A];have:=cZ (vp n k) (gw q);simpa using this
    rw[A]at Y HP;generalize ((n.C q).e 0).1=U at k0 Z;generalize ((n.C q).e 1).1=r1 at k2 Z;generalize ((n.C q).e 0).2=p0 at k1;generalize ((n.C q).e 1).2=p1 at k3;generalize (n.C q).jU=jU at k4 Z;cases jU with
    |false=>
     have J:True:=trivial;have IB:True:=trivial;have X:vp n k q=false:=by rw[Z];first|rfl|simp[J,IB]
     have M:Hid (Row (wr.alloc (γ #[ι κ ((U:Int)+1),ι κ (p0:Int),ι κ ((r1:Int)+1),ι κ (p1:Int),.bool false,σ S n0 c0,σ Q n1 c1] 197)) 1 u5 ((gw (q+1)).filter (vp n k)).length (sG ((gw (q+1)).filter (vp n k)))/\(∀b,u5.ownBlock=μ b->w.heap.size<=b)/\fP w (wr.alloc (γ #[ι κ ((U:Int)+1),ι κ (p0:Int),ι κ ((r1:Int)+1),ι κ (p1:Int),.bool false,σ S n0 c0,σ Q n1 c1] 197))):=by
      rw[HP.out,X];simp only[iW,if_false,jm];exact⟨Y.alloc _,D.out,T.out.alloc T.out.size _⟩
     clear Y Z X A
     go_wp2
     go_roundw
     case rel=>exact⟨q+1,fC,by go_num,M.out⟩
     case measure=>simp[gj];omega
    |true=>
     by_cases h0:U=k
     ·rw[h0]at k0 Z;have X:vp n k q=true:=by rw[Z];simp
      go_wp2_with(at_builtin;go_must(refine jN _ rfl (.tmp 36) (.tmp 38) 22 rfl 3 i0 (ι κ 0) 1 8 underlying22 hi pB oR oe rfl fF u5 L.length (sG L) rfl ((Y.alloc _).alloc _) _ 1 1 [ι κ (q:Int)] rfl rfl fF (Ab _ _ _ _ gZ) (yQ _ _) (by unfold maxLen;omega) fC ?_));intro H kE w3 uN uM A1;have M:Hid (Row w3 1 (σ (μ ⟨H,0,ν⟩) (L.length+1) kE) ((gw (q+1)).filter (vp n k)).length (sG ((gw (q+1)).filter (vp n k)))/\(∀b,fD (σ (μ ⟨H,0,ν⟩) (L.length+1) kE)=μ b->w.heap.size<=b)/\fP w w3):=by
       have hs:=T.out.size;rw[HP.out,X];simp only[if_true,fT,fU,fV];refine⟨?_,λb V=> ?_,?_⟩
       ·have e9:sG (L++ [q])=sG L++ [ι κ (q:Int)] :=by simp[sG]
        rw[e9];exact uN
       ·have:H=b:=by simpa[fD]using V
        subst this;obtain e|e:=A1;{exact D.out _ e}
        ·(try simp at e)
         omega
       ·exact((T.out.alloc hs _).alloc (by simp;omega) _).grown uM (by simp;omega) (λb V=>D.out b (by rw[<-V]))
      clear uN uM A1 Y Z X A
      go_wp2
      go_roundw
      case rel=>exact⟨q+1,fC,by go_num,M.out⟩
      case measure=>simp[gj];omega
     ·have J:(U==k)=false:=by simpa using h0
      have hz:¬((U:Int)+1=(k:Int)+1):=fC;have Vg:((U:Int)+1==(k:Int)+1)=false:=by simpa using hz
      have Ob:¬((U:Int)=(k:Int)):=fC;by_cases h1:r1=k
      ·rw[h1]at k2 Z;have X:vp n k q=true:=by rw[Z];simp
       go_wp2_with(at_builtin;go_must(refine jN _ rfl (.tmp 36) (.tmp 38) 22 rfl 3 i0 (ι κ 0) 1 8 underlying22 hi pB oR oe rfl fF u5 L.length (sG L) rfl ((Y.alloc _).alloc _) _ 1 1 [ι κ (q:Int)] rfl rfl fF (Ab _ _ _ _ gZ) (yQ _ _) (by unfold maxLen;omega) fC ?_));intro H kE w3 uN uM A1;have M:Hid (Row w3 1 (σ (μ ⟨H,0,ν⟩) (L.length+1) kE) ((gw (q+1)).filter (vp n k)).length (sG ((gw (q+1)).filter (vp n k)))/\(∀b,fD (σ (μ ⟨H,0,ν⟩) (L.length+1) kE)=μ b->w.heap.size<=b)/\fP w w3):=by
        have hs:=T.out.size;rw[HP.out,X];simp only[if_true,fT,fU,fV];refine⟨?_,λb V=> ?_,?_⟩
        ·have e9:sG (L++ [q])=sG L++ [ι κ (q:Int)] :=by simp[sG]
         rw[e9];exact uN
        ·have:H=b:=by simpa[fD]using V
         subst this;obtain e|e:=A1;{exact D.out _ e}
         ·(try simp at e)
          omega
        ·exact((T.out.alloc hs _).alloc (by simp;omega) _).grown uM (by simp;omega) (λb V=>D.out b (by rw[<-V]))
       clear uN uM A1 Y Z X A
       go_wp2
       go_roundw
       case rel=>exact⟨q+1,fC,by go_num,M.out⟩
       case measure=>simp[gj];omega
      ·have IB:(r1==k)=false:=by simpa using h1
       have hy:¬((r1:Int)+1=(k:Int)+1):=fC;have pA:((r1:Int)+1==(k:Int)+1)=false:=by simpa using hy
       have hy3:¬((r1:Int)=(k:Int)):=fC;have X:vp n k q=false:=by rw[Z];first|rfl|simp[J,IB]
       have M:Hid (Row (wr.alloc (γ #[ι κ ((U:Int)+1),ι κ (p0:Int),ι κ ((r1:Int)+1),ι κ (p1:Int),.bool true,σ S n0 c0,σ Q n1 c1] 197)) 1 u5 ((gw (q+1)).filter (vp n k)).length (sG ((gw (q+1)).filter (vp n k)))/\(∀b,u5.ownBlock=μ b->w.heap.size<=b)/\fP w (wr.alloc (γ #[ι κ ((U:Int)+1),ι κ (p0:Int),ι κ ((r1:Int)+1),ι κ (p1:Int),.bool true,σ S n0 c0,σ Q n1 c1] 197))):=by
        rw[HP.out,X];simp only[iW,if_false,jm];exact⟨Y.alloc _,D.out,T.out.alloc T.out.size _⟩
       clear Y Z X A
       go_wp2
       go_roundw
       case rel=>exact⟨q+1,fC,by go_num,M.out⟩
       case measure=>simp[gj];omega
   obtain rfl:q=nc:=fC
   have HW:Hid (Row wr 1 u5 (n.nt k).length (sG (n.nt k))/\(∀b,u5.ownBlock=μ b->w.heap.size<=b)/\fP w wr):=by
    show _/\_/\_;rw[HE.out];exact⟨Y,ku,jS⟩
   have zD:¬(q:Int)<(q:Int):=fC;clear Y ku jS;go_wp2;go_ret;exact⟨_,rfl,HW.out⟩
def n9.Ap(h:n9 w z r)(Z:r.n=3)(Y:z.qF b):b<w.heap.size:=by
 obtain e|e|e:=Y;{have:=h.Cz b;rw[Z]at this;exact this e};{exact h.bs.mlt b (.inl e)};exact h.bs.mlt b (.inr e)
def n9.Nf(h:n9 w z r)(Y:r.n=3)(Z:z.fm.no g/\¬z.mine 3 g)(j:Nat)(v:fB):n9 (w.setCell ⟨g,j,ν⟩ v) (z.plus λ_=>False) r:=by
 refine h.zb gZ (λk _ hc=>ax _ _ _ k (λe=> ?_)) _ (λk e=>e.elim);have e':k=g:=e;subst e';obtain hc|hc:=hc;{exact hc Z.1};rw[Y]at hc;exact Z.2 hc
def kL.renew {W0 W3:fA} {n n3:jQ} (h0:kL W0 y n)(hk:k<n.n)(hb:fP W0 W2)(hz:n9 W2 z r)(hr:r.n=3/\r.id=(k:Int)+1)
 (RE:∀b,z.qF b->W0.heap.size<=b) (h:∀b,y.all n.n b \/y.ext b->z.fm.no b) (Fb:y.same y1) (A:∀b,y1.all n.n b↔y.all n.n b) (AU:∀b,y1.ext b↔y.ext b \/z.qF b)
 (hW:jH W2 W3 y1 n3 n.n) (H:n3.n=n.n):
 ∃y2,kL (W3.setCell ⟨y.gR,k,ν⟩ (π (μ ⟨z.R,0,ν⟩))) y2 (n3.kG k r)/\y.same y2/\(∀b,y2.all n.n b->y.all n.n b \/z.qF b \/W2.heap.size<=b)/\(∀b,y2.ext b↔y.ext b)/\xw W0 (W3.setCell ⟨y.gR,k,ν⟩ (π (μ ⟨z.R,0,ν⟩))) y n.n:=by
  obtain⟨y',R',s',XW,AO⟩:=hW.ex;have D:=hW.kept;have J:y'.gR=y.gR:=s'.gR.trans Fb.gR;have hbM:y'.bM=y.bM:=s'.bM.trans Fb.bM;have anF:∀b,z.qF b->b<W2.heap.size:=λb e=>hz.Ap hr.1 e;have py:∀b,y'.all n.n b->y.all n.n b \/W2.heap.size<=b:=λb e=>(XW b e).imp_left (A b).1;have X5:∀b,y.all n.n b->b<W0.heap.size:=λb e=>h0.DC e;have anG:∀b,y'.all n.n b->b<W3.heap.size:=λb e=>R'.DC (by rw[H];exact e);obtain⟨X,N5⟩:∃X:Nat->Prop,X=λb=>W2.heap.size<=b/\b<W3.heap.size/\y'.all n.n b:=⟨_,rfl⟩
  have hX:∀b,X b->W2.heap.size<=b/\b<W3.heap.size:=λb e=>by rw[N5]at e;exact⟨e.1,e.2.1⟩
  have Ob:n9 W3 (z.plus X) r:=by
   refine hz.zb D.size (λb rZ hc=>D.block b rZ (λe=> ?_)) X hX;have Y:=(A b).1 e;obtain hc|hc:=hc;{exact hc (h b (.inl Y))};rw[hr.1]at hc;have:=RE b (.inl hc);have:=X5 b Y;omega
  have kt:∀b,y'.all n.n b->(z.fm.no b \/X b)/\¬z.mine 3 b:=λb e=>by
   obtain Y|Y:=py b e;{exact⟨.inl (h b (.inl Y)),λV=>by have:=RE b (.inl V);have:=X5 b Y;omega⟩};exact⟨.inr (by rw[N5];exact⟨Y,anG b e,e⟩),λV=>by have:=anF b (.inl V);omega⟩
  have PY:y'.own y.gR:=⟨.R,by rw[<-J];rfl⟩
  have ais:(z.plus X).fm.no y.gR/\¬(z.plus X).mine 3 y.gR:=kt y.gR (.inl PY);obtain⟨T,wY⟩:=fH (W3.setCell ⟨y.gR,k,ν⟩ (π (μ ⟨z.R,0,ν⟩)));have hzz:n9 T ((z.plus X).plus λ_=>False) r:=by rw[<-wY];exact Ob.Nf hr.1 ais k _
  have Bn:∀j<n.n,n9 T ((y'.z j).plus λ_=>False) (n3.R j):=λj U=>by
   rw[<-wY];exact(R'.rt j (by rw[H];exact U)).Nf (R'.rn j (by rw[H];exact U)).1 (R'.away j (by rw[H];exact U) y.gR (.inl PY)) k _
  have qk:∀b,b≠y.gR->T.heap[b]? =W3.heap[b]? :=λb e=>by rw[<-wY];exact ax _ _ _ b e
  have ud:T.heap.size=W3.heap.size:=by rw[<-wY];simp
  have hat:∀l b,y'.at l=μ b->l≠ .R->T.heap[b]? =W3.heap[b]? :=λl b e hl=>qk b (λY=>R'.wB e (show y'.at .R=μ y'.gR from rfl) hl (by rw[J];exact Y));obtain⟨Z,hZ⟩:∃Z:Nat->Zt,Z=λj=>if j=k then(z.plus X).plus λ_=>False else(y'.z j).plus λ_=>False:=⟨_,rfl⟩
  have M:Z k=(z.plus X).plus λ_=>False:=by rw[hZ];simp
  have Q:∀j,j≠k->Z j=(y'.z j).plus λ_=>False:=λj U=>by rw[hZ];simp[U]
  have S:∀j b,(Z j).qF b->(j=k/\z.qF b) \/(j≠k/\(y'.z j).qF b):=λj b e=>by
   by_cases ej:j=k;{subst ej;rw[M]at e;exact .inl ⟨rfl,e⟩};rw[Q j ej]at e;exact .inr ⟨ej,e⟩
  have ait:xw W0 T y n.n:=by
   have b1:Below 0 W3 T:=by rw[<-wY];exact(aC 0 W3).setCell (aw _) _
   refine⟨b1.os.trans (D.os.trans hb.os),b1.tape.trans (D.tape.trans hb.tape),b1.output.trans (D.output.trans hb.output),by rw[ud];exact au hb.size D.size,λb rZ hn=> ?_⟩;have Y:b≠y.gR:=λe=>hn (.inl ⟨.R,by rw[e];rfl⟩);rw[qk b Y,D.block b (aq rZ hb.size) (λe=>hn ((A b).1 e)),hb.block b rZ]
  rw[wY];refine⟨{y' with z:=Z,ext:=λb=>y'.ext b/\¬z.qF b},⟨R'.n1,R'.n6,R'.c9,R'.pT.keep (hat .N _ rfl (λe=>nomatch e)),?_,R'.ri.keep (hat .I _ rfl (λe=>nomatch e)),λg hg c hc=>(R'.rc g hg c hc).keep (hat .C _ hg (λe=>nomatch e)),R'.gc,?_,?_,?_,λj U=>(R'.ib j U).keep fC (λb e=>hat (.ib j) b e (λe=>nomatch e)),λc d hc hd=>(R'.ob c d hc hd).keep fC (λb e=>hat (.on c d) b e (λe=>nomatch e)),R'.ol,R'.en,R'.inj,?_,λb e=>R'.nx b e.1,⟨R'.nM.1,λe=>R'.nM.2.1 e.1,?_⟩,R'.z0⟩,Yt.Ao Fb (Yt.Ao s' ⟨rfl,rfl,rfl,rfl,rfl,rfl,rfl,rfl⟩),?_,?_,ait⟩;{have h1:=R'.rr.set k (by rw[H];exact hk) (π (μ ⟨z.R,0,ν⟩));rw[J,aY,wY]at h1;show sg T y'.gR 0 n3.n _;rw[J];refine h1.congr λj U=> ?_;show ui _ k _ j=π (μ ⟨(Z j).R,0,ν⟩);by_cases e:j=k;{subst e;rw[M];unfold ui;simp;rfl};rw[Q j e,kU _ _ e];rfl};{obtain⟨E,h1,h2⟩:=R'.mp;refine⟨E,h1.keep (qk y'.bM (λe=>R'.nM.1 ?_)),h2⟩;rw[e];exact PY};{intro j U;show n9 T (Z j) (kK n3.R k r j);by_cases e:j=k;{subst e;rw[M,jd];exact hzz};rw[Q j e,iw _ _ e];exact Bn j (by rw[<-H];exact U)};{intro j U;show(kK n3.R k r j).n=3/\(kK n3.R k r j).id=(j:Int)+1;by_cases e:j=k;{subst e;rw[jd];exact hr};rw[iw _ _ e];exact R'.rn j U}
  ·intro i hi b rZ;have mR:i<n.n:=by rw[<-H];exact hi
   show(Z i).fm.no b/\¬(Z i).mine 3 b;by_cases ei:i=k
   ·subst ei;rw[M]
    have Ng:(z.fm.no b \/X b)/\¬z.mine 3 b:=by
     obtain e|e|⟨j,U,kf,e⟩:=rZ;{exact kt b (.inl e)};{have Y:=(AO b).1 e.1;obtain V|V:=(AU b).1 Y;{exact⟨.inl (h b (.inr V)),λG=>e.2 (.inl G)⟩};exact absurd V e.2};obtain⟨Y,_⟩|⟨Y,V⟩:=S j b e;{exact absurd Y kf};exact kt b (.inr ⟨j,by rw[<-H];exact U,V⟩)
    exact⟨.inl Ng.1,Ng.2⟩
   rw[Q i ei]
   have Ng:(y'.z i).fm.no b/\¬(y'.z i).mine 3 b:=by
    obtain e|e|⟨j,U,kf,e⟩:=rZ;{exact R'.away i hi b (.inl e)};{exact R'.away i hi b (.inr (.inl e.1))};obtain⟨Y,V⟩|⟨Y,V⟩:=S j b e;{exact R'.away i hi b (.inr (.inl ((AO b).2 ((AU b).2 (.inr V)))))};exact R'.away i hi b (.inr (.inr ⟨j,U,kf,V⟩))
   exact⟨.inl Ng.1,Ng.2⟩
  {intro i hi e;show False;obtain⟨_,V⟩|⟨_,V⟩:=S i _ e;{have G:=RE _ V;have h1:=h0.Jr;have e4:W0.heap.size<=y'.bM:=G;rw[hbM]at e4;omega};exact R'.nM.2.2 i hi V};{intro b e;obtain e|⟨j,U,e⟩:=e;{obtain Y|Y:=py b (.inl e);{exact .inl Y};exact .inr (.inr Y)};obtain⟨_,V⟩|⟨_,V⟩:=S j b e;{exact .inr (.inl V)};obtain Y|Y:=py b (.inr ⟨j,U,V⟩);{exact .inl Y};exact .inr (.inr Y)};intro b;constructor;{rintro⟨Y,V⟩;obtain G|G:=(AU b).1 ((AO b).1 Y);{exact G};exact absurd G V};intro e;refine⟨(AO b).2 ((AU b).2 (.inl e)),λV=> ?_⟩;have h1:=h0.lt (.inr e);have h2:=RE b V;omega
def Gy(up:Bool):∀(l:List Nat) (y:jQ) (c:Nat),y.kX up (l++ [c])=(y.kX up l).lD c up
 |[],_,_=>rfl
 |_::l,_,c=>Gy up l _ c
def X6(l:List Nat)(j:Nat)(h:j<l.length):(sG l)[j]? =μ (ι κ (l[j] :Int)):=by simp[sG,h]
def Bv(Z:fA)(y:Yt)(S M:jQ)(D m:Nat)(up:Bool)(L:List Nat)(G:kL Z y S)(Q:S.n=m)(hT:kd Z)(jR:ll M D 20)(h:D<=900000000)(V:∀c∈L,c<M.nc)(hl:L.length<=9)(Y:M.n=m)(q:Nat)(T:q<L.length)(W:fA)(U:jH Z W y (M.kX up (L.take q)) m):
 gb gg 113 #[π (μ ⟨y.N,0,ν⟩),ι κ (L[q] :Int),.bool up] W λe w'=>e=ρ (τ #[])/\jH Z w' y (M.kX up (L.take (q+1))) m:=by
  have X:=U.tab G Q hT;obtain⟨s1,s2,s3,s4,s5⟩:=oU up (L.take q) M;have mI:=ll.kX fC up (L.take q) jR (λc hc=>V c (dM hc));have hlq:(L.take q).length<=q:=cQ _ _
  have H:M.kX up (L.take (q+1))=(M.kX up (L.take q)).lD L[q] up:=by
   rw[aJ T,Gy]
  rw[H];refine U.call λy1 J A=> ?_;rw[<-A.N];have:=JC y1 _ D _ L[q] up W J X mI h fC (by rw[s2];exact V _ (aO T));rw[s1,Y]at this;exact this
def Nh(y:Yt)(n:jQ)(D:Nat)(i:Int)(w:fA)(h:kL w y n)(hT:kd w)(jR:ll n D 0)(hD:D<=900000000):
 gb gg 62 #[π (μ ⟨y.N,0,ν⟩),ι κ i] w λe w'=>e=ρ (kr (n.restart i).2)/\jH w w' y (n.restart i).1 n.n:=by
  have hh:=qZ y n i w h;obtain⟨hn,hi⟩|⟨k,hk,rfl⟩:=Ar i n.n
  ·have hE:n.restart i=(n,6):=by unfold jQ.restart;rw[ag hi]
   rw[hE];rw[hn]at hh;have HW:Hid _:=jH.refl h;clear h jR hT;go_in;go_wp2_with fail;refine hh.mono ?_;rintro e w1 ⟨rfl,rfl⟩;clear hh;go_wp2;go_ret;exact⟨rfl,HW.out⟩
  rw[yo hk]at hh;have n6:=h.n6;obtain⟨L,hL⟩:=fH (n.nt k)
  have hE:n.restart ((k:Int)+1)=((((n.kX false L).kG k (kZ ((k:Int)+1) 3 (n.ms k))).kX true L).gather,0):=by
   unfold jQ.restart;have e1:((k:Int)+1-1).toNat=k:=fC;rw[af fC,e1,hL]
  rw[hE];have e0:kr 0=η:=rfl;rw[e0];obtain⟨E,hEm,hET,hEO⟩:=h.mp;have N4:=zM y.N y.bM k E (n.ms k) w h.k2 hEm hEO fC (λp hp=>hET k p hk hp) hT (λb=>y.all n.n b \/y.ext b) (λb A=>A.elim (λe=>h.DC e) (λe=>h.lt (.inr e)))
  have hLl:L.length<=9:=by
   rw[<-hL];exact au (Av n k) h.c9
  have hLc:∀c∈L,c<n.nc:=λc hc=>by rw[<-hL]at hc;exact CL c hc
  have anH:Hid (∀W,fP w W->gb gg 115 #[π (μ ⟨y.N,0,ν⟩),ι κ ((k:Int)+1)] W λe w'=>∃v,e=ρ v/\Row w' 1 v L.length (sG L)/\(∀b,v.ownBlock=μ b->W.heap.size<=b)/\fP W w'):=by
   intro W U;have:=KR y n k W (h.below U);rw[hL]at this;exact this
  have HH:Hid _:=h;have HT:Hid _:=hT;have Tk:Hid _:=jR;have HK:Hid _:=hk;have H:Hid _:=hLc;clear h hT jR hEm hET hEO hE hL hLc;go_in;go_wp2_with fail;refine hh.mono ?_;rintro e w1 ⟨rfl,rfl⟩;clear hh;go_wp2_with fail;refine N4.mono ?_;rintro e W1 ⟨z,rfl,oR,lU,Ob,hz4,hz5,hz6⟩;have hca:=anH.out W1 lU;have HZ1:Hid _:=oR;have Dl:Hid _:=lU
  have RE:Hid (∀b,z.qF b->w.heap.size<=b):=by
   intro b A;obtain e|e|e:=A;{exact Ob b e};{rw[e];exact hz4};exact hz5 b e
  have HZX:Hid (∀b,y.all n.n b \/y.ext b->z.fm.no b):=λb A=>hz6 b A;clear N4 oR lU Ob hz4 hz5 hz6;go_wp2_with fail;refine hca.mono ?_;rintro e W2 ⟨v,rfl,j0,ku,oB⟩;clear hca;have X7:fP w W2:=fQ Dl.out oB;have oe:n9 W2 z (kZ ((k:Int)+1) 3 (n.ms k)):=HZ1.out.below oB;have ue:(kZ ((k:Int)+1) 3 (n.ms k)).n=3/\(kZ ((k:Int)+1) 3 (n.ms k)).id=(k:Int)+1:=⟨rfl,rfl⟩
  have yW:∀b,z.qF b->b<W1.heap.size:=λb e=>HZ1.out.Ap rfl e;obtain⟨y1,R1,s1,ha1,AU⟩:=HH.out.beside X7.size (λb rZ _=>X7.block b rZ) z.qF (λb e=>⟨RE.out b e,aq (yW b e) oB.size⟩);have hT2:kd W2:=kd.below (w:=w) HT.out X7;have ac5:ll n D 20:=Tk.out.mono (aj _) fC;obtain⟨a,cp,hve⟩:=Row.shape j0;subst hve;have ZR:Hid (∀b,fD (σ a L.length cp)=μ b->W1.heap.size<=b/\b<W2.heap.size):=λb A=>⟨ku b A,j0.lt b A⟩
  have FX:Hid _:=j0;have HP0:Hid (jH W2 W2 y1 (n.kX false (L.take 0)) n.n):=jH.refl R1
  have HPl:Hid (∀q W,(hq:q<L.length)->jH W2 W y1 (n.kX false (L.take q)) n.n->gb gg 113 #[π (μ ⟨y.N,0,ν⟩),ι κ (L[q] :Int),.bool false] W λe w'=>e=ρ (τ #[])/\jH W2 w' y1 (n.kX false (L.take (q+1))) n.n):=by
   intro q W hq U;rw[<-s1.N];exact Bv W2 y1 n n D n.n false L R1 rfl hT2 ac5 hD H.out hLl rfl q hq W U
  have XP:Hid (∀q W M,(hq:q<L.length)->jH W2 W y1 M n.n->∃g,a=μ ⟨g,0,ν⟩/\W.cell? ⟨g,q,ν⟩=μ (ι κ (L[q] :Int))):=by
   intro q W M hq U;obtain⟨_,e2⟩|⟨g,c,e,_,_,_,hc,_⟩:=FX.out.2;{omega};have ea:a=μ ⟨g,0,ν⟩:=(ch e).1;have hg:=ZR.out g (by rw[ea];rfl);refine⟨g,ea,(ak (a:=⟨g,q,ν⟩) (U.kept.block g hg.2 (λe3=> ?_))).trans (hc q _ (X6 L q hq))⟩;have Y:=HH.out.DC ((ha1 g).1 e3);have h2:=Dl.out.size;omega
  have HR1:Hid _:=R1;have Z:Hid _:=s1;have HA1:Hid _:=ha1;have HE1:Hid _:=AU;have HZ2:Hid _:=oe;have aiy:Hid _:=X7;have HFL:Hid _:=yW;have HT2:Hid _:=hT2;have yV:Hid _:=oB;obtain⟨len,hlen⟩:=fH (L.length);have Ue:Hid _:=hlen;rw[hlen]at hLl;clear j0 ku X7 oe ue yW R1 s1 ha1 AU hT2 oB ac5;go_wp2;go_loopw [31] (λx wr=>∃q:Nat,q<=len/\x=ι κ q/\jH W2 wr y1 (n.kX false (L.take q)) n.n) (λx _=>len-(gj x).toNat);(case atStart=>exact⟨0,aw _,rfl,HP0.out⟩)
  case round=>
   obtain⟨q,hq,rfl,X⟩:=hrel;obtain⟨V,rfl⟩:∃V,V=wr:=⟨_,rfl⟩
   by_cases lZ:q<len
   ·have pE:(q:Int)<(len:Int):=fC;have hq0:(0:Int)<=(q:Int):=fC;have hqL:q<L.length:=by rw[Ue.out];exact lZ
    obtain⟨g,rfl,hcell⟩:=XP.out q V _ hqL X;have gl:=ai _ _ hcell;have EI:=HPl.out q V hqL X;generalize L[q] =cq at hcell EI;clear X;go_wp2_with fail;refine EI.mono ?_;rintro e w1 ⟨rfl,oC⟩;have HW:Hid _:=oC;clear EI oC;go_wp2;go_roundw;(case rel=>exact⟨q+1,fC,by go_num,HW.out⟩);case measure=>simp[gj];omega
   have zD:¬(q:Int)<(len:Int):=fC;obtain rfl:q=len:=fC;have e9:L.take q=L:=by rw[<-Ue.out];exact cM
   rw[e9]at X;obtain⟨n3,xK⟩:=fH (n.kX false L);obtain⟨p1,p2,p3,p4,p5⟩:=oU false L n;rw[xK]at X p1 p2
   have aiz:ll n3 D 20:=by
    rw[<-xK];exact(ll.kX fC false L Tk.out H.out).mono (aj _) (by rw[Ue.out];omega)
   obtain⟨G,R2,s2,ha2,he2,tU⟩:=kL.renew HH.out HK.out aiy.out HZ2.out ⟨rfl,rfl⟩ RE.out HZX.out Z.out HA1.out HE1.out X p1;have X8:=aiz.anew k (by rw[p1];exact HK.out);have e8:n3.ms k=n.ms k:=by rw[<-xK,p3]
   rw[e8]at X8;obtain⟨S,Q⟩:=fH (n3.kG k (kZ ((k:Int)+1) 3 (n.ms k)));rw[Q]at R2 X8;have X9:S.n=n.n:=by rw[<-Q];exact p1
   have ae7:S.nc=n.nc:=by rw[<-Q];exact p2
   have d0:=X.k0;have dl:=X.lt;rw[Z.out.N,Z.out.gR,Z.out.vQ,p1]at d0;rw[Z.out.N]at dl;obtain⟨Rk,hRk⟩:=X.ptr (i:=k) (by rw[p1];exact HK.out);rw[Z.out.gR]at hRk;have gRl:=ai _ _ hRk
   have gRf:V.frozen? ⟨y.gR,k,ν⟩=false:=by
    obtain⟨y9,R9,s9,_,_⟩:=X.ex;have Y:=R9.rr.fz k (by rw[p1];exact HK.out);rw[aY,s9.gR,Z.out.gR]at Y;exact Y
   have ZE:=zd HK.out n6;have hki:(k:Int)<(n.n:Int):=fC;have IV:(0:Int)<=(k:Int):=fC;have hTV:kd V:=X.tab HR1.out rfl HT2.out;obtain⟨T,wY⟩:=fH (V.setCell ⟨y.gR,k,ν⟩ (π (μ ⟨z.R,0,ν⟩)));rw[wY]at R2 tU;have anJ:y.gR≠0:=λe=>HH.out.z0 ⟨.R,by rw[<-e];rfl⟩
   have hT4:kd T:=λe s he hs=>by
    rw[<-wY,br _ _ _ _ (λe1=>anJ (congrArg Addr.block e1))];exact hTV e s he hs
   have asZ:T.heap.size=V.heap.size:=by rw[<-wY];simp
   have hVs:=X.kept.size
   have aiB:Hid (∀q' W M,(J:q'<L.length)->jH T W G M n.n->∃g,a=μ ⟨g,0,ν⟩/\W.cell? ⟨g,q',ν⟩=μ (ι κ (L[q'] :Int))):=by
    intro q' W M J U;obtain⟨g,ea,hc⟩:=XP.out q' V _ J X;have hg:=ZR.out g (by rw[ea];rfl);have Fb:=Dl.out.size
    have SD:g≠y.gR:=λe=>by
     have:=HH.out.TE;omega
    refine⟨g,ea,(ak (a:=⟨g,q',ν⟩) (U.kept.block g fC (λe3=> ?_))).trans ?_⟩;{obtain Y|Y|Y:=ha2 g e3;{have:=HH.out.DC Y;omega};{have:=HFL.out g Y;omega};omega};rw[<-wY,br _ _ _ _ (λe1=>SD (congrArg Addr.block e1).symm)];exact hc
   have HP2:Hid (jH T T G (S.kX true (L.take 0)) n.n):=by
    show jH _ _ _ _ _;rw[<-X9];exact jH.refl R2
   have anK:Hid (∀q' W,(J:q'<L.length)->jH T W G (S.kX true (L.take q')) n.n->gb gg 113 #[π (μ ⟨y.N,0,ν⟩),ι κ (L[q'] :Int),.bool true] W λe w'=>e=ρ (τ #[])/\jH T w' G (S.kX true (L.take (q'+1))) n.n):=by
    intro q' W J U;rw[<-s2.N];exact Bv T G S S D n.n true L R2 X9 hT4 X8 hD (λc hc=>by rw[ae7];exact H.out c hc) (by rw[Ue.out];exact hLl) X9 q' J W U
   have HG:Hid (∀W,jH T W G (S.kX true L) n.n->gb gg 111 #[π (μ ⟨y.N,0,ν⟩)] W λe w'=>e=ρ (τ #[])/\jH T w' G (S.kX true L).gather n.n):=by
    intro W U;refine U.call λy3 R3 s3=> ?_;rw[<-s2.N,<-s3.N];have h5:=ll.kX fC true L X8 (λc hc=>by rw[ae7];exact H.out c hc);have h6:=sW y3 _ D _ W R3 h5 fC (by rw[Ue.out];omega);rw[(oU true L S).1,X9]at h6;exact h6
   have aeL:Hid (∀W,jH T W G (S.kX true L).gather n.n->jH w W y ((((n.kX false L).kG k (kZ ((k:Int)+1) 3 (n.ms k))).kX true L).gather) n.n):=by
    intro W U;rw[xK,Q];refine jH.rY tU s2 (λb e=> ?_) he2 U;obtain Y|Y|Y:=ha2 b e;{exact .inl Y};{exact .inr (RE.out b Y)};exact .inr (au aiy.out.size Y)
   have MU:Hid _:=wY;clear X R2 s2 ha2 he2 tU aiz X8 xK Q X9 ae7 hTV hT4 wY p1 p2 p3 p4 p5 e8 XP HPl HP0;go_wp2_with fail;rw[MU.out];go_loopw [49] (λx wr=>∃q':Nat,q'<=q/\x=ι κ q'/\jH T wr G (S.kX true (L.take q')) n.n) (λx _=>q-(gj x).toNat);(case atStart=>exact⟨0,aw _,rfl,HP2.out⟩)
   case round=>
    obtain⟨t,ht,rfl,Ov⟩:=hrel;by_cases ae1:t<q
    ·have aip:(t:Int)<(q:Int):=fC;have ht0:(0:Int)<=(t:Int):=fC;have htL:t<L.length:=by rw[Ue.out];exact ae1
     obtain⟨g,rfl,hcell⟩:=aiB.out t wr _ htL Ov;have gl:=ai _ _ hcell;have EI:=anK.out t wr htL Ov;generalize L[t] =cq at hcell EI;clear Ov;go_wp2_with fail;refine EI.mono ?_;rintro e w1 ⟨rfl,oC⟩;have HW:Hid _:=oC;clear EI oC;go_wp2;go_roundw;(case rel=>exact⟨t+1,fC,by go_num,HW.out⟩);case measure=>simp[gj];omega
    have ae2:¬(t:Int)<(q:Int):=fC;obtain rfl:t=q:=fC;rw[e9]at Ov;have hg:=HG.out wr Ov;clear Ov;go_wp2_with fail;refine hg.mono ?_;rintro e w1 ⟨rfl,oC⟩;have HW:Hid _:=aeL.out _ oC;clear hg oC;go_wp2;go_ret;exact⟨rfl,HW.out⟩
def Bw(w:fA)(a:Option Addr)(L:List qM):Prop:=∀j,(hj:j<L.length)->∃b off,a=μ ⟨b,off,ν⟩/\w.cell? ⟨b,off+j*5,ν⟩=μ (ι κ L[j].a)/\w.cell? ⟨b,off+j*5+1,ν⟩=μ (ι κ L[j].pa)/\w.cell? ⟨b,off+j*5+2,ν⟩=μ (ι κ L[j].b)/\w.cell? ⟨b,off+j*5+3,ν⟩=μ (ι κ L[j].pb)/\w.cell? ⟨b,off+j*5+4,ν⟩=μ (ι κ L[j].m)
def Bw.below(h:Bw w a L)(S:fP w w'):Bw w' a L:=λj Q=>by
 obtain⟨b,off,e,Y,X,V,U,T⟩:=h j Q;have Z:=S.block b (ai _ _ Y);exact⟨b,off,e,(ak (a:=⟨b,off+j*5,ν⟩) Z).trans Y,(ak (a:=⟨b,off+j*5+1,ν⟩) Z).trans X,(ak (a:=⟨b,off+j*5+2,ν⟩) Z).trans V,(ak (a:=⟨b,off+j*5+3,ν⟩) Z).trans U,(ak (a:=⟨b,off+j*5+4,ν⟩) Z).trans T⟩
def Ya:(gg.info? 193).map (·.size)=μ 4:=iV
def Gz(a pa b pb m:Int)(w:fA):gb gg 97 #[.agg #[ι κ a,ι κ pa,ι κ b,ι κ pb,ι κ m]] w λe w'=>e=ρ (.agg #[ι κ a,ι κ pa,ι κ b,ι κ pb])/\fP w w':=by
 have Z:j2 ((w.alloc (γ #[ι κ a,ι κ pa,ι κ b,ι κ pb,ι κ m] 81)).alloc (γ #[ι κ a,ι κ pa,ι κ b,ι κ pb] 193)) (w.heap.size+1) #[ι κ a,ι κ pa,ι κ b,ι κ pb] 193:=by
  have:=j2.new (w.alloc (γ #[ι κ a,ι κ pa,ι κ b,ι κ pb,ι κ m] 81)) #[ι κ a,ι κ pa,ι κ b,ι κ pb] 193;simpa using this
 have Y:fP w ((w.alloc (γ #[ι κ a,ι κ pa,ι κ b,ι κ pb,ι κ m] 81)).alloc (γ #[ι κ a,ι κ pa,ι κ b,ι κ pb] 193)):=(gu _ _).alloc gZ _;have X:=cA (P:=gg) _ (w.heap.size+1) 193 193 #[ι κ a,ι κ pa,ι κ b,ι κ pb] (0,0) _ Z underlying193 rfl Ya;go_in;go_wp2_with fail;refine aN (v:=.agg #[ι κ a,ι κ pa,ι κ b,ι κ pb]) (by simp[results,results97,asAddr,X]) rfl ?_;exact⟨rfl,Y⟩
def yT(r p many:Int)(w:fA):gb gg 154 #[.agg #[ι κ r,ι κ p],ι κ many] w λe w'=>e=ρ (.bool (qN many r p))/\fP w w':=by
 have Z:=gu w (γ #[ι κ r,ι κ p] 192);unfold qN;by_cases Y:1<=r
 ·by_cases X:r<=many
  ·by_cases V:0<=p
   ·by_cases U:p<3
    ·have hv:(decide (1<=r)&&decide (r<=many)&&decide (0<=p)&&decide (p<3))=true:=by simp[Y,X,V,U]
     rw[hv];clear hv;go_in;go_wp2;go_ret;exact⟨by first|rfl|(simp;omega),Z⟩
    have hv:(decide (1<=r)&&decide (r<=many)&&decide (0<=p)&&decide (p<3))=false:=by simp[U]
    rw[hv];clear hv;go_in;go_wp2;go_ret;exact⟨by first|rfl|(simp;omega),Z⟩
   have hv:(decide (1<=r)&&decide (r<=many)&&decide (0<=p)&&decide (p<3))=false:=by simp[V]
   rw[hv];clear hv;go_in;go_wp2;go_ret;exact⟨by first|rfl|(simp;omega),Z⟩
  have hv:(decide (1<=r)&&decide (r<=many)&&decide (0<=p)&&decide (p<3))=false:=by simp[X]
  rw[hv];clear hv;go_in;go_wp2;go_ret;exact⟨by first|rfl|(simp;omega),Z⟩
 have hv:(decide (1<=r)&&decide (r<=many)&&decide (0<=p)&&decide (p<3))=false:=by simp[Y]
 rw[hv];clear hv;go_in;go_wp2;go_ret;exact⟨by first|rfl|(simp;omega),Z⟩
def PZ(l:List qM)(c:qM):lT (l++ [c])=lT l++ [(c.a,c.pa,c.m),(c.b,c.pb,c.m)] :=by simp[lT]
def Uf {r p:Int} (h:qN many r p=true)(h6:many<=6):1<=r/\r<=6/\0<=p/\p<=2:=by
 unfold qN at h;simp only[jo,decide_eq_true_eq]at h;omega
def tO(many:Int)(c:qM)(E:List (Int×Int×Int)):Nat:=
 if c.m<1 \/20<c.m then 1
 else if qN many c.a c.pa=false then 1
 else if(mM E c.a c.pa).isSome=true then 8
 else if qN many c.b c.pb=false then 1
 else if(mM (E++ [(c.a,c.pa,c.m)]) c.b c.pb).isSome=true then 8
 else 0
def JE(many:Int)(c:qM)(l:List qM)(E:List (Int×Int×Int)):Al many (c::l) E=if tO many c E≠0 then tO many c E else Al many l (E++ [(c.a,c.pa,c.m),(c.b,c.pb,c.m)]):=by
 conv=>lhs;unfold Al
 unfold tO;split;{rfl};split;{rfl};split;{rfl};split;{rfl};split;{rfl};rw[af gZ]
def CN(w:fA)(many:Int)(L:List qM)(e:Ending)(w':fA):Prop:=(pz many L≠0->e=ρ (τ #[.map ν,kr (pz many L)]))/\(pz many L=0->∃b,e=ρ (τ #[.map (μ b),η])/\qw w' b (lT L)/\EJ (lT L)/\w.heap.size<=b)/\fP w w'
def CN.bad {f:Nat} (hf:pz many L=f)(Z:f≠0)(Y:fP w w'):CN w many L (ρ (τ #[.map ν,kr f])) w':=⟨λ_=>by rw[hf],λe=>absurd (hf.symm.trans e) Z,Y⟩
def CN.good(hf:pz many L=0)(V:qw w' b (lT L))(Y:EJ (lT L))(X:w.heap.size<=b)(Z:fP w w'):CN w many L (ρ (τ #[.map (μ b),η])) w':=⟨λe=>absurd hf e,λ_=>⟨b,rfl,V,Y,X⟩,Z⟩
def abe(W:fA):(Instr.makeMap 184 ν).run gg W=.ok (.map (μ W.heap.size)) (W.alloc (.map #[] 0)):=rfl
def DI(w:fA)(b:Nat)(E:List (Int×Int×Int))(T:EJ E)(many r p:Int)(h6:many<=6)(W:fA)(hM:qw W b E)(hb:w.heap.size<=b)(h:fP w W)(rS:b<W.heap.size)(Z Y:Nat)(m:Int)(J:W.cell? ⟨Z,0,ν⟩=μ (ι κ r)/\W.cell? ⟨Z,1,ν⟩=μ (ι κ p))(S:W.cell? ⟨Y,4,ν⟩=μ (ι κ m)):
 gb gg 154 #[.agg #[ι κ r,ι κ p],ι κ many] W λe w1=>e=ρ (.bool (qN many r p))/\fP w w1/\(w1.cell? ⟨Z,0,ν⟩=μ (ι κ r)/\w1.cell? ⟨Z,1,ν⟩=μ (ι κ p))/\w1.cell? ⟨Y,4,ν⟩=μ (ι κ m)/\
  (qN many r p=true->(Instr.lookup 184 (.map (μ b)) (.agg #[ι κ r,ι κ p]) true).run gg w1=.ok (τ #[ι κ ((mM E r p).getD 0),.bool (mM E r p).isSome]) w1/\
   (mM E r p=ν->∃X,(Instr.mapUpdate 184 (.map (μ b)) (.agg #[ι κ r,ι κ p]) (ι κ m)).run gg w1=.ok () X/\qw X b (E++ [(r,p,m)])/\EJ (E++ [(r,p,m)])/\fP w X/\X.cell? ⟨Y,4,ν⟩=μ (ι κ m)/\b<X.heap.size)):=by
  refine(yT r p many W).mono ?_;rintro e w1 ⟨rfl,b1⟩;have V:=ai _ _ J.1;have M:=ai _ _ S;have y1:=(ak (a:=⟨Y,4,ν⟩) (b1.block Y M)).trans S;have tC:=hM.keep (b1.block b rS);refine⟨rfl,fQ h b1,⟨(ak (a:=⟨Z,0,ν⟩) (b1.block Z V)).trans J.1,(ak (a:=⟨Z,1,ν⟩) (b1.block Z V)).trans J.2⟩,y1,λjR=> ?_⟩;have G:=Uf jR h6;refine⟨qw.look tC T G,λhn=> ?_⟩;obtain⟨X,g1,g2,g3,g4,g5,D,A⟩:=qw.store (m:=m) tC T G hn
  have Q:Y≠b:=λe=>by
   subst e;obtain⟨es,clock,h1,_⟩:=hM;simp[World.cell?,h1]at S
  have U:=fQ h b1;refine⟨X,g1,g2,T.snoc G hn,⟨g3.trans U.os,g4.trans U.tape,g5.trans U.output,by rw[D];exact U.size,λk hk=> ?_⟩,(ak (a:=⟨Y,4,ν⟩) (A Y Q)).trans y1,by rw[D];exact aq rS b1.size⟩;have H:k≠b:=fC;exact(A k H).trans (U.block k hk)
def zN(many:Int)(a:Option Addr)(cap:Nat)(L:List qM)(w:fA)(hL:Bw w a L)(hl:L.length<=1000):
 gb gg 95 #[ι κ many,σ a L.length cap] w λe w'=>CN w many L e w':=by
  by_cases D:many<1 \/6<many
  ·have G:pz many L=1:=by unfold pz;rw[ag D]
   have S:Hid _:=CN.bad G fF (aC _ w);clear hL G;generalize L.length=n at hl⊢;by_cases h2:many<1;{clear D;go_in;go_wp2;go_ret2;exact S.out};have h3:6<many:=fC;clear D;go_in;go_wp2;go_ret2;exact S.out
  have h1a:¬many<1:=fC;have h1b:¬6<many:=fC;by_cases h9:9<L.length
  ·have G:pz many L=2:=by unfold pz;rw[af D,ag h9]
   have S:Hid _:=CN.bad G fF (aC _ w);have Yb:(9:Int)<(L.length:Int):=fC;clear hL G D;generalize L.length=n at hl h9 Yb⊢;go_in;go_wp2;go_ret2;exact S.out
  have HE:Hid (pz many L=Al many L []):=by show _=_;unfold pz;rw[af D,af h9]
  have Yb:¬(9:Int)<(L.length:Int):=fC;have HL:Hid _:=hL;obtain⟨n,hn⟩:=fH (L.length);have HN:Hid _:=hn;have MT:qw (w.alloc (.map #[] 0)) w.heap.size [] :=⟨#[],0,bw w _,rfl⟩
  have hmk:=abe;obtain⟨bM,hbM⟩:=fH (w.heap.size)
  have H0:Hid (qw (w.alloc (.map #[] 0)) bM (lT (L.take 0))/\EJ (lT (L.take 0))/\fP w (w.alloc (.map #[] 0))/\bM<(w.alloc (.map #[] 0)).heap.size/\Al many L [] =Al many (L.drop 0) (lT (L.take 0))):=by
   rw[hbM]at MT;exact⟨MT,λx hx=>by simp[lT]at hx,gu _ _,by rw[<-hbM];simp,rfl⟩
  have HbM:Hid _:=hbM;rw[hn]at hl Yb⊢;clear hL D h9 hn MT;go_in;go_wp2_with fail;(try rw[HbM.out]);go_loopw [27] (λx wr=>∃j:Nat,j<=n/\x=ι κ j/\qw wr bM (lT (L.take j))/\EJ (lT (L.take j))/\fP w wr/\bM<wr.heap.size/\Al many L [] =Al many (L.drop j) (lT (L.take j))) (λx _=>n-(gj x).toNat);(case atStart=>exact⟨0,aw _,rfl,H0.out⟩)
  case round=>
   obtain⟨j,hj,rfl,hm,G,hB,rS,hF⟩:=hrel;obtain⟨V,rfl⟩:∃V,V=wr:=⟨_,rfl⟩
   by_cases lZ:j<n
   ·have pE:(j:Int)<(n:Int):=fC;have Aj:(0:Int)<=(j:Int):=fC;have hjL:j<L.length:=by rw[HN.out];exact lZ
    obtain⟨b,off,rfl,k0,k1,k2,k3,k4⟩:=Bw.below (w:=w) HL.out hB j hjL;have hd:L.drop j=L[j] ::L.drop (j+1):=a9 hjL
    have ht:lT (L.take (j+1))=lT (L.take j)++ [(L[j].a,L[j].pa,L[j].m),(L[j].b,L[j].pb,L[j].m)] :=by
     rw[aJ hjL,PZ]
    rw[hd,JE]at hF;generalize L[j] =c at k0 k1 k2 k3 k4 hF ht;obtain⟨E,hEe⟩:=fH (lT (L.take j));rw[hEe]at hm G hF ht;have HT:Hid _:=ht
    have Yc:Hid (∀f,tO many c E=f->f≠0->pz many L=f):=by
     intro f D h2;rw[HE.out,hF,D,ag h2]
    have aiC:Hid (tO many c E=0->Al many L [] =Al many (L.drop (j+1)) (E++ [(c.a,c.pa,c.m),(c.b,c.pb,c.m)])):=by
     intro D;rw[hF,D,af gZ]
    obtain⟨ca,X,U,T,cm⟩:=c;have bl:=ai _ _ k0;have HM:Hid _:=hm;have HEO:Hid _:=G;have HB:Hid _:=hB;have HBL:Hid _:=rS;obtain⟨W1,lK⟩:=fH (V.alloc (γ #[ι κ ca,ι κ X,ι κ U,ι κ T,ι κ cm] 81));obtain⟨Y,hY⟩:=fH (V.heap.size);have lU:=gu V (γ #[ι κ ca,ι κ X,ι κ U,ι κ T,ι κ cm] 81);have P2:j2 (V.alloc (γ #[ι κ ca,ι κ X,ι κ U,ι κ T,ι κ cm] 81)) V.heap.size #[ι κ ca,ι κ X,ι κ U,ι κ T,ι κ cm] 81:=j2.new V _ _;rw[lK]at lU P2;rw[hY]at P2;have g0:W1.cell? ⟨Y,0,ν⟩=μ (ι κ ca):=P2.cell 0;have g1:W1.cell? ⟨Y,1,ν⟩=μ (ι κ X):=P2.cell 1;have g2:W1.cell? ⟨Y,2,ν⟩=μ (ι κ U):=P2.cell 2;have g3:W1.cell? ⟨Y,3,ν⟩=μ (ι κ T):=P2.cell 3;have g4:W1.cell? ⟨Y,4,ν⟩=μ (ι κ cm):=P2.cell 4;have gl:=P2.lt;have tT:fP w W1:=fQ hB lU;have tC:qw W1 bM E:=hm.keep (lU.block bM rS);have aiD:bM<W1.heap.size:=aq rS lU.size;have LC:Hid _:=lK;have HY:Hid _:=hY;have Dl:Hid _:=tT;have HM1:Hid _:=tC;have aiE:Hid _:=aiD;have HBY:Hid _:=P2;have Bx:=Gz ca X U T cm W1;clear hm G hB rS hF hd ht hEe lU P2 tT tC aiD lK hY;by_cases xP:cm<1 \/20<cm;{have xZ:pz many L=1:=Yc.out 1 (by unfold tO;rw[ag xP]) fF;have S:Hid _:=CN.bad (w':=W1) xZ fF Dl.out;clear Bx;by_cases AP:cm<1;{clear xP;go_wp2_with fail;rw[LC.out];(try rw[HY.out]);go_wp2;go_ret2;exact S.out};have hm3:20<cm:=fC;clear xP;go_wp2_with fail;rw[LC.out];(try rw[HY.out]);go_wp2;go_ret2;exact S.out};have AP:¬cm<1:=fC;have hm3:¬20<cm:=fC;have I9:Hid _:=xP;clear xP;go_wp2_with fail;rw[LC.out];(try rw[HY.out]);go_wp2_with fail;refine Bx.mono ?_;rintro e w2 ⟨rfl,be⟩;have HI0:Hid (qw w2 bM (E)/\EJ (E)/\fP w w2/\bM<w2.heap.size/\w2.cell? ⟨Y,4,ν⟩=μ (ι κ cm)):=⟨qw.keep HM1.out (be.block bM aiE.out),HEO.out,fQ Dl.out be,aq aiE.out be.size,(ak (a:=⟨Y,4,ν⟩) (be.block Y gl)).trans g4⟩
    clear Bx be k0 k1 k2 k3 k4 g0 g1 g2 g3 g4 gl bl;go_wp2;go_loopw [42] (λx wr=>(x=ι κ 0/\(qw wr bM (E)/\EJ (E)/\fP w wr/\bM<wr.heap.size/\wr.cell? ⟨Y,4,ν⟩=μ (ι κ cm))) \/(x=ι κ 1/\(qw wr bM (E++ [(ca,X,cm)])/\EJ (E++ [(ca,X,cm)])/\fP w wr/\bM<wr.heap.size/\wr.cell? ⟨Y,4,ν⟩=μ (ι κ cm))/\(qN many ca X=true/\mM E ca X=ν)) \/(x=ι κ 2/\(qw wr bM (E++ [(ca,X,cm)] ++ [(U,T,cm)])/\EJ (E++ [(ca,X,cm)] ++ [(U,T,cm)])/\fP w wr/\bM<wr.heap.size/\wr.cell? ⟨Y,4,ν⟩=μ (ι κ cm))/\tO many ⟨ca,X,U,T,cm⟩ E=0)) (λx _=>2-(gj x).toNat);(case atStart=>exact .inl ⟨rfl,HI0.out⟩)
    case round=>
     obtain⟨Q,rfl⟩:∃Q,Q=wr:=⟨_,rfl⟩
     obtain⟨rfl,A⟩|⟨rfl,A,AX⟩|⟨rfl,A,AX⟩:=hrel
     ·skip
      obtain⟨i1,i2,i3,i4,i5⟩:=A;have hix:=aeT ca X U T;obtain⟨W4,wY⟩:=fH (Q.alloc (γ #[ι κ ca,ι κ X] 192));obtain⟨Z,hZ⟩:=fH (Q.heap.size);have ba:=gu Q (γ #[ι κ ca,ι κ X] 192);have H:j2 (Q.alloc (γ #[ι κ ca,ι κ X] 192)) Q.heap.size #[ι κ ca,ι κ X] 192:=j2.new Q _ _;rw[wY]at ba H;rw[hZ]at H;have z0:W4.cell? ⟨Z,0,ν⟩=μ (ι κ ca):=H.cell 0;have z1:W4.cell? ⟨Z,1,ν⟩=μ (ι κ X):=H.cell 1;have zl:=H.lt;have y4:W4.cell? ⟨Y,4,ν⟩=μ (ι κ cm):=(ak (a:=⟨Y,4,ν⟩) (ba.block Y (ai _ _ i5))).trans i5;have Ni:=DI w bM (E) i2 many ca X fC W4 (i1.keep (ba.block bM i4)) (by rw[HbM.out];exact aj _) (fQ i3 ba) (aq i4 ba.size) Z Y cm ⟨z0,z1⟩ y4;have MU:Hid _:=wY;have HZ:Hid _:=hZ;clear i1 i2 i3 i4 i5 wY hZ ba H;go_wp2_with fail;(try rw[MU.out]);(try rw[HZ.out]);go_wp2_with fail;refine Ni.mono ?_;rintro e w5 ⟨rfl,b5,⟨x0,x1⟩,x4,GD⟩;have xl:=ai _ _ x0;have yl:=ai _ _ x4;clear Ni z0 z1 zl y4;cases J:qN many ca X with
      |false=>
       have xZ:pz many L=1:=Yc.out 1 (by unfold tO;rw[af I9.out,ag J]) fF;have S:Hid _:=CN.bad (w':=w5) xZ fF b5;clear GD b5
       go_wp2
       go_ret2
       exact S.out
      |true=>
       obtain⟨qV,lz⟩:=GD J;clear GD;cases M:mM (E) ca X with
       |some m0=>
        have xZ:pz many L=8:=Yc.out 8 (by unfold tO;rw[af I9.out,af (by rw[J];simp),ag (by rw[M];rfl)]) fF;have S:Hid _:=CN.bad (w':=w5) xZ fF b5;rw[M]at qV;have q1:(ji (μ m0) 0)=m0:=rfl;have q2:(jj (μ m0))=true:=rfl;rw[q1,q2]at qV;clear lz b5 J M xZ
        go_wp2
        go_ret2
        exact S.out
       |none=>
        obtain⟨w6,u1,u2,u3,h,u5',u6'⟩:=lz M;have ae8:Hid (qw w6 bM (E++ [(ca,X,cm)])/\EJ (E++ [(ca,X,cm)])/\fP w w6/\bM<w6.heap.size/\w6.cell? ⟨Y,4,ν⟩=μ (ι κ cm)):=⟨u2,u3,h,u6',u5'⟩
        have HKK:Hid (qN many ca X=true/\mM E ca X=ν):=⟨J,M⟩
        rw[M]at qV;have q1:(ji (ν:Option Int) 0)=0:=rfl;have q2:(jj (ν:Option Int))=false:=rfl;rw[q1,q2]at qV;clear lz b5 u2 u3 h u5' u6' J M
        go_wp2
        go_roundw
        case rel=>exact .inr (.inl ⟨by go_num,ae8.out,HKK.out⟩)
        case measure=>simp[gj]
     ·obtain⟨Zv,tU⟩:=AX;obtain⟨i1,i2,i3,i4,i5⟩:=A;have hix:=aeU ca X U T;obtain⟨W4,wY⟩:=fH (Q.alloc (γ #[ι κ U,ι κ T] 192));obtain⟨Z,hZ⟩:=fH (Q.heap.size);have ba:=gu Q (γ #[ι κ U,ι κ T] 192);have H:j2 (Q.alloc (γ #[ι κ U,ι κ T] 192)) Q.heap.size #[ι κ U,ι κ T] 192:=j2.new Q _ _;rw[wY]at ba H;rw[hZ]at H;have z0:W4.cell? ⟨Z,0,ν⟩=μ (ι κ U):=H.cell 0;have z1:W4.cell? ⟨Z,1,ν⟩=μ (ι κ T):=H.cell 1;have zl:=H.lt;have y4:W4.cell? ⟨Y,4,ν⟩=μ (ι κ cm):=(ak (a:=⟨Y,4,ν⟩) (ba.block Y (ai _ _ i5))).trans i5;have Ni:=DI w bM (E++ [(ca,X,cm)]) i2 many U T fC W4 (i1.keep (ba.block bM i4)) (by rw[HbM.out];exact aj _) (fQ i3 ba) (aq i4 ba.size) Z Y cm ⟨z0,z1⟩ y4;have MU:Hid _:=wY;have HZ:Hid _:=hZ;clear i1 i2 i3 i4 i5 wY hZ ba H;go_wp2_with fail;(try rw[MU.out]);(try rw[HZ.out]);go_wp2_with fail;refine Ni.mono ?_;rintro e w5 ⟨rfl,b5,⟨x0,x1⟩,x4,GD⟩;have xl:=ai _ _ x0;have yl:=ai _ _ x4;clear Ni z0 z1 zl y4;cases J:qN many U T with
      |false=>
       have xZ:pz many L=1:=Yc.out 1 (by unfold tO;rw[af I9.out,af (by rw[Zv];simp),af (by rw[tU];simp),ag J]) fF;have S:Hid _:=CN.bad (w':=w5) xZ fF b5;clear GD b5
       go_wp2
       go_ret2
       exact S.out
      |true=>
       obtain⟨qV,lz⟩:=GD J;clear GD;cases M:mM (E++ [(ca,X,cm)]) U T with
       |some m0=>
        have xZ:pz many L=8:=Yc.out 8 (by unfold tO;rw[af I9.out,af (by rw[Zv];simp),af (by rw[tU];simp),af (by rw[J];simp),ag (by rw[M];rfl)]) fF;have S:Hid _:=CN.bad (w':=w5) xZ fF b5;rw[M]at qV;have q1:(ji (μ m0) 0)=m0:=rfl;have q2:(jj (μ m0))=true:=rfl;rw[q1,q2]at qV;clear lz b5 J M xZ
        go_wp2
        go_ret2
        exact S.out
       |none=>
        obtain⟨w6,u1,u2,u3,h,u5',u6'⟩:=lz M;have ae8:Hid (qw w6 bM (E++ [(ca,X,cm)] ++ [(U,T,cm)])/\EJ (E++ [(ca,X,cm)] ++ [(U,T,cm)])/\fP w w6/\bM<w6.heap.size/\w6.cell? ⟨Y,4,ν⟩=μ (ι κ cm)):=⟨u2,u3,h,u6',u5'⟩
        have HKK:Hid (tO many ⟨ca,X,U,T,cm⟩ E=0):=by show _=_;unfold tO;rw[af I9.out,af (by rw[Zv];simp),af (by rw[tU];simp),af (by rw[J];simp),af (by rw[M];simp)]
        rw[M]at qV;have q1:(ji (ν:Option Int) 0)=0:=rfl;have q2:(jj (ν:Option Int))=false:=rfl;rw[q1,q2]at qV;clear lz b5 u2 u3 h u5' u6' J M
        go_wp2
        go_roundw
        case rel=>exact .inr (.inr ⟨by go_num,ae8.out,HKK.out⟩)
        case measure=>simp[gj]
     obtain⟨i1,i2,i3,i4,i5⟩:=A
     have HN2:Hid (qw Q bM (lT (L.take (j+1)))/\EJ (lT (L.take (j+1)))/\fP w Q/\bM<Q.heap.size/\Al many L [] =Al many (L.drop (j+1)) (lT (L.take (j+1)))):=by
      show _/\_/\_/\_/\_;rw[HT.out];have e5:E++ [(ca,X,cm)] ++ [(U,T,cm)] =E++ [(ca,X,cm),(U,T,cm)] :=gZ;rw[e5]at i1 i2;exact⟨i1,i2,i3,i4,aiC.out AX⟩
     clear i1 i2 i3 i4 i5 AX;go_wp2;go_roundw;(case rel=>exact⟨j+1,fC,by go_num,HN2.out⟩);case measure=>simp[gj];omega
   have zD:¬(j:Int)<(n:Int):=fC;obtain rfl:j=n:=fC;have e9:L.take j=L:=by rw[<-HN.out];exact cM
   have e8:L.drop j=[] :=by rw[<-HN.out];exact List.drop_length
   rw[e9]at hm G hF;rw[e8]at hF;have QN:pz many L=0:=by rw[HE.out,hF];rfl
   have S:Hid _:=CN.good QN hm G (by rw[HbM.out];exact aj _) hB;clear hm G hB rS hF QN e9 e8;go_wp2;go_ret2;exact S.out
def wa(many:Int)(a:Option Addr)(cap:Nat)(L:List qM)(w:fA)(U:Bw w a L)(hl:L.length<=1000):
 gb gg 38 #[ι κ many,σ a L.length cap] w λe w'=>e=ρ (kr (pz many L))/\fP w w':=by
  have V:=zN many a cap L w U hl;generalize L.length=n at V⊢
  have Z:gb gg 95 #[ι κ many,σ a n cap] w λe w'=>∃v,e=ρ (τ #[.map v,kr (pz many L)])/\fP w w':=by
   refine V.mono ?_;rintro e w1 ⟨S,Z,Y⟩;by_cases X:pz many L=0;{obtain⟨b,rfl,_⟩:=Z X;exact⟨μ b,by rw[X];rfl,Y⟩};exact⟨ν,S X,Y⟩
  clear V U;generalize kr (pz many L)=ev at Z⊢;go_in;go_wp2_with fail;refine Z.mono ?_;rintro e w1 ⟨v,rfl,Y⟩;have T:Hid _:=Y;clear Z Y;go_wp2;go_ret;exact⟨rfl,T.out⟩
def abf(W:fA)(i:Nat)(ms:Nat->Int)(P lo hi:Nat):Prop:=∃z:Zt,z.R=P/\n9 W z (kZ ((i:Int)+1) 3 ms)/\(∀b,z.qF b->lo<=b/\b<hi)/\lo<=hi/\hi<=W.heap.size/\∀b,(b<lo \/(hi<=b/\b<W.heap.size))->z.fm.no b
def abf.step {W':fA} {ms:Nat->Int} {P lo hi:Nat} (h:abf W i ms P lo hi)(hs:W.heap.size<=W'.heap.size)(X:∀b,lo<=b->b<hi->W'.heap[b]? =W.heap[b]?):abf W' i ms P lo hi:=by
 obtain⟨z,V,U,Z,T,S,Y⟩:=h;refine⟨z.plus λb=>W.heap.size<=b/\b<W'.heap.size,V,U.zb hs (λb Q hc=> ?_) _ (λb e=>e),Z,T,au S hs,λb Q=> ?_⟩;{obtain hc|hc:=hc;{have:¬(b<lo \/(hi<=b/\b<W.heap.size)):=λe=>hc (Y b e);exact X b fC fC};have:=Z b (.inl hc);exact X b this.1 this.2};show z.fm.no b \/_;by_cases e:b<W.heap.size;{exact .inl (Y b fC)};exact .inr fC
def w7:List qM->List fB
 |[] =>[]
 |c::l=>[.int .i64 c.a,.int .i64 c.pa,.int .i64 c.b,.int .i64 c.pb,.bool false,.slice none 0 0,.slice none 0 0] ++w7 l
def Nj:∀(l m:List qM),w7 (l++m)=w7 l++w7 m
 |[],_=>rfl
 |c::l,m=>by
  show _++w7 (l++m)=_;rw[Nj l m,<-aK];rfl
def RF:∀(l:List qM) (j i:Nat) (Z:j<l.length),i<7->(w7 l)[j*7+i]? =[ι κ l[j].a,ι κ l[j].pa,ι κ l[j].b,ι κ l[j].pb,(.bool false:fB),σ ν 0 0,σ ν 0 0][i]?
 |c::l,0,i,_,hi=>by
  show([_,_,_,_,_,_,_] ++w7 l)[0*7+i]? =_;rw[Nat.zero_mul,aY,bT (by simpa using hi)];rfl
 |c::l,j+1,i,Z,hi=>by
  show([_,_,_,_,_,_,_] ++w7 l)[(j+1)*7+i]? =_;rw[bL (by simp;omega)];have e:(j+1)*7+i-List.length [ι .i64 c.a,ι κ c.pa,ι κ c.b,ι κ c.pb,.bool false,σ ν 0 0,σ ν 0 0] =j*7+i:=by simp;omega
  rw[e];exact RF l j i (by simpa using Z) hi
def Yd(l:List qM):∀u∈w7 l,u.oneCell'=true:=by
 induction l with|nil=>intro u hu;simp[w7]at hu|cons c l ih=>intro u hu;have Z:u∈ [ι .i64 c.a,ι κ c.pa,ι κ c.b,ι κ c.pb,.bool false,σ ν 0 0,σ ν 0 0] ++w7 l:=hu;obtain h|h:=aA.1 Z;{simp at h;obtain rfl|rfl|rfl|rfl|rfl|rfl:=h<;>rfl};{exact ih u h}
def yy(P:Nat->Nat)(q:Nat):List fB:=(gw q).map λi=>π (μ ⟨P i,0,ν⟩)
def P4(P:Nat->Nat)(q:Nat):yy P (q+1)=yy P q++ [π (μ ⟨P q,0,ν⟩)] :=by simp[yy,List.range_succ]
def Nk {P':Nat->Nat} (h:∀i<q,P i=P' i):yy P q=yy P' q:=by
 unfold yy;refine List.map_congr_left λi hi=> ?_;rw[h i (aU.1 hi)]
def Ye(P:Nat->Nat)(h:i<q):(yy P q)[i]? =μ (π (μ ⟨P i,0,ν⟩)):=by simp[yy,h]
def rC(m:Nat):Array fB:=Array.replicate m (σ ν 0 0)
structure GF(w W:fA)(N gI bM m:Nat)(E:List (Int×Int×Int))(ms:Nat->Nat->Int)(q j:Nat)(L:List qM)(v v2:fB)(P lo hi:Nat->Nat):Prop where
 ph:fP w W
 nb:j2 W N #[v,σ (μ ⟨gI,0,ν⟩) m m,.map (μ bM),v2] 190
 gi:j2 W gI (rC m) 53
 mp:qw W bM E
 row:Row W 1 v q (yy P q)
 IE:Row W 7 v2 j (w7 (L.take j))
 ne:N≠gI/\N≠bM/\gI≠bM/\w.heap.size<=N/\w.heap.size<=gI/\w.heap.size<=bM
 fv:∀k,v.ownBlock=μ k->w.heap.size<=k/\k≠N/\k≠gI/\k≠bM
 Nm:∀k,v2.ownBlock=μ k->w.heap.size<=k/\k≠N/\k≠gI/\k≠bM/\v.ownBlock≠μ k
 ZS:∀i<q,abf W i (ms i) (P i) (lo i) (hi i)
 lw:∀i<q,w.heap.size<=lo i
 sep:∀i k,i<k->k<q->hi i<=lo k
 out:∀i<q,∀k,(k=N \/k=gI \/k=bM \/v.ownBlock=μ k \/v2.ownBlock=μ k)->k<lo i \/hi i<=k
section
variable {w W W':World} {N gI bM m:Nat} {E:List (Int×Int×Int)} {ms:Nat->Nat->Int} {q j:Nat} {L:List qM} {v v2:Value} {P lo hi:Nat->Nat}
def GF.zz(h:GF w W N gI bM m E ms q j L v v2 P lo hi):N<W.heap.size:=h.nb.lt
def GF.Ug(h:GF w W N gI bM m E ms q j L v v2 P lo hi):bM<W.heap.size:=by
 obtain⟨es,clock,Z,_⟩:=h.mp;exact(aE.1 Z).1
def GF.below(h:GF w W N gI bM m E ms q j L v v2 P lo hi)(Z:fP W W'):GF w W' N gI bM m E ms q j L v v2 P lo hi:=
 ⟨fQ h.ph Z,h.nb.below Z,h.gi.below Z,h.mp.keep (Z.block bM h.Ug),h.row.below Z,h.IE.below Z,h.ne,h.fv,h.Nm,λi Y=>(h.ZS i Y).step Z.size (λb _ h2=>Z.block b (by
  obtain⟨_,_,_,_,_,h5,_⟩:=h.ZS i Y;omega)),h.lw,h.sep,h.out⟩
def GF.Gh(h:GF w W N gI bM m E ms q j L v v2 P lo hi) {W1:fA} (hz:n9 W1 z (kZ ((q:Int)+1) 3 (ms q)))(G:fP W W1)(Q:∀b,z.qF b->W.heap.size<=b)(S:∀b<W.heap.size,z.fm.no b)
 {o:Obj} {v':fB} (hr:Row W2 1 v' (q+1) (yy P q++ [π (μ ⟨z.R,0,ν⟩)])) (hg:(W1.alloc o).grownBy W2 v.ownBlock) (hv:∀k,v'.ownBlock=μ k->v.ownBlock=μ k \/W1.heap.size<=k):
 GF w (W2.setCell ⟨N,0,ν⟩ v') N gI bM m E ms (q+1) j L v' v2 (kK P q z.R) (kK lo q W.heap.size) (kK hi q W1.heap.size):=by
  have U:W1.heap.size<=W2.heap.size:=au gZ hg.size;have Yf:∀b<W1.heap.size,v.ownBlock≠μ b->W2.heap[b]? =W1.heap[b]? :=λb V hn=>(hg.block b (by simp;omega) (λe=>hn e.symm)).trans (bk W1 o b V);have J:∀b<W1.heap.size,v.ownBlock≠μ b->b≠N->(W2.setCell ⟨N,0,ν⟩ v').heap[b]? =W1.heap[b]? :=λb V hn hN=>(ax _ _ _ b hN).trans (Yf b V hn);have Z:=h.below G;have hNv:v.ownBlock≠μ N:=λe=>(h.fv N e).2.1 rfl
  have D:∀k,v'.ownBlock=μ k->k≠N:=λk e A=>by
   obtain Y|Y:=hv k e;{exact(h.fv k Y).2.1 A};have:=Z.zz;omega
  have Ge:fP w W2:=by
   have Y:=(Z.ph.alloc Z.ph.size o).grown hg (by simp;have:=Z.ph.size;omega) (λk e=>(h.fv k e).1);exact Y
  have as4:=h.ph.size
  have sM:∀i<q,lo i<=hi i/\hi i<=W.heap.size:=λi M=>by
   obtain⟨_,_,_,_,h4,h5,_⟩:=h.ZS i M;exact⟨h4,h5⟩
  have oR:n9 (W2.setCell ⟨N,0,ν⟩ v') (z.plus λb=>W1.heap.size<=b/\b<(W2.setCell ⟨N,0,ν⟩ v').heap.size) (kZ ((q:Int)+1) 3 (ms q)):=by
   refine hz.zb (by simpa using U) (λb V hc=> ?_) _ (λb e=>e)
   have hbW:W.heap.size<=b:=by
    obtain hc|hc:=hc;{exact Nat.le_of_not_lt (λe=>hc (S b e))};exact Q b (.inl hc)
   exact J b V (λe=>by have:=h.row.lt b e;omega) (λe=>by have:=h.zz;omega)
  refine⟨Ge.setCell (by show w.heap.size<=N;exact h.ne.2.2.2.1) _,?_,Z.gi.keep (J gI Z.gi.lt (λe=>(h.fv gI e).2.2.1 rfl) (λe=>h.ne.1 e.symm)),Z.mp.keep (J bM Z.Ug (λe=>(h.fv bM e).2.2.2 rfl) (λe=>h.ne.2.1 e.symm)),?_,Z.IE.keep (by simpa using U) (λk e=>J k (Z.IE.lt k e) (h.Nm k e).2.2.2.2 (h.Nm k e).2.1),h.ne,λk e=> ?_,λk e=> ?_,λi M=> ?_,λi M=> ?_,λi k T hk=> ?_,λi M k hk=> ?_⟩;{have Y:j2 W2 N #[v,σ (μ ⟨gI,0,ν⟩) m m,.map (μ bM),v2] 190:=Z.nb.keep (Yf N Z.zz hNv);exact Y.set 0 v'};{rw[P4,jd,Nk (P':=P) (λi M=>iw _ _ fC)];exact hr.keep gZ (λk e=>ax _ _ _ k (D k e))};{obtain Y|Y:=hv k e;{exact h.fv k Y};have a1:=Z.zz;have a2:=Z.gi.lt;have a3:=Z.Ug;have a4:=Z.ph.size;omega};{refine⟨(h.Nm k e).1,(h.Nm k e).2.1,(h.Nm k e).2.2.1,(h.Nm k e).2.2.2.1,λA=> ?_⟩;obtain Y|Y:=hv k A;{exact(h.Nm k e).2.2.2.2 Y};have:=Z.IE.lt k e;omega};{by_cases X:i=q;{subst X;rw[jd,jd,jd];refine⟨z.plus λb=>W1.heap.size<=b/\b<(W2.setCell ⟨N,0,ν⟩ v').heap.size,rfl,oR,λb V=>⟨Q b V,hz.Ap rfl V⟩,G.size,by simpa using U,λb V=> ?_⟩;show z.fm.no b \/_;obtain e|e:=V;{exact .inl (S b e)};exact .inr e};rw[iw _ _ X,iw _ _ X,iw _ _ X];have H:i<q:=fC;refine(Z.ZS i H).step (by simpa using U) (λb b1 b2=> ?_);have b3:=(sM i H).2;have hs:=G.size;refine J b fC (λe=> ?_) (λe=> ?_);{have:=h.out i H b (.inr (.inr (.inr (.inl e))));omega};have:=h.out i H b (.inl e);omega};{by_cases X:i=q;{subst X;rw[jd];exact h.ph.size};rw[iw _ _ X];exact h.lw i fC};{by_cases ek:k=q;{subst ek;rw[iw _ _ fC,jd];exact(sM i T).2};rw[iw _ _ fC,iw _ _ ek];exact h.sep i k T fC}
  have hold:(k=N \/k=gI \/k=bM \/v.ownBlock=μ k \/v2.ownBlock=μ k) \/W1.heap.size<=k:=by
   obtain e|e|e|e|e:=hk;{exact .inl (.inl e)};{exact .inl (.inr (.inl e))};{exact .inl (.inr (.inr (.inl e)))};{exact(hv k e).imp_left (λe=>.inr (.inr (.inr (.inl e))))};exact .inl (.inr (.inr (.inr (.inr e))))
  by_cases X:i=q;{subst X;rw[jd,jd];obtain e|e:=hold;{left;obtain e|e|e|e|e:=e;{have:=h.zz;omega};{have:=h.gi.lt;omega};{have:=h.Ug;omega};{exact h.row.lt k e};exact h.IE.lt k e};exact .inr e};rw[iw _ _ X,iw _ _ X];obtain e|e:=hold;{exact h.out i fC k e};have:=(sM i fC).2;have hs:=G.size;exact .inr fC
def GF.Rv(h:GF w W N gI bM m E ms q j L v v2 P lo hi) {v':fB} {c:qM} (ht:L.take (j+1)=L.take j++ [c])(hr:Row W2 7 v' (j+1) (w7 (L.take j)++w7 [c]))(V:W.grownBy W2 v2.ownBlock)(hv:∀k,v'.ownBlock=μ k->v2.ownBlock=μ k \/W.heap.size<=k):
 GF w (W2.setCell ⟨N,3,ν⟩ v') N gI bM m E ms q (j+1) L v v' P lo hi:=by
  have J:∀b<W.heap.size,v2.ownBlock≠μ b->W2.heap[b]? =W.heap[b]? :=λb M Q=>V.block b M (λe=>Q e.symm);have U:∀b<W.heap.size,v2.ownBlock≠μ b->b≠N->(W2.setCell ⟨N,3,ν⟩ v').heap[b]? =W.heap[b]? :=λb M Q A=>(ax _ _ _ b A).trans (J b M Q);have S:v2.ownBlock≠μ N:=λe=>(h.Nm N e).2.1 rfl
  have T:∀k,v'.ownBlock=μ k->k≠N:=λk e X=>by
   obtain Y|Y:=hv k e;{exact(h.Nm k Y).2.1 X};have:=h.zz;omega
  have H:fP w W2:=h.ph.grown V h.ph.size (λk e=>(h.Nm k e).1);refine⟨H.setCell (by show w.heap.size<=N;exact h.ne.2.2.2.1) _,?_,h.gi.keep (U gI h.gi.lt (λe=>(h.Nm gI e).2.2.1 rfl) (λe=>h.ne.1 e.symm)),h.mp.keep (U bM h.Ug (λe=>(h.Nm bM e).2.2.2.1 rfl) (λe=>h.ne.2.1 e.symm)),h.row.keep (by simpa using V.size) (λk e=>U k (h.row.lt k e) (λX=>(h.Nm k X).2.2.2.2 e) (h.fv k e).2.1),?_,h.ne,h.fv,λk e=> ?_,λi Z=> ?_,h.lw,h.sep,λi Z k hk=> ?_⟩;{have Y:j2 W2 N #[v,σ (μ ⟨gI,0,ν⟩) m m,.map (μ bM),v2] 190:=h.nb.keep (J N h.zz S);exact Y.set 3 v'};{rw[ht,Nj];exact hr.keep gZ (λk e=>ax _ _ _ k (T k e))};{obtain Y|Y:=hv k e;{exact h.Nm k Y};have a1:=h.zz;have a2:=h.gi.lt;have a3:=h.Ug;have a4:=h.ph.size;refine⟨fC,fC,fC,fC,λX=> ?_⟩;have:=h.row.lt k X;omega};{obtain⟨_,_,_,_,G,D,_⟩:=h.ZS i Z;refine(h.ZS i Z).step (by simpa using V.size) (λb b1 b2=>U b fC (λe=> ?_) (λe=> ?_));{have:=h.out i Z b (.inr (.inr (.inr (.inr e))));omega};have:=h.out i Z b (.inl e);omega};obtain⟨_,_,_,_,G,D,_⟩:=h.ZS i Z;obtain e|e|e|e|e:=hk;{exact h.out i Z k (.inl e)};{exact h.out i Z k (.inr (.inl e))};{exact h.out i Z k (.inr (.inr (.inl e)))};{exact h.out i Z k (.inr (.inr (.inr (.inl e))))};obtain Y|Y:=hv k e;{exact h.out i Z k (.inr (.inr (.inr (.inr Y))))};exact .inr fC
end
def pq(E:List (Int×Int×Int)):List (Int×Int):=E.map λx=>(x.1,x.2.1)
def CO:∀ {E:List (Int×Int×Int)} {r p:Int},(mM E r p).isSome=true↔(r,p)∈pq E
 |[],r,p=>by simp[mM,pq]
 |x::E,r,p=>by
  unfold mM;have ih:=CO (E:=E) (r:=r) (p:=p);split
  ·rename_i h
   simp[pq,h.1,h.2]
  ·rename_i h
   rw[ih];constructor;{intro Y;exact cG _ Y}
   ·intro Y;have Z:(r,p)=(x.1,x.2.1) \/(r,p)∈pq E:=by
     have:(r,p)∈(x.1,x.2.1)::pq E:=Y;simpa using this
    obtain Z|Z:=Z
    ·injection Z with X V
     exact absurd ⟨X.symm,V.symm⟩ h
    ·exact Z
def Yg {c:qM} {E:List (Int×Int×Int)} (h:tO many c E=0):(1<=c.m/\c.m<=20)/\qN many c.a c.pa=true/\qN many c.b c.pb=true/\(c.a,c.pa)∉pq E/\(c.b,c.pb)∉pq (E++ [(c.a,c.pa,c.m)]):=by
 unfold tO at h;split at h;{simp at h};split at h;{simp at h};split at h;{simp at h};split at h;{simp at h};split at h;{simp at h};rename_i h1 Z Y X V;refine⟨fC,by simpa using Z,by simpa using X,λe=>Y (CO.2 e),λe=>V (CO.2 e)⟩
def RG {many:Int}:∀(L:List qM) (E:List (Int×Int×Int)),Al many L E=0->(pq E).Nodup->(∀c∈L,(1<=c.m/\c.m<=20)/\qN many c.a c.pa=true/\qN many c.b c.pb=true)/\(pq (E++lT L)).Nodup
 |[],E,_,hn=>⟨λc hc=>by simp at hc,by simpa[lT]using hn⟩
 |c::L,E,h,hn=>by
  rw[JE]at h;have Y:tO many c E=0:=by
   obtain e|e:=Nat.eq_zero_or_pos (tO many c E);{exact e};{rw[ag fC]at h;omega}
  rw[Y,af gZ]at h;obtain⟨g1,U,T,S,Z⟩:=Yg Y;have J:(pq (E++ [(c.a,c.pa,c.m),(c.b,c.pb,c.m)])).Nodup:=by
   have X:pq (E++ [(c.a,c.pa,c.m),(c.b,c.pb,c.m)])=(pq E++ [(c.a,c.pa)])++ [(c.b,c.pb)] :=by simp[pq]
   have V:pq (E++ [(c.a,c.pa,c.m)])=pq E++ [(c.a,c.pa)] :=by simp[pq]
   rw[X];rw[V]at Z;refine bS.2 ⟨bS.2 ⟨hn,gZ,?_⟩,gZ,?_⟩
   ·intro x hx y hy e;have:y=(c.a,c.pa):=by simpa using hy
    exact S (by rw[<-this,<-e];exact hx)
   ·intro x hx y hy e;have:y=(c.b,c.pb):=by simpa using hy
    exact Z (by rw[<-this,<-e];exact hx)
  obtain⟨Q,M⟩:=RG L _ h J;refine⟨λx hx=> ?_,?_⟩;{obtain rfl|hx:=aS.1 hx;{exact⟨g1,U,T⟩};{exact Q x hx}}
  ·have e:E++lT (c::L)=E++ [(c.a,c.pa,c.m),(c.b,c.pb,c.m)] ++lT L:=by simp[lT]
   rw[e];exact M
structure nG(many:Int)(L:List qM):Prop where
 m:1<=many/\many<=6
 l:L.length<=9
 c:∀c∈L,(1<=c.m/\c.m<=20)/\qN many c.a c.pa=true/\qN many c.b c.pb=true
 nd:(pq (lT L)).Nodup
def xb(h:pz many L=0):nG many L:=by
 unfold pz at h;split at h;{simp at h};split at h;{simp at h};obtain⟨Z,Y⟩:=RG L [] h (by simp[pq]);exact⟨fC,fC,Z,by simpa using Y⟩
def oK {r p:Int} (h:qN many r p=true):1<=r/\r<=many/\0<=p/\p<3:=by
 unfold qN at h;simp only[jo,decide_eq_true_eq]at h;omega
def Uh {x:Int×Int×Int} (h:x∈lT L):∃c∈L,x=(c.a,c.pa,c.m) \/x=(c.b,c.pb,c.m):=by
 unfold lT at h;obtain⟨c,hc,Z⟩:=bh.1 h;exact⟨c,hc,by simpa using Z⟩
def nG.ms(h:nG many L)(i p:Nat):1<=qY L i p/\qY L i p<=20:=by
 unfold qY;cases hl:mM (lT L) ((i:Int)+1) (p:Int)with|none=>exact⟨fF,fF⟩|some m=>obtain⟨c,hc,Z⟩:=Uh (Js hl);have V:=(h.c c hc).1;show 1<=m/\m<=20;obtain Z|Z:=Z;{injection Z with _ Y;injection Y with _ X;rw[X];exact V};{injection Z with _ Y;injection Y with _ X;rw[X];exact V}
def nG.tells(h:nG many L)(m:Nat)(Z:EJ (lT L)):Xu (lT L) m (qY L):=⟨λi p _ _=>⟨rfl,h.ms i p⟩,Z⟩
def vF(L:List qM)(c d:Nat)(hc:c<L.length):(oE L c).e d=if d=0 then((L[c].a-1).toNat,L[c].pa.toNat)else((L[c].b-1).toNat,L[c].pb.toNat):=by
 unfold oE qM.at;simp only[List.getD_eq_getElem?_getD,List.getElem?_eq_getElem hc,Option.getD_some]
def nG.en(h:nG many L)(c d:Nat)(hc:c<L.length):((oE L c).e d).1<many.toNat/\((oE L c).e d).2<3:=by
 rw[vF L c d hc];obtain⟨_,Z,Y⟩:=h.c L[c] (aO hc);have e1:=oK Z;have e2:=oK Y;split;{simp only;omega};simp only;omega
def GG:∀(L:List qM) (c d:Nat) (hc:c<L.length),d<2->(pq (lT L))[2*c+d]? =μ (if d=0 then(L[c].a,L[c].pa)else(L[c].b,L[c].pb))
 |x::L,0,d,_,hd=>by
  have:d=0 \/d=1:=fC;obtain rfl|rfl:=this<;>rfl
 |x::L,c+1,d,hc,hd=>by
  have e:pq (lT (x::L))=[(x.a,x.pa),(x.b,x.pb)] ++pq (lT L):=by simp[pq,lT]
  rw[e,bL (by simp;omega)];have Z:2*(c+1)+d-List.length [(x.a,x.pa),(x.b,x.pb)] =2*c+d:=by simp;omega
  rw[Z];exact GG L c d (by simpa using hc) hd
def Ui {α:Type} {l:List α} (h:l.Nodup) {j:Nat} (hi:i<l.length)(Y:j<l.length)(e:l[i] =l[j]):i=j:=by
 have X:=eA.1 h;obtain Z|Z|Z:=Nat.lt_trichotomy i j;{exact absurd e (X i j hi Y Z)};{exact Z};exact absurd e.symm (X j i Y hi Z)
def nG.ds(h:nG many L)(c d c' d':Nat)(hc:c<L.length)(hd:d<2)(V:c'<L.length)(M:d'<2)(Z:(oE L c).e d=(oE L c').e d'):c=c'/\d=d':=by
 have k1:=GG L c d hc hd;have k2:=GG L c' d' V M;rw[vF L c d hc,vF L c' d' V]at Z;obtain⟨_,S,Q⟩:=h.c L[c] (aO hc);obtain⟨_,b1,b2⟩:=h.c L[c'] (aO V);have e1:=oK S;have e2:=oK Q;have e3:=oK b1;have e4:=oK b2
 have J:(if d=0 then(L[c].a,L[c].pa)else(L[c].b,L[c].pb))=(if d'=0 then(L[c'].a,L[c'].pa)else(L[c'].b,L[c'].pb)):=by
  by_cases X:d=0;{by_cases Y:d'=0;{rw[ag X,ag Y]at Z⊢;injection Z with U T;rw[show L[c].a=L[c'].a by omega,show L[c].pa=L[c'].pa by omega]};rw[ag X,af Y]at Z⊢;injection Z with U T;rw[show L[c].a=L[c'].b by omega,show L[c].pa=L[c'].pb by omega]};by_cases Y:d'=0;{rw[af X,ag Y]at Z⊢;injection Z with U T;rw[show L[c].b=L[c'].a by omega,show L[c].pb=L[c'].pa by omega]};rw[af X,af Y]at Z⊢;injection Z with U T;rw[show L[c].b=L[c'].b by omega,show L[c].pb=L[c'].pb by omega]
 rw[J]at k1;obtain⟨l1,v1⟩:=aT.1 k1;obtain⟨l2,v2⟩:=aT.1 k2;have:=Ui h.nd l1 l2 (v1.trans v2.symm);omega
def Bz(h:nG many L):ll (la many.toNat L) 0 0:=by
 have hm:=h.m;refine⟨by show 1<=many.toNat;omega,by show many.toNat<=6;omega,h.l,λc d hc _=>h.en c d hc,λc d c' d' hc hd Z Y e=>h.ds c d c' d' hc hd Z Y e,λi p _ _=>h.ms i p,λi _=>⟨rfl,rfl⟩,λi hi=> ?_,λ_ _=>⟨aZ _,aZ _⟩,λ_ _ _ _=>aw _,λ_ _=>aj _,λi p _ _ _=>sU _ _ p,λ_ _=>⟨aj _,λ_ _=>aw _⟩⟩;have mR:i<many.toNat:=hi;exact Bt fC (λp _=>h.ms i p)
def Row.spare {sz n':Nat} {xs:List fB} (h:Row w sz (σ (μ ⟨g,0,ν⟩) n' cap) n xs)(j:Nat)(X:j<n*sz):w.frozen? ⟨g,j,ν⟩=false:=by
 obtain⟨e,_⟩|⟨g',kE,e,_,Z,_,_,Y⟩:=h.2;{simp at e};simp at e;obtain⟨rfl,rfl,rfl⟩:=e;exact(Y j (aq X (dH sz Z))).2
def afa(g:Option Nat)(n c:Nat):fB:=match g with|none=>.slice none 0 0|some g=>.slice (some ⟨g,0,none⟩) n c
def GF.done {N gI bM:Nat} {v2:fB} {lo hi:Nat->Nat} (jR:nG many L)(hE:EJ (lT L))(h:GF w W N gI bM many.toNat (lT L) (qY L) many.toNat L.length L v v2 P lo hi)(hw:0<w.heap.size)(X:Nat->Prop)(hX:∀b,X b->b<w.heap.size):
 ∃y,kL W y (la many.toNat L)/\y.N=N/\(∀b,y.all many.toNat b->w.heap.size<=b)/\∀b,y.ext b↔X b:=by
  have hm:=jR.m;obtain⟨m,Tv⟩:=fH (many.toNat);have xP:1<=m/\m<=6:=fC;have B6:=λc d (hc:c<L.length) (_:d<2)=>jR.en c d hc;rw[Tv]at h B6⊢
  have hgR:∃gR vQ,v=σ (μ ⟨gR,0,ν⟩) m vQ:=by
   obtain⟨_,e2⟩|⟨g,c,e,_⟩:=h.row.2;{omega};exact⟨g,c,e⟩
  obtain⟨gR,vQ,rfl⟩:=hgR
  have hgC:∃gC yj,v2=afa gC L.length yj/\(gC=ν->L.length=0):=by
   obtain⟨e,e2⟩|⟨g,c,e,_⟩:=h.IE.2;{exact⟨ν,0,e,λ_=>e2⟩};exact⟨μ g,c,e,λe=>by simp at e⟩
  obtain⟨gC,yj,rfl,H4⟩:=hgC
  have hex:∀i,∃z:Zt,i<m->z.R=P i/\n9 W z (kZ ((i:Int)+1) 3 (qY L i))/\(∀b,z.qF b->lo i<=b/\b<hi i)/\∀b,(b<lo i \/(hi i<=b/\b<W.heap.size))->z.fm.no b:=λi=>by
   by_cases V:i<m;{obtain⟨z,Y,Z,S,_,_,h6⟩:=h.ZS i V;exact⟨z,λ_=>⟨Y,Z,S,h6⟩⟩};obtain⟨z,_⟩:=h.ZS 0 fC;exact⟨z,λe=>absurd e V⟩
  obtain⟨z,A⟩:=Classical.skolem.1 hex
  have hhi:∀i<m,lo i<=hi i/\hi i<=W.heap.size:=λi V=>by
   obtain⟨_,_,_,_,U,h5,_⟩:=h.ZS i V;exact⟨U,h5⟩
  obtain⟨y,hy⟩:∃y:Yt,y={N:=N,gR:=gR,vQ:=vQ,gI:=gI,Am:=m,gC:=gC,yj:=yj,bM:=bM,z:=z,iv:=λ_=>σ ν 0 0,ov:=λ_ _=>σ ν 0 0,ext:=X}:=⟨_,rfl⟩
  have hvR:fD (σ (μ ⟨gR,0,ν⟩) m vQ)=μ gR:=rfl;have G:∀g,gC=μ g->fD (afa gC L.length yj)=μ g:=λg e=>by subst e;rfl
  have hat:∀l k,y.at l=μ k->(l=.N/\k=N) \/(l=.R/\k=gR) \/(l=.I/\k=gI) \/(l=.C/\gC=μ k):=λl k e=>by
   rw[hy]at e;cases l with|N=>exact .inl ⟨rfl,(aL e).symm⟩|R=>exact .inr (.inl ⟨rfl,(aL e).symm⟩)|I=>exact .inr (.inr (.inl ⟨rfl,(aL e).symm⟩))|C=>exact .inr (.inr (.inr ⟨rfl,e⟩))|ib i=>simp[Yt.at,fD]at e|on c d=>simp[Yt.at,fD]at e
  have ku:∀k,y.own k->(k=N \/k=gR \/k=gI \/gC=μ k):=λk ⟨l,e⟩=>by
   obtain⟨_,e⟩|⟨_,e⟩|⟨_,e⟩|⟨_,e⟩:=hat l k e;{exact .inl e};{exact .inr (.inl e)};{exact .inr (.inr (.inl e))};exact .inr (.inr (.inr e))
  have D:=h.fv gR hvR
  have T:∀k,gC=μ k->w.heap.size<=k/\k≠N/\k≠gI/\k≠bM/\gR≠k:=λk e=>by
   obtain⟨a1,a2,a3,a4,a5⟩:=h.Nm k (G k e);exact⟨a1,a2,a3,a4,λe1=>a5 (by rw[<-e1];rfl)⟩
  have P5:∀k,y.own k->w.heap.size<=k:=λk e=>by
   obtain e|e|e|e:=ku k e;{rw[e];exact h.ne.2.2.2.1};{rw[e];exact D.1};{rw[e];exact h.ne.2.2.2.2.1};exact(T k e).1
  have afc:∀k,y.own k->k<W.heap.size:=λk e=>by
   obtain e|e|e|e:=ku k e;{rw[e];exact h.zz};{rw[e];exact h.row.lt gR hvR};{rw[e];exact h.gi.lt};exact h.IE.lt k (G k e)
  have abh:∀k,y.own k->∀i<m,k<lo i \/hi i<=k:=λk e i V=>by
   obtain e|e|e|e:=ku k e;{exact h.out i V k (.inl e)};{exact h.out i V k (.inr (.inr (.inr (.inl (by rw[e];rfl)))))};{exact h.out i V k (.inr (.inl e))};exact h.out i V k (.inr (.inr (.inr (.inr (G k e)))))
  have Q:y.z=z:=by rw[hy]
  have ZT:y.ext=X:=by rw[hy]
  have hwW:=h.ph.size;refine⟨y,⟨xP.1,xP.2,jR.l,?_,?_,?_,?_,?_,?_,?_,?_,?_,?_,λ_ _ _ _=>aw _,B6,?_,?_,?_,?_,?_⟩,by rw[hy],?_,λb=>by rw[ZT]⟩
  ·rw[hy]
   have e:(Yt.cv {N:=N,gR:=gR,vQ:=vQ,gI:=gI,Am:=m,gC:=gC,yj:=yj,bM:=bM,z:=z,iv:=λ_=>σ ν 0 0,ov:=λ_ _=>σ ν 0 0,ext:=X} L.length)=afa gC L.length yj:=by
    rfl
   show j2 W N #[σ (μ ⟨gR,0,ν⟩) m vQ,σ (μ ⟨gI,0,ν⟩) m m,.map (μ bM),Yt.cv _ L.length] 190;rw[e];exact h.nb
  {intro j H;have J:j<m:=H;rw[hy];show W.cell? ⟨gR,0+j,ν⟩=μ (π (μ ⟨(z j).R,0,ν⟩))/\W.frozen? ⟨gR,0+j,ν⟩=false;rw[aY,(A j J).1];exact⟨Row.cell h.row j _ (Ye P J),Row.spare h.row j fC⟩}
  ·intro j H;have J:j<m:=H;rw[hy];show W.cell? ⟨gI,0+j,ν⟩=μ (σ ν 0 0)/\W.frozen? ⟨gI,0+j,ν⟩=false;rw[aY];have Y:=h.gi.cell j
   have e:(rC m)[j]? =μ (σ ν 0 0):=by
    unfold rC;rw[Array.getElem?_replicate,ag J]
   exact⟨Y.trans e,h.gi.frozen j⟩
  ·intro g hg c hc;have Dc:gC=μ g:=by rw[hy]at hg;exact hg
   subst Dc;have kY:c<L.length:=hc;intro i V;have j0:Row W 7 (σ (μ ⟨g,0,ν⟩) L.length yj) L.length (w7 (L.take L.length)):=h.IE;rw[cM]at j0;refine⟨?_,Row.spare j0 (c*7+i) fC⟩;have Y:=RF L c i kY V
   have Z:[ι .i64 L[c].a,ι κ L[c].pa,ι κ L[c].b,ι κ L[c].pb,.bool false,σ ν 0 0,σ ν 0 0][i]? =μ (Em (oE L c) (y.ov c) i):=by
    obtain⟨_,a1,a2⟩:=jR.c L[c] (aO kY);have e1:=oK a1;have e2:=oK a2;have f0:=vF L c 0 kY;have f1:=vF L c 1 kY;rw[ag rfl]at f0;rw[af fF]at f1;have q1:(((L[c].a-1).toNat:Nat):Int)+1=L[c].a:=fC;have q2:((L[c].pa.toNat:Nat):Int)=L[c].pa:=fC;have q3:(((L[c].b-1).toNat:Nat):Int)+1=L[c].b:=fC;have q4:((L[c].pb.toNat:Nat):Int)=L[c].pb:=fC;have:i=0 \/i=1 \/i=2 \/i=3 \/i=4 \/i=5 \/i=6:=fC;obtain rfl|rfl|rfl|rfl|rfl|rfl|rfl:=this;{show μ _=μ (ι .i64 ((((oE L c).e 0).1:Int)+1));rw[f0,q1]};{show μ _=μ (ι .i64 (((oE L c).e 0).2:Int));rw[f0,q2]};{show μ _=μ (ι .i64 ((((oE L c).e 1).1:Int)+1));rw[f1,q3]};{show μ _=μ (ι .i64 (((oE L c).e 1).2:Int));rw[f1,q4]};{rfl};{rw[hy];rfl};rw[hy];rfl
   rw[Z]at Y;exact Row.cell j0 _ _ Y
  {intro c hc;have kY:c<L.length:=hc;rw[hy];show∃g,gC=μ g;cases hg:gC with|none=>have:=H4 hg;omega|some g=>exact⟨g,rfl⟩};{exact⟨lT L,by rw[hy];exact h.mp,jR.tells m hE⟩};{intro i V;rw[Q];exact(A i V).2.1};{exact λi _=>⟨rfl,rfl⟩};{intro i _;rw[hy];exact Row.nil _ 3};{intro c d _ _;rw[hy];exact Row.nil _ 1};{intro l l' k e e';obtain⟨Y,Z⟩|⟨Y,Z⟩|⟨Y,Z⟩|⟨Y,Z⟩:=hat l k e<;>obtain⟨S,U⟩|⟨S,U⟩|⟨S,U⟩|⟨S,U⟩:=hat l' k e';{rw[Y,S]};{exact absurd (U.symm.trans Z) D.2.1};{exact absurd (Z.symm.trans U) h.ne.1};{exact absurd Z (T k U).2.1};{exact absurd (Z.symm.trans U) D.2.1};{rw[Y,S]};{exact absurd (Z.symm.trans U) D.2.2.1};{exact absurd Z.symm (T k U).2.2.2.2};{exact absurd (U.symm.trans Z) h.ne.1};{exact absurd (U.symm.trans Z) D.2.2.1};{rw[Y,S]};{exact absurd Z (T k U).2.2.1};{exact absurd U (T k Z).2.1};{exact absurd U.symm (T k Z).2.2.2.2};{exact absurd U (T k Z).2.2.1};rw[Y,S]}
  ·intro i V b hb;have M:i<m:=V;obtain⟨_,_,z3,z4⟩:=A i M;rw[Q]
   have aaX:b<lo i \/(hi i<=b/\b<W.heap.size):=by
    obtain e|e|⟨j,H,kf,e⟩:=hb;{have Y:=abh b e i M;have Z:=afc b e;omega};{rw[ZT]at e;have Y:=hX b e;have Z:=h.lw i M;omega};have J:j<m:=H;rw[Q]at e;have Y:=(A j J).2.2.1 b e;have Z:=hhi j J;obtain S|S:=dA kf;{have:=h.sep j i S M;omega};have:=h.sep i j S J;omega
   exact⟨z4 b aaX,λe=>by have:=z3 b (.inl e);omega⟩
  {intro b hb e;rw[ZT]at hb;have Y:=hX b hb;have Z:=P5 b e;omega}
  ·have SS:y.bM=bM:=by rw[hy]
   rw[SS,ZT,Q];refine⟨λe=> ?_,λe=> ?_,λi V e=> ?_⟩;{obtain e|e|e|e:=ku bM e;{exact h.ne.2.1 e.symm};{exact D.2.2.2 e.symm};{exact h.ne.2.2.1 e.symm};exact(T bM e).2.2.2.1 rfl};{have Y:=hX bM e;have Z:=h.ne.2.2.2.2.2;omega};have Y:=(A i V).2.2.1 bM e;have Z:=h.out i V bM (.inr (.inr (.inl rfl)));omega
  {intro e;have:=P5 0 e;omega};intro b e;obtain e|⟨j,H,e⟩:=e;{exact P5 b e};rw[Q]at e;have Y:=(A j H).2.2.1 b e;have Z:=h.lw j H;omega
def afd(W:fA):(jq 75 (ι κ 1) (ι κ 1)).run gg W=.ok (σ (μ ⟨W.heap.size,0,ν⟩) 1 1) (W.alloc (γ (rC 1) 53)):=iV
def afe(W:fA):(jq 75 (ι κ 2) (ι κ 2)).run gg W=.ok (σ (μ ⟨W.heap.size,0,ν⟩) 2 2) (W.alloc (γ (rC 2) 53)):=iV
def aff(W:fA):(jq 75 (ι κ 3) (ι κ 3)).run gg W=.ok (σ (μ ⟨W.heap.size,0,ν⟩) 3 3) (W.alloc (γ (rC 3) 53)):=iV
def afg(W:fA):(jq 75 (ι κ 4) (ι κ 4)).run gg W=.ok (σ (μ ⟨W.heap.size,0,ν⟩) 4 4) (W.alloc (γ (rC 4) 53)):=iV
def afh(W:fA):(jq 75 (ι κ 5) (ι κ 5)).run gg W=.ok (σ (μ ⟨W.heap.size,0,ν⟩) 5 5) (W.alloc (γ (rC 5) 53)):=iV
def afi(W:fA):(jq 75 (ι κ 6) (ι κ 6)).run gg W=.ok (σ (μ ⟨W.heap.size,0,ν⟩) 6 6) (W.alloc (γ (rC 6) 53)):=iV
def aiJ(p:Nat)(hp:1<=p/\p<=6)(W:fA):(jq 75 (ι κ (p:Int)) (ι κ (p:Int))).run gg W=.ok (σ (μ ⟨W.heap.size,0,ν⟩) p p) (W.alloc (γ (rC p) 53)):=by
 have:p=1 \/p=2 \/p=3 \/p=4 \/p=5 \/p=6:=fC;obtain rfl|rfl|rfl|rfl|rfl|rfl:=this;{exact afd W};{exact afe W};{exact aff W};{exact afg W};{exact afh W};exact afi W
def abk:(gg.info? 26).map (λi=>(i.zero,i.size,i.bytes))=μ (μ (π ν),1,8):=iV
def Uj:(gg.info? 197).map (λi=>(i.zero,i.size,i.bytes))=μ (μ (.agg #[ι κ 0,ι κ 0,ι κ 0,ι κ 0,.bool false,σ ν 0 0,σ ν 0 0]),7,88):=iV
def abl:(gg.info? 81).map (·.size)=μ 5:=iV
def abm(p:Option Addr):∀u∈ [Value.pointer p],u.oneCell'=true:=by simp[Value.oneCell']
def Nn(w:fA)(c:qM)(C:Array fB)(t:TypeId)(g:Nat)(Z:w.heap.size=g)(hC:C.toList=w7 [c] :=by rfl):∀(j:Nat) (u:fB),(w7 [c])[j]? =μ u->(w.alloc (γ C t)).cell? ((⟨g,0,ν⟩:Addr).add j)=μ u:=by
 subst Z;intro j u hu;rw[add_plain,ay,<-hu,<-hC];simp
def Uk(w:fA)(many:Int)(L:List qM)(X:Nat->Prop)(e:Ending)(w':fA):Prop:=
 (pz many L≠0->e=ρ (τ #[π ν,kr (pz many L)]))/\(pz many L=0->∃y,e=ρ (τ #[π (μ ⟨y.N,0,ν⟩),η])/\kL w' y (la many.toNat L)/\(∀b,y.all many.toNat b->w.heap.size<=b)/\∀b,y.ext b↔X b)/\fP w w'
def RH(many:Int)(a:Option Addr)(cap:Nat)(L:List qM)(w:fA)(hL:Bw w a L)(hl:L.length<=1000)(hT:kd w)(X:Nat->Prop)(hX:∀b,X b->b<w.heap.size):
 gb gg 36 #[ι κ many,σ a L.length cap] w λe w'=>Uk w many L X e w':=by
  have hm:=zN many a cap L w hL hl;by_cases h0:pz many L=0
  ·have jR:=xb h0;have hm6:=jR.m;obtain⟨m,Tv⟩:∃m:Nat,many=(m:Int):=⟨many.toNat,fC⟩
   subst Tv;have KJ:((m:Int)).toNat=m:=bI m
   have AP:gb gg 95 #[ι κ (m:Int),σ a L.length cap] w λe w'=>∃b,e=ρ (τ #[.map (μ b),η])/\qw w' b (lT L)/\EJ (lT L)/\w.heap.size<=b/\fP w w':=by
    refine hm.mono ?_;rintro e w1 ⟨_,h2,hb⟩;obtain⟨b,h3,h4,h5,h6⟩:=h2 h0;exact⟨b,h3,h4,h5,h6,hb⟩
   have HL:Hid _:=hL;have Xz:Hid _:=jR;have HT:Hid _:=hT;have H00:Hid _:=h0;obtain⟨i1,xu,anM,anN,anO⟩:=bu abk;obtain⟨i2,Pk,anP,anQ,anR⟩:=bu Uj;obtain⟨n,hn⟩:=fH (L.length);have HN:Hid _:=hn;have hl9:=jR.l;rw[hn]at AP hl9⊢;have xP:1<=m:=fC;have hm6:m<=6:=fC;have hmk:=aiJ m ⟨xP,hm6⟩;clear hm hL jR hT hl h0 hn;go_in;go_wp2_with fail;refine AP.mono ?_;rintro e w1 ⟨bM,rfl,hE,hEO,hbM,lU⟩;have HE:Hid _:=hE;have HEO:Hid _:=hEO;have Dl:Hid _:=lU;clear AP hE hEO lU;go_wp2_with fail;have H5:(w1.alloc (γ (rC m) 53)).heap.size=w1.heap.size+1:=gZ;obtain⟨W2,oW⟩:=fH ((w1.alloc (γ (rC m) 53)).alloc (γ #[σ ν 0 0,σ (μ ⟨w1.heap.size,0,ν⟩) m m,.map (μ bM),σ ν 0 0] 190));have KE:fP w1 W2:=by rw[<-oW];exact(gu _ _).alloc gZ _
   have MT:GF w W2 (w1.heap.size+1) w1.heap.size bM m (lT L) (qY L) 0 0 L (σ ν 0 0) (σ ν 0 0) (λ_=>0) (λ_=>0) (λ_=>0):=by
    have Fb:=Dl.out.size
    have rS:bM<w1.heap.size:=by
     obtain⟨es,clock,h1,_⟩:=HE.out;exact(aE.1 h1).1
    refine⟨fQ Dl.out KE,?_,?_,qw.keep HE.out (KE.block bM rS),Row.nil _ _,Row.nil _ _,⟨fC,fC,fC,fC,fC,hbM⟩,λk e=>by simp[fD]at e,λk e=>by simp[fD]at e,λi hi=>fC,λi hi=>fC,λi k _ hk=>fC,λi hi=>fC⟩
    ·have h1:j2 W2 ((w1.alloc (γ (rC m) 53)).heap.size) #[σ ν 0 0,σ (μ ⟨w1.heap.size,0,ν⟩) m m,.map (μ bM),σ ν 0 0] 190:=by rw[<-oW];exact j2.new _ _ _
     rw[H5]at h1;exact h1
    have h1:j2 (w1.alloc (γ (rC m) 53)) w1.heap.size (rC m) 53:=j2.new w1 _ _;rw[<-oW];exact h1.below (gu _ _)
   obtain⟨N,ZR⟩:=fH (w1.heap.size+1);obtain⟨gI,hgI⟩:=fH (w1.heap.size);rw[ZR,hgI]at MT;have HM0:Hid _:=MT;have WY:Hid _:=oW;have HNe:Hid _:=ZR;have HgI:Hid _:=hgI;clear oW KE MT ZR hgI H5;rw[WY.out];(try rw[HNe.out]);(try rw[HgI.out]);go_loopw [29] (λx wr=>∃(q:Nat) (v:fB) (P lo hi:Nat->Nat),q<=m/\x=ι κ q/\GF w wr N gI bM m (lT L) (qY L) q 0 L v (σ ν 0 0) P lo hi) (λx _=>m-(gj x).toNat);(case atStart=>exact⟨0,_,_,_,_,aw _,rfl,HM0.out⟩)
   case round=>
    obtain⟨q,v,P,lo,hi,hq,rfl,J⟩:=hrel;obtain⟨V,rfl⟩:∃V,V=wr:=⟨_,rfl⟩
    by_cases lZ:q<m
    ·have pE:(q:Int)<(m:Int):=fC;have ZE:κ.wrap ((q:Int)+1)=(q:Int)+1:=bg _ ⟨fC,fC⟩;have N4:=zM N bM q (lT L) (qY L q) V (J.nb.cell 2) J.mp HEO.out fC (λp _=>⟨rfl,Xz.out.ms q p⟩) (kd.below (w:=w) HT.out J.ph) (λb=>b<V.heap.size) (λb e=>e);have HM:Hid _:=J;clear J;go_wp2_with fail;refine N4.mono ?_;rintro e w3 ⟨z,rfl,oR,uA,Ob,hz4,hz5,hz6⟩;have A:=HM.out.below uA;have c0:w3.cell? ⟨N,0,ν⟩=μ v:=A.nb.cell 0;have Nl:=A.zz;have j0:=A.row;have HZ:Hid (n9 w3 z (kZ ((q:Int)+1) 3 (qY L q))/\fP V w3/\(∀b,z.qF b->V.heap.size<=b)/\∀b<V.heap.size,z.fm.no b):=by
      refine⟨oR,uA,λb hb=> ?_,hz6⟩;obtain e|e|e:=hb;{exact Ob b e};{rw[e];exact hz4};{exact hz5 b e}
     have HM3:Hid _:=A;clear N4 oR uA Ob hz4 hz5 hz6 A;go_wp2_with(at_builtin;go_must(refine jN _ rfl (.tmp 46) (.tmp 48) 187 rfl 26 i1 (π ν) 1 8 underlying187 xu anM anN anO rfl fF v q (yy P q) rfl (j0.alloc _) _ 1 1 [π (μ ⟨z.R,0,ν⟩)] rfl rfl fF (sL _ _ _) (abm _) (by unfold maxLen;omega) fC ?_));intro g' kE w4 hr4 hg4 ho4;have hNv:v.ownBlock≠μ N:=λe=>(HM3.out.fv N e).2.1 rfl;have N9:j2 w4 N #[v,σ (μ ⟨gI,0,ν⟩) m m,.map (μ bM),σ ν 0 0] 190:=HM3.out.nb.keep ((hg4.block N (by simp;have:=HM3.out.zz;omega) (λe=>hNv e.symm)).trans (bk _ _ _ HM3.out.zz));have c4:w4.cell? ⟨N,0,ν⟩=μ v:=N9.cell 0;have f4:=N9.frozen 0;have l4:=N9.lt;have HAdd:Hid (GF w (w4.setCell ⟨N,0,ν⟩ (σ (μ ⟨g',0,ν⟩) (q+1) kE)) N gI bM m (lT L) (qY L) (q+1) 0 L (σ (μ ⟨g',0,ν⟩) (q+1) kE) (σ ν 0 0) (kK P q z.R) (kK lo q V.heap.size) (kK hi q w3.heap.size)):=by
      obtain⟨a1,a2,a3,a4⟩:=HZ.out;refine GF.Gh HM.out a1 a2 a3 a4 hr4 hg4 (λk hk=> ?_);have AX:g'=k:=by simpa[fD]using hk
      subst AX;obtain e|e:=ho4;{exact .inl e};{right;have:(w3.alloc (γ #[π (μ ⟨z.R,0,ν⟩)] 26)).heap.size=w3.heap.size+1:=gZ;omega}
     clear hr4 hg4 ho4 N9 hNv j0 c0 Nl
     go_wp2
     go_roundw
     case rel=>exact⟨q+1,_,_,_,_,fC,by go_num,HAdd.out⟩
     case measure=>simp[gj];omega
    ·have zD:¬(q:Int)<(m:Int):=fC;obtain rfl:q=m:=fC;have HMq:Hid _:=J;clear J
     go_wp2
     go_loopw [55] (λx wr=>∃(j:Nat) (v2:fB),j<=n/\x=ι κ j/\GF w wr N gI bM q (lT L) (qY L) q j L v v2 P lo hi) (λx _=>n-(gj x).toNat)
     case atStart=>exact⟨0,_,aw _,rfl,HMq.out⟩
     case round=>
     obtain⟨j,v2,hj,rfl,J⟩:=hrel;obtain⟨D,rfl⟩:∃D,D=wr:=⟨_,rfl⟩
     by_cases hjl:j<n
     ·have anq:(j:Int)<(n:Int):=fC;have Aj:(0:Int)<=(j:Int):=fC;have hjL:j<L.length:=by rw[HN.out];exact hjl
      obtain⟨b,off,rfl,k0,k1,k2,k3,k4⟩:=Bw.below (w:=w) HL.out J.ph j hjL;have bl:=ai _ _ k0;have HTk:Hid (L.take (j+1)=L.take j++ [L[j]]):=by
       show _=_;rw[aJ hjL]
      generalize L[j] =c at k0 k1 k2 k3 k4 HTk;obtain⟨ca,T,U,Q,cm⟩:=c;have lU:=gu D (γ #[ι κ ca,ι κ T,ι κ U,ι κ Q,ι κ cm] 81);have P2:j2 (D.alloc (γ #[ι κ ca,ι κ T,ι κ U,ι κ Q,ι κ cm] 81)) D.heap.size #[ι κ ca,ι κ T,ι κ U,ι κ Q,ι κ cm] 81:=j2.new D _ _;obtain⟨W1,lK⟩:=fH (D.alloc (γ #[ι κ ca,ι κ T,ι κ U,ι κ Q,ι κ cm] 81));obtain⟨Y,hY⟩:=fH (D.heap.size);have hMW:=J.below lU;have HYo:Hid (v2.ownBlock≠μ Y):=λe=>by have:=J.IE.lt Y e;omega
      have HYN:Hid (Y≠N):=λe=>by have:=J.zz;omega
      rw[lK]at P2 hMW;rw[hY]at P2;have HM:Hid _:=hMW;have hV0:j2 W1.drew Y #[ι κ ca,ι κ T,ι κ U,ι κ Q,ι κ cm] 81:=P2.drew;have c3a:W1.drew.cell? ⟨N,3,ν⟩=μ v2:=hMW.nb.cell 3;have Nl0:N<W1.drew.heap.size:=hMW.zz;have lz:∀G:fA,j2 G Y #[ι κ ca,ι κ T,ι κ U,ι κ Q,ι κ cm] 81->(iH 81 (π (μ ⟨Y,0,ν⟩))).run gg G=.ok (.agg #[ι κ ca,ι κ T,ι κ U,ι κ Q,ι κ cm]) G:=λG hS=>by
       simp only[iH,Instr.sureAddr,Sem.run_bind,Sem.run_pure,Result.andThen];exact cA G Y 81 81 _ (0,0) _ hS underlying81 rfl abl
      have Bx:=Gz ca T U Q cm W1.drew;have LC:Hid _:=lK;have HY:Hid _:=hY;clear J hMW lU P2 lK hY;go_wp2_with fail;rw[LC.out]
      try rw[HY.out]
      refine cR (S:=λx=>j2 x Y #[ι κ ca,ι κ T,ι κ U,ι κ Q,ι κ cm] 81) iV hV0 (λhHeld=> ?_);refine mU 0 (μ 59) (v:= ?_) ?_ j9 ?_
      rotate_left
      ·intro G rA
       go_simp
       try with_reducible rfl
      go_frame
      refine mU 1 (μ 60) (v:= ?_) ?_ j9 ?_
      rotate_left
      ·intro G rA
       go_simp
       try with_reducible rfl
      go_frame
      refine mU 2 (μ 61) (v:= ?_) ?_ j9 ?_
      rotate_left
      ·intro G rA
       go_simp
       try with_reducible rfl
      go_frame
      refine mU 3 (μ 62) (v:= ?_) ?_ j9 ?_
      rotate_left
      ·intro G rA
       go_simp
       try with_reducible rfl
      go_frame
      refine Pm 5 (μ 64) rfl rfl iV iV iV (λ_ _ _ h=>h) (by rfl) (v:=.agg #[ι κ ca,ι κ T,ι κ U,ι κ Q,ι κ cm]) ?_ j9 ?_;{intro G rA;have h7:=lz G rA;simp[execOp,Act.eval,h7]}
      go_frame
      refine a8 (rs:=[4,6]) iV gZ ?_;refine aP (o:=_) rfl (λK Z=> ?_) (aP (o:=_) rfl (λK Z=> ?_) aX)
      focus
       go_simp
       (try go_wp2_with fail)
       refine Z.out _ _ (by exact hV0) (λhHeld=> ?_);clear Z K;refine a8 (rs:=[6]) iV gZ ?_;refine aP (o:=_) rfl (λK Z=> ?_) aX
       go_simp
       refine Bx.mono ?_;rintro e w1 ⟨rfl,be⟩;have tC:=HM.out.below (fQ (j4 _) be);have M:=hV0.below be;have c3b:w1.cell? ⟨N,3,ν⟩=μ v2:=tC.nb.cell 3;have Nl1:=tC.zz
       (try go_wp2_with fail)
       refine Z.out _ _ (by exact M) (λhHeld=> ?_);clear Z K;refine mU 7 (μ 66) (v:= ?_) ?_ j9 ?_
       rotate_left
       ·intro G rA
        go_simp
        try with_reducible rfl
       go_frame
       refine a8 (rs:=[8]) iV gZ ?_;refine aP (o:=_) rfl (λK Z=> ?_) aX
       go_simp
       have TY:=j2.below M (gu w1 (γ #[ι κ ca,ι κ T,ι κ U,ι κ Q,.bool false,σ ν 0 0,σ ν 0 0] 197));have H:=tC.below (gu w1 (γ #[ι κ ca,ι κ T,ι κ U,ι κ Q,.bool false,σ ν 0 0,σ ν 0 0] 197));have c3c:(w1.alloc (γ #[ι κ ca,ι κ T,ι κ U,ι κ Q,.bool false,σ ν 0 0,σ ν 0 0] 197)).cell? ⟨N,3,ν⟩=μ v2:=H.nb.cell 3;have Nl2:=H.zz
       (try go_wp2_with fail)
       refine Z.out _ _ (by exact TY) (λhHeld=> ?_);clear Z K
      rotate_left
      focus
       go_simp
       refine Bx.mono ?_;rintro e w1 ⟨rfl,be⟩;have tC:=HM.out.below (fQ (j4 _) be);have M:=hV0.below be;have c3b:w1.cell? ⟨N,3,ν⟩=μ v2:=tC.nb.cell 3;have Nl1:=tC.zz
       (try go_wp2_with fail)
       refine Z.out _ _ (by exact M) (λhHeld=> ?_);clear Z K;refine mU 7 (μ 66) (v:= ?_) ?_ j9 ?_
       rotate_left
       ·intro G rA
        go_simp
        try with_reducible rfl
       go_frame
       refine a8 (rs:=[4,8]) iV gZ ?_;refine aP (o:=_) rfl (λK Z=> ?_) (aP (o:=_) rfl (λK Z=> ?_) aX)
       focus
        go_simp
        (try go_wp2_with fail)
        refine Z.out _ _ (by exact M) (λhHeld=> ?_);clear Z K;refine a8 (rs:=[8]) iV gZ ?_;refine aP (o:=_) rfl (λK Z=> ?_) aX
        go_simp
        have TY:=j2.below M (gu w1 (γ #[ι κ ca,ι κ T,ι κ U,ι κ Q,.bool false,σ ν 0 0,σ ν 0 0] 197));have H:=tC.below (gu w1 (γ #[ι κ ca,ι κ T,ι κ U,ι κ Q,.bool false,σ ν 0 0,σ ν 0 0] 197));have c3c:(w1.alloc (γ #[ι κ ca,ι κ T,ι κ U,ι κ Q,.bool false,σ ν 0 0,σ ν 0 0] 197)).cell? ⟨N,3,ν⟩=μ v2:=H.nb.cell 3;have Nl2:=H.zz
        (try go_wp2_with fail)
        refine Z.out _ _ (by exact TY) (λhHeld=> ?_);clear Z K
       rotate_left
       go_simp
       have TY:=j2.below M (gu w1 (γ #[ι κ ca,ι κ T,ι κ U,ι κ Q,.bool false,σ ν 0 0,σ ν 0 0] 197));have H:=tC.below (gu w1 (γ #[ι κ ca,ι κ T,ι κ U,ι κ Q,.bool false,σ ν 0 0,σ ν 0 0] 197));have c3c:(w1.alloc (γ #[ι κ ca,ι κ T,ι κ U,ι κ Q,.bool false,σ ν 0 0,σ ν 0 0] 197)).cell? ⟨N,3,ν⟩=μ v2:=H.nb.cell 3;have Nl2:=H.zz
       (try go_wp2_with fail)
       refine Z.out _ _ (by exact TY) (λhHeld=> ?_);clear Z K;refine a8 (rs:=[4]) iV gZ ?_;refine aP (o:=_) rfl (λK Z=> ?_) aX
       go_simp
       (try go_wp2_with fail)
       refine Z.out _ _ (by exact TY) (λhHeld=> ?_);clear Z K
      all_goals
       refine a8 (rs:=[9]) iV gZ ?_;refine aP (o:=_) rfl (λK Z=> ?_) aX;refine nN (by rfl) (.tmp 63) (.tmp 67) 188 (by rfl) 197 i2 (.agg #[ι κ 0,ι κ 0,ι κ 0,ι κ 0,.bool false,σ ν 0 0,σ ν 0 0]) 7 88 underlying188 Pk anP anQ anR (by rfl) fF v2 j (w7 (L.take j)) (by rfl) H.IE _ 1 1 (w7 [⟨ca,T,U,Q,cm⟩]) (by rfl) (by rfl) fF (Nn _ _ _ _ _ rfl) (Yd _) (by unfold maxLen;omega) fC ?_;intro g' kE x1 mQ mb kO;have Et:j2 x1 N _ 190:=H.nb.keep (mb.block N H.zz (λe=>(H.Nm N e.symm).2.1 rfl));have hV3:j2 x1 Y _ 81:=TY.keep (mb.block Y TY.lt (λe=>HYo.out e.symm));have c3d:x1.cell? ⟨N,3,ν⟩=μ v2:=Et.cell 3;have f3d:=Et.frozen 3;have Nl3:=Et.lt;refine Z.out _ _ (by exact hV3) (λhHeld=> ?_);clear Z K;refine mU 10 (μ 69) (v:= ?_) ?_ j9 ?_
       rotate_left
       ·intro G rA
        go_simp
        try with_reducible rfl
       simp only[Act.put,List.setIfInBounds_toArray];refine mU 11 (μ 70) (v:= ?_) ?_ j9 ?_
       rotate_left
       ·intro G rA
        go_simp
        try with_reducible rfl
       simp only[Act.put];refine a8 (rs:=[12]) iV gZ ?_;refine aP (o:=_) rfl (λK Z=> ?_) aX
       go_simp
       (try go_wp2_with fail)
       refine Z.out _ _ (by exact hV3.other HYN.out _) (λhHeld=> ?_);clear Z K;refine dk iV ?_ _;have HAdd:Hid _:=GF.Rv H (c:=⟨ca,T,U,Q,cm⟩) HTk.out mQ mb (λk hk=>by
        have AX:g'=k:=by simpa[fD]using hk
        subst AX;exact kO)
       clear mQ mb kO Et hV3 c3d f3d Nl3 tC H M TY
       go_wp2
       go_roundw
       case rel=>exact⟨j+1,_,fC,by go_num,HAdd.out⟩
       case measure=>simp[gj];omega
     ·have ae2:¬(j:Int)<(n:Int):=fC;obtain rfl:j=n:=fC;have vj:∃y,kL D y (la ((q:Int)).toNat L)/\y.N=N/\(∀b,y.all ((q:Int)).toNat b->w.heap.size<=b)/\∀b,y.ext b↔X b:=by
       have H:GF w D N gI bM ((q:Int)).toNat (lT L) (qY L) ((q:Int)).toNat L.length L v v2 P lo hi:=by
        rw[KJ,HN.out];exact J
       exact GF.done (w:=w) (many:=(q:Int)) Xz.out HEO.out H (kd.lt (w:=w) HT.out) X hX
      have HF:Hid (Uk w (q:Int) L X (ρ (τ #[π (μ ⟨N,0,ν⟩),η])) D):=by
       obtain⟨y,y1,y2,y3,y4⟩:=vj;exact⟨λe=>absurd H00.out e,λ_=>⟨y,by rw[y2],y1,y3,y4⟩,J.ph⟩
      clear J vj
      go_wp2
      go_ret2
      exact HF.out
  have AP:gb gg 95 #[ι κ many,σ a L.length cap] w λe w'=>e=ρ (τ #[.map ν,kr (pz many L)])/\fP w w':=by
   refine hm.mono ?_;rintro e w1 ⟨h1,_,hb⟩;exact⟨h1 h0,hb⟩
  have ee:kr (pz many L)=.iface 128 (ι κ ((pz many L:Nat):Int)):=by simp only[kr];rw[af h0]
  have HE:Hid _:=ee;have H0:Hid _:=h0;rw[ee]at AP;generalize L.length=n at AP⊢;clear hm hL hT ee h0;go_in;go_wp2_with fail;refine AP.mono ?_;rintro e w1 ⟨rfl,hb⟩;have HB:Hid _:=hb;clear AP hb;go_wp2;go_ret2;exact⟨λ_=>by rw[HE.out];rfl,λe=>absurd e H0.out,HB.out⟩
def uv(y:jQ)(v:AV):jQ:=
 if(v.kind.toList==[112,108,117,103])=true then(y.jT v.a (v.b==1)).1
 else if(v.kind.toList==[116,105,99,107])=true then(y.tick v.a).1
 else if(v.kind.toList==[100,101,108,105,118,101,114])=true then(y.j7 v.a v.b v.c).1
 else if(v.kind.toList==[114,101,115,116,97,114,116])=true then(y.restart v.a).1
 else if(v.kind.toList==[115,101,110,100])=true then(y.send v.a v.b v.s.data.toList).1
 else if(v.kind.toList==[114,111,117,110,100])=true then y.round
 else y
def Ul(y:jQ)(i:Int)(up:Bool):(y.jT i up).1.n=y.n/\(y.jT i up).1.nc=y.nc/\(y.jT i up).1.ms=y.ms/\∀x,((y.jT i up).1.C x).e=(y.C x).e:=by
 unfold jQ.jT;split;{exact⟨rfl,rfl,rfl,λ_=>rfl⟩};split;{exact⟨rfl,rfl,rfl,λ_=>rfl⟩};obtain⟨g1,Z,Y,X⟩:=mB (y.lD i.toNat up);obtain⟨V,U,p3,_,T⟩:=rB y i.toNat up;exact⟨g1.trans V,Z.trans U,Y.trans p3,λx=>(X x).1.trans (T x).1⟩
def KS(y:jQ)(i:Int):(y.restart i).1.n=y.n/\(y.restart i).1.nc=y.nc/\(y.restart i).1.ms=y.ms/\∀x,((y.restart i).1.C x).e=(y.C x).e:=by
 unfold jQ.restart;split;{exact⟨rfl,rfl,rfl,λ_=>rfl⟩};obtain⟨Z,Y,X,_,V⟩:=oU false (y.nt (i-1).toNat) y;obtain⟨b1,b2,b3,_,b5⟩:=oU true (y.nt (i-1).toNat) ((y.kX false (y.nt (i-1).toNat)).kG (i-1).toNat (kZ i 3 (y.ms (i-1).toNat)));obtain⟨g1,U,T,S⟩:=mB (((y.kX false (y.nt (i-1).toNat)).kG (i-1).toNat (kZ i 3 (y.ms (i-1).toNat))).kX true (y.nt (i-1).toNat));exact⟨g1.trans (b1.trans Z),U.trans (b2.trans Y),T.trans (b3.trans X),λx=>(S x).1.trans ((b5 x).trans (V x))⟩
def CP(y:jQ)(f t:Int)(tx:List UInt8):(y.send f t tx).1.n=y.n/\(y.send f t tx).1.nc=y.nc/\(y.send f t tx).1.ms=y.ms/\∀x,((y.send f t tx).1.C x).e=(y.C x).e:=by
 unfold jQ.send;split;{exact⟨rfl,rfl,rfl,λ_=>rfl⟩};split;{exact⟨rfl,rfl,rfl,λ_=>rfl⟩};obtain⟨g1,Z,Y,X⟩:=mB (y.kG (f-1).toNat (lF (y.R (f-1).toNat) t tx).1);exact⟨g1,Z,Y,λx=>(X x).1⟩
def Um(y:jQ)(v:AV):(uv y v).n=y.n/\(uv y v).nc=y.nc/\(uv y v).ms=y.ms/\∀x,((uv y v).C x).e=(y.C x).e:=by
 unfold uv;split;{exact Ul _ _ _};split;{obtain⟨a,b,c,d⟩:=JD y v.a;exact⟨a,b,c,λx=>(d x).1⟩};split;{obtain⟨a,b,c,d⟩:=oN y v.a v.b v.c;exact⟨a,b,c,λx=>(d x).1⟩};split;{exact KS _ _};split;{exact CP _ _ _ _};split;{obtain⟨a,b,c,d⟩:=mC y;exact⟨a,b,c,λx=>(d x).1⟩};exact⟨rfl,rfl,rfl,λ_=>rfl⟩
def ll.act {y:jQ} {D:Nat} (h:ll y D 0)(Z:D<=800000000)(v:AV):ll (uv y v) (D+1300000) 0:=by
 unfold uv;split;{exact(h.jT fC _ _).mono fC (aj _)};split;{exact(h.tick fC _).mono fC (aj _)};split;{exact(h.j7 fC _ _ _).mono fC (aj _)};split;{exact(h.restart fC _).mono fC (aj _)};split;{exact(h.send fC _ _ _).mono fC (aj _)};split;{exact h.round Z};exact h.mono fC (aj _)
def kL.from {n n':jQ} {f:FuncId} {args:Array fB} {ev:fB} (Z:fP w W)(hc:gb gg f args W λe w'=>e=ρ ev/\jH W w' y n' n.n):gb gg f args W λe w'=>(∃v,e=ρ v)/\jH w w' y n' n.n:=by
 refine hc.mono ?_;rintro e w' ⟨rfl,hw⟩;exact⟨⟨_,rfl⟩,jH.first Z hw⟩
def Ey(y:Yt)(n:jQ)(D:Nat)(v:AV)(w:fA)(h:kL w y n)(hT:kd w)(jR:ll n D 0)(hD:D<=800000000):
 gb gg 59 #[π (μ ⟨y.N,0,ν⟩),.agg #[.string v.kind,ι κ v.a,ι κ v.b,ι κ v.c,ι κ v.d,.string v.s,ι κ v.Q7,ι κ v.pid,σ v.po v.pn v.FA,ι κ v.x.own,ι κ v.x.seq,σ v.x.a v.x.n v.x.cap]] w λe w'=>e=ρ (τ #[])/\jH w w' y (uv n v) n.n:=by
  obtain⟨Z,U,Q,vc,vd,vs,J,H,A,ZA,Dk,⟨xo,xq,xa,xn,xc⟩⟩:=v;have M:=gu w (γ #[.string Z,ι κ U,ι κ Q,ι κ vc,ι κ vd,.string vs,ι κ J,ι κ H,σ A ZA Dk,ι κ xo,ι κ xq,σ xa xn xc] 42);have hB:j2 (w.alloc (γ #[.string Z,ι κ U,ι κ Q,ι κ vc,ι κ vd,.string vs,ι κ J,ι κ H,σ A ZA Dk,ι κ xo,ι κ xq,σ xa xn xc] 42)) w.heap.size #[.string Z,ι κ U,ι κ Q,ι κ vc,ι κ vd,.string vs,ι κ J,ι κ H,σ A ZA Dk,ι κ xo,ι κ xq,σ xa xn xc] 42:=j2.new w _ _;obtain⟨T,pF⟩:=fH (w.alloc (γ #[.string Z,ι κ U,ι κ Q,ι κ vc,ι κ vd,.string vs,ι κ J,ι κ H,σ A ZA Dk,ι κ xo,ι κ xq,σ xa xn xc] 42));obtain⟨X,hX⟩:=fH (w.heap.size);rw[pF]at M hB;rw[hX]at hB;have R0:=h.below M;have T0:kd T:=kd.below (w:=w) hT M;have c0:T.cell? ⟨X,0,ν⟩=μ (.string Z):=hB.cell 0;have c1:T.cell? ⟨X,1,ν⟩=μ (ι κ U):=hB.cell 1;have c2:T.cell? ⟨X,2,ν⟩=μ (ι κ Q):=hB.cell 2;have c3:T.cell? ⟨X,3,ν⟩=μ (ι κ vc):=hB.cell 3;have c5:T.cell? ⟨X,5,ν⟩=μ (.string vs):=hB.cell 5;have xl:=hB.lt;have IA:Hid _:=pF;have HX:Hid _:=hX;have q1:=kL.from M (Nb y n D U (Q==1) T R0 T0 jR fC);have q2:=kL.from M (M7 y n D U T R0 T0 jR fC);have q3:=kL.from M (DG y n D U Q vc T R0 T0 jR fC);have q4:=kL.from M (Nh y n D U T R0 T0 jR fC);have q5:=kL.from M (M8 y n D U Q vs T R0 jR fC);have q6:=kL.from M (CM y n D T R0 T0 jR hD);have q7:jH w T y n n.n:=jH.still h M;obtain⟨G,hG⟩:=fH (uv n ⟨Z,U,Q,vc,vd,vs,J,H,A,ZA,Dk,⟨xo,xq,xa,xn,xc⟩⟩);rw[hG]
  have HG:Hid (G=if(Z.toList==[112,108,117,103])=true then(n.jT U (Q==1)).1
   else if(Z.toList==[116,105,99,107])=true then(n.tick U).1
   else if(Z.toList==[100,101,108,105,118,101,114])=true then(n.j7 U Q vc).1
   else if(Z.toList==[114,101,115,116,97,114,116])=true then(n.restart U).1
   else if(Z.toList==[115,101,110,100])=true then(n.send U Q vs.data.toList).1
   else if(Z.toList==[114,111,117,110,100])=true then n.round
   else n):=hG.symm
  clear h hT jR R0 T0 M hB pF hX hG;cases k1:(Z.toList==[112,108,117,103])
  case true=>
   have V:=q1;clear q1 q2 q3 q4 q5 q6 q7
   have Y:Hid (∀x,jH w x y _ n.n->jH w x y G n.n):=λx hx=>by
    rw[HG.out,ag k1];exact hx
   go_in;go_wp2_with fail;(try rw[IA.out]);(try rw[HX.out]);go_wp2_with fail;refine V.mono ?_;rintro e w6 ⟨⟨ev,rfl⟩,hw⟩;have S:Hid _:=Y.out _ hw;clear V hw Y;go_wp2_with fail;go_end0;exact⟨rfl,S.out⟩
  case false=>
   cases k2:(Z.toList==[116,105,99,107])
   case true=>
    have V:=q2;clear q1 q2 q3 q4 q5 q6 q7
    have Y:Hid (∀x,jH w x y _ n.n->jH w x y G n.n):=λx hx=>by
     rw[HG.out,af (by rw[k1];simp),ag k2];exact hx
    go_in;go_wp2_with fail;(try rw[IA.out]);(try rw[HX.out]);go_wp2_with fail;refine V.mono ?_;rintro e w6 ⟨⟨ev,rfl⟩,hw⟩;have S:Hid _:=Y.out _ hw;clear V hw Y;go_wp2_with fail;go_end0;exact⟨rfl,S.out⟩
   case false=>
    cases k3:(Z.toList==[100,101,108,105,118,101,114])
    case true=>
     have V:=q3;clear q1 q2 q3 q4 q5 q6 q7
     have Y:Hid (∀x,jH w x y _ n.n->jH w x y G n.n):=λx hx=>by
      rw[HG.out,af (by rw[k1];simp),af (by rw[k2];simp),ag k3];exact hx
     go_in;go_wp2_with fail;(try rw[IA.out]);(try rw[HX.out]);go_wp2_with fail;refine V.mono ?_;rintro e w6 ⟨⟨ev,rfl⟩,hw⟩;have S:Hid _:=Y.out _ hw;clear V hw Y;go_wp2_with fail;go_end0;exact⟨rfl,S.out⟩
    case false=>
     cases k4:(Z.toList==[114,101,115,116,97,114,116])
     case true=>
      have V:=q4;clear q1 q2 q3 q4 q5 q6 q7
      have Y:Hid (∀x,jH w x y _ n.n->jH w x y G n.n):=λx hx=>by
       rw[HG.out,af (by rw[k1];simp),af (by rw[k2];simp),af (by rw[k3];simp),ag k4];exact hx
      go_in;go_wp2_with fail;(try rw[IA.out]);(try rw[HX.out]);go_wp2_with fail;refine V.mono ?_;rintro e w6 ⟨⟨ev,rfl⟩,hw⟩;have S:Hid _:=Y.out _ hw;clear V hw Y;go_wp2_with fail;go_end0;exact⟨rfl,S.out⟩
     case false=>
      cases k5:(Z.toList==[115,101,110,100])
      case true=>
       have V:=q5;clear q1 q2 q3 q4 q5 q6 q7
       have Y:Hid (∀x,jH w x y _ n.n->jH w x y G n.n):=λx hx=>by
        rw[HG.out,af (by rw[k1];simp),af (by rw[k2];simp),af (by rw[k3];simp),af (by rw[k4];simp),ag k5];exact hx
       go_in;go_wp2_with fail;(try rw[IA.out]);(try rw[HX.out]);go_wp2_with fail;refine V.mono ?_;rintro e w6 ⟨⟨ev,rfl⟩,hw⟩;have S:Hid _:=Y.out _ hw;clear V hw Y;go_wp2_with fail;go_end0;exact⟨rfl,S.out⟩
      case false=>
       cases k6:(Z.toList==[114,111,117,110,100])
       case true=>
        have V:=q6;clear q1 q2 q3 q4 q5 q6 q7
        have Y:Hid (∀x,jH w x y _ n.n->jH w x y G n.n):=λx hx=>by
         rw[HG.out,af (by rw[k1];simp),af (by rw[k2];simp),af (by rw[k3];simp),af (by rw[k4];simp),af (by rw[k5];simp),ag k6];exact hx
        go_in;go_wp2_with fail;(try rw[IA.out]);(try rw[HX.out]);go_wp2_with fail;refine V.mono ?_;rintro e w6 ⟨⟨ev,rfl⟩,hw⟩;have S:Hid _:=Y.out _ hw;clear V hw Y;go_wp2_with fail;go_end0;exact⟨rfl,S.out⟩
       case false=>
        have S:Hid (jH w T y G n.n):=by
         show jH _ _ _ _ _;rw[HG.out,af (by rw[k1];simp),af (by rw[k2];simp),af (by rw[k3];simp),af (by rw[k4];simp),af (by rw[k5];simp),af (by rw[k6];simp)];exact q7
        clear q1 q2 q3 q4 q5 q6 q7;go_in;go_wp2_with fail;(try rw[IA.out]);(try rw[HX.out]);go_wp2_with fail;go_end0;exact⟨rfl,S.out⟩
def abn(c:UInt8)(s:LS):(rP c s).st=s.st:=by
 unfold rP;repeat' split
 all_goals rfl
def RI:∀(L:List UInt8) (s:LS),(sO L s).st=s.st
 |[],_=>rfl
 |c::r,s=>by
  show(sO r (rP c s)).st=s.st;rw[RI r,abn]
def abo(s:LS)(nx:Int):(s.next nx).st=nx:=by
 unfold LS.next;split<;>rfl
def yz(s:LS)(ev:Int):(pN s ev).st=(ki s.st ev).2.1:=by
 unfold pN;rw[RI,abo]
def wE(s:Int):Bool:=s==3||(decide (5<=s)&&decide (s<=9))
def EN {s:Int} (h:wE s=true):∃k:Nat,s=k/\k<10:=by
 refine⟨s.toNat,?_⟩;simp only[wE,Bool.or_eq_true,beq_iff_eq,jo,decide_eq_true_eq]at h;omega
def afj:((gw 12).all λe=>(gw 10).all λs=> !(decide (4<=e)&&wE (s:Int)&& ((ni s e).2.2==0))||wE (ni s e).2.1)=true:=by decide+kernel
def abp {e s:Nat} (V:e<12)(X:4<=e)(hs:s<10)(hu:wE (s:Int)=true)(Y:(ni s e).2.2=0):wE (ni s e).2.1=true:=by
 have Z:=bz.1 (bz.1 afj e (aU.2 V)) s (aU.2 hs);have b4:decide (4<=e)=true:=by simpa using X
 have b7:((ni s e).2.2==0)=true:=by simpa using Y
 rw[b4,hu,b7]at Z;simpa using Z
def GH(e:Nat)(X:e<12)(V:4<=e)(a:mH)(h:wE s.st=true):wE (vf s e a).1.st=true:=by
 obtain⟨k,U,Y⟩:=EN h;by_cases Z:(ki s.st e).2.2=0;{rw[vL a Z];show wE (pN s e).st=true;rw[yz];rw[U]at h Z⊢;rw[oZ k e Y X]at Z⊢;exact abp X V Y h Z};rw[xS a Z];exact h
def abq(s:LS)(code:Int)(os:List kS):(s.tell code os).st=s.st:=by
 unfold LS.tell;split<;>rfl
def Yh(s:LS)(os:List kS):(s.sized os).st=s.st:=by
 unfold LS.sized;split<;>rfl
def abr(p:mH)(h:wE s.st=true):wE (kV s p).1.st=true:=by
 unfold kV;split;{exact h};split;{unfold wj;split;{split;{rw[Yh];exact GH 6 fF fF _ h};exact GH 6 fF fF _ h};exact GH 7 fF fF _ h};split;{exact GH 10 fF fF _ h};split;{exact GH 11 fF fF _ h};unfold vM;split;{exact h};split;{split;{exact h};exact GH 8 fF fF _ h};exact GH 9 fF fF _ (by rw[abq];exact h)
def Np:((gw 10).all λs=> !(wE (s:Int)&&decide (4<=s)&&decide (s<=8))||(wE (ni s 4).2.1&&wE (ni s 5).2.1))=true:=by decide+kernel
def Yi(h:wE s.st=true):wE (lS s).st=true:=by
 obtain⟨k,Y,X⟩:=EN h;unfold lS;split;{exact h};rename_i U
 have V:4<=k/\k<=8:=by
  rw[Y]at U;simp at U;omega
 have Z:=bz.1 Np k (aU.2 X);rw[<-Y,h]at Z;simp[V.1,V.2]at Z;split;{exact h};split;{rw[yz];show wE (ki s.st 4).2.1=true;rw[Y,show(4:Int)=((4:Nat):Int)from rfl,oZ k 4 X fF];exact Z.1};rw[yz];show wE (ki s.st 5).2.1=true;rw[Y,show(5:Int)=((5:Nat):Int)from rfl,oZ k 5 X fF];exact Z.2
def Nq:((gw 10).all λs=> !(wE (s:Int))||((ni s 1).2.2==0&& (ni s 1).2.1==1))=true:=by decide+kernel
def vG(h:wE s.st=true):(mV s 1).2.2=0/\(mV s 1).1.st=1:=by
 obtain⟨k,X,Y⟩:=EN h;have Z:=bz.1 Nq k (aU.2 Y);rw[<-X,h]at Z;simp at Z
 have V:(ki s.st 1).2.2=0:=by
  rw[X,show(1:Int)=((1:Nat):Int)from rfl,oZ k 1 Y fF];exact Z.1
 have e:mV s 1=(pN s 1,rF s 1 (0,0,[]),0):=by
  unfold mV;rw[ag gZ,vL _ V]
 rw[e];refine⟨rfl,?_⟩;show(pN s 1).st=1;rw[yz,X,show(1:Int)=((1:Nat):Int)from rfl,oZ k 1 Y fF];exact Z.2
def FY(h:s.st=1):(mV s 0).2.2=0/\wE (mV s 0).1.st=true:=by
 have Z:(ki s.st 0).2.2=0:=by rw[h];decide+kernel
 have e:mV s 0=(pN s 0,rF s 0 (0,0,[]),0):=by
  unfold mV;rw[ag gZ,vL _ Z]
 rw[e];refine⟨rfl,?_⟩;show wE (pN s 0).st=true;rw[yz,h];decide+kernel
def Yj(h:wE s.st=true):wE (j8 s).1.st=true:=by
 have Z:=Yi h;unfold j8;split;{exact(FY (vG Z).2).2};exact Z
def Un(h:s.st=1):(j8 s).1=s:=by
 have Z:lS s=s:=by unfold lS;simp[h]
 unfold j8;rw[Z];simp[h]
structure rb(up:Bool)(p:kB):Prop where
 st:if up=true then wE p.L.st=true else p.L.st=1
 gate:p.pe.who≠0->p.L.st=9
def rb.congr {up:Bool} {q:kB} (h:rb up p)(Z:q.L=p.L)(Y:q.pe=p.pe):rb up q:=⟨by rw[Z];exact h.st,by rw[Z,Y];exact h.gate⟩
def yA(p:kB)(c:UInt8)(s:List UInt8):(p.put c s).L=p.L:=by
 unfold kB.put;repeat' split
 all_goals rfl
def GJ:∀(l:List mH) (p:kB),(p.say l).L=p.L
 |[],_=>rfl
 |q::r,p=>by
  show((if lg q.1 q.2.1 q.2.2=0 then p.put 76 (oj q.1 q.2.1 q.2.2)else p).say r).L=_;rw[GJ r];split;{exact yA _ _ _};{rfl}
def yB:∀(l:List (Int×PS)) (p:kB),(p.mA l).L=p.L/\(p.mA l).pe=p.pe
 |[],_=>⟨rfl,rfl⟩
 |q::r,p=>by
  obtain⟨Z,Y⟩:=yB r (p.put 83 (tI q.1 q.2.1 q.2.2));exact⟨Z.trans (yA _ _ _),Y.trans (tX _ _ _)⟩
def lQ(r r':jO)(p:Nat):Prop:=(r'.P p).L=(r.P p).L/\(r'.P p).pe=(r.P p).pe
def lQ.refl(r:jO)(p:Nat):lQ r r p:=⟨rfl,rfl⟩
def lQ.trans {a b c:jO} {p:Nat} (h:lQ a b p)(g:lQ b c p):lQ a c p:=⟨g.1.trans h.1,g.2.trans h.2⟩
def lQ.zB {r':jO} (h:r'.P=r.P)(p:Nat):lQ r r' p:=by unfold lQ;rw[h];exact⟨rfl,rfl⟩
def lQ.jW(r:jO)(i:Nat)(q:kB)(Z:q.L=(r.P i).L)(Y:q.pe=(r.P i).pe)(p:Nat):lQ r (r.jW i q) p:=by
 show(m8 r.P i q p).L=_/\(m8 r.P i q p).pe=_;by_cases e:p=i;{subst e;rw[kJ];exact⟨Z,Y⟩};rw[kC _ _ e];exact⟨rfl,rfl⟩
def lQ.Aw(r:jO)(q:kB) {p:Nat} (h:p≠i):lQ r (r.jW i q) p:=by
 show(m8 r.P i q p).L=_/\(m8 r.P i q p).pe=_;rw[kC _ _ h];exact⟨rfl,rfl⟩
def lQ.sZ(r:jO)(q:mX) {p:Nat} (h:p≠i):lQ r (r.meet i q) p:=by
 unfold lQ;rw[(oI r i q).2.2.2,kC _ _ h];exact⟨rfl,rfl⟩
def BA(r:jO)(i:Nat)(q:mX):((r.meet i q).P i).L=(r.P i).L/\((r.meet i q).P i).pe=q:=by
 rw[(oI r i q).2.2.2,kJ];exact⟨rfl,rfl⟩
def lQ.send(r:jO)(t:wK)(p:Nat):lQ r (r.send t) p:=by
 unfold jO.send;split;{exact lQ.zB rfl p};split;{exact lQ.zB rfl p};exact lQ.jW _ _ _ (yA _ _ _) (tX _ _ _) p
def lQ.state(r:jO)(i:Nat)(l:List UInt8)(p:Nat):lQ r (kj r i l) p:=by
 unfold kj;simp only;split;{exact lQ.refl r p};split;{exact lQ.zB (qy _ _).2.2.2 p};split;{exact lQ.jW _ i _ (yA _ _ _) (tX _ _ _) p};exact lQ.zB rfl p
def P6(r:jO)(i:Nat)(c:UInt8)(s:List UInt8)(p:Nat):((nL r i c s).P p).L=(r.P p).L/\(p≠i->lQ r (nL r i c s) p):=by
 unfold nL;split;{split;{refine⟨?_,λh=>lQ.sZ r _ h⟩;by_cases e:p=i;{subst e;exact(BA r p _).1};exact(lQ.sZ r _ e).1};exact⟨rfl,λ_=>lQ.refl r p⟩};split;{exact⟨(lQ.state r i s p).1,λ_=>lQ.state r i s p⟩};split
 ·have h:lQ r (lV r i s) p:=by
   unfold lV;simp only;split<;>exact lQ.zB rfl p
  exact⟨h.1,λ_=>h⟩
 split
 ·have h:lQ r (sT r s) p:=by
   unfold sT;split;{exact lQ.send _ _ p};exact lQ.refl r p
  exact⟨h.1,λ_=>h⟩
 exact⟨rfl,λ_=>lQ.refl r p⟩
def P7(p:kB):Prop:=wE p.L.st=true/\(p.pe.who≠0->p.L.st=9)
def rb.up:rb true p↔P7 p:=⟨λh=>⟨by simpa using h.st,h.gate⟩,λh=>⟨by simpa using h.1,h.2⟩⟩
def P7.congr {q:kB} (h:P7 p)(Z:q.L=p.L)(Y:q.pe=p.pe):P7 q:=by
 unfold P7;rw[Z,Y];exact h
def Uo(s:List UInt8)(h:wE p.L.st=true):wE (p.packet s).L.st=true:=by
 unfold kB.packet;simp only;split;{rw[GJ];exact abr _ h};exact h
def JF(i:Nat)(c:UInt8)(s:List UInt8)(h:P7 (r.P i)):P7 ((r.take i c s).P i)/\∀p,p≠i->lQ r (r.take i c s) p:=by
 have Y:wE ((lE r i c s).P i).L.st=true:=by
  unfold lE;split;{show wE (m8 r.P i _ i).L.st=true;rw[kJ];exact Uo s h.1};exact h.1
 have X:∀p,p≠i->lQ r (lE r i c s) p:=λp Z=>by
  unfold lE;split;{exact lQ.Aw r _ Z};exact lQ.refl r p
 rw[mZ];split;{obtain⟨a,b⟩:=BA (lE r i c s) i nobody;refine⟨⟨by rw[a];exact Y,λe=>absurd (by rw[b];rfl) e⟩,λp Z=>(X p Z).trans (lQ.sZ _ _ Z)⟩};rename_i U;have V:((lE r i c s).P i).L.st=9:=by simpa using U
 obtain⟨a,_⟩:=P6 (lE r i c s) i c s i;exact⟨⟨by rw[a];exact Y,λ_=>by rw[a];exact V⟩,λp Z=>(X p Z).trans ((P6 _ i c s p).2 Z)⟩
def GK:∀(l:List (List UInt8)) {r:jO} (i:Nat),P7 (r.P i)->P7 ((r.takes i l).P i)/\∀p,p≠i->lQ r (r.takes i l) p
 |[],r,i,h=>⟨h,λp _=>lQ.refl r p⟩
 |t::l,r,i,h=>by
  show P7 (((kP r i t).takes i l).P i)/\∀p,p≠i->lQ r ((kP r i t).takes i l) p;have Z:P7 ((kP r i t).P i)/\∀p,p≠i->lQ r (kP r i t) p:=by
   cases t with
   |nil=>exact⟨h,λp _=>lQ.refl r p⟩
   |cons c s=>exact JF i c s h
  obtain⟨a,b⟩:=GK l i Z.1;exact⟨a,λp Y=>(Z.2 p Y).trans (b p Y)⟩
def Up(i:Nat)(l:List UInt8)(h:P7 (r.P i)):P7 ((r.recv i l).P i)/\∀p,p≠i->lQ r (r.recv i l) p:=by
 unfold jO.recv;simp only;have Z:∀p,lQ r (r.jW i {r.P i with rd:=(l5 (r.P i).rd l).2.2}) p:=λp=>lQ.jW r i {r.P i with rd:=(l5 (r.P i).rd l).2.2} rfl rfl p;obtain⟨a,b⟩:=GK (l5 (r.P i).rd l).1 (r:=r.jW i {r.P i with rd:=(l5 (r.P i).rd l).2.2}) i (h.congr (Z i).1 (Z i).2);exact⟨a,λp Y=>(Z p).trans (b p Y)⟩
def Yk(r:jO)(i p:Nat):lQ r (r.recv i []) p:=lQ.jW r i _ rfl rfl p
def uT(p:kB):p.tick.L=(j8 p.L).1:=by
 unfold kB.tick;rw[GJ]
def JG {up:Bool} (i:Nat)(h:rb up (r.P i)):rb up ((r.jZ i).P i)/\∀p,p≠i->lQ r (r.jZ i) p:=by
 have T:((j6 r i).P i).L=(j8 (r.P i).L).1:=by
  show(m8 r.P i (r.P i).tick i).L=_;rw[kJ,uT]
 have Y:if up=true then wE ((j6 r i).P i).L.st=true else((j6 r i).P i).L.st=1:=by
  rw[T];have:=h.st;split;{rename_i hu;rw[ag hu]at this;exact Yj this};rename_i hu;rw[af hu]at this;rw[Un this];exact this
 have X:∀p,p≠i->lQ r (j6 r i) p:=λp Z=>lQ.Aw r _ Z;rw[mO];split;{obtain⟨a,b⟩:=BA (j6 r i) i nobody;exact⟨⟨by rw[a];exact Y,λe=>absurd (by rw[b];rfl) e⟩,λp Z=>(X p Z).trans (lQ.sZ _ _ Z)⟩};rename_i S;have U:((j6 r i).P i).L.st=9:=by simpa using S
 have V:∀(x:jO) (p:Nat),lQ x (oa x i) p:=λx p=>by
  unfold oa;simp only;refine lQ.jW x i _ ?_ ?_ p;{split;{exact(yB _ _).1.trans (yA _ _ _)};exact yA _ _ _};split;{exact(yB _ _).2.trans (tX _ _ _)};exact tX _ _ _
 obtain⟨a,b⟩:=BA (j6 r i) i (jP ((j6 r i).P i).pe);obtain⟨c,d⟩:=V ((j6 r i).meet i (jP ((j6 r i).P i).pe)) i;exact⟨⟨by rw[c,a];exact Y,λ_=>by rw[c,a];exact U⟩,λp Z=>(X p Z).trans ((lQ.sZ _ _ Z).trans (V _ p))⟩
def GL {r:jO} {U:Nat->Bool}:∀q,(∀p<q,rb (U p) (r.P p))->(∀p<q,rb (U p) ((r.j5 q).P p))/\∀p,q<=p->lQ r (r.j5 q) p
 |0,_=>⟨λp Z=>absurd Z fC,λp _=>lQ.refl r p⟩
 |q+1,h=>by
  obtain⟨a,b⟩:=GL (U:=U) q (λp Z=>h p fC);have Y:=b q (aj q);obtain⟨c,d⟩:=JG (r:=r.j5 q) q ((h q fC).congr Y.1 Y.2);refine⟨λp Z=> ?_,λp Z=>(b p fC).trans (d p fC)⟩;by_cases e:p=q;{subst e;exact c};{have:=d p e;exact(a p fC).congr this.1 this.2}
def ze {up:Bool} (i:Nat)(h:rb (!up) (r.P i)):rb up ((r.jT i up).1.P i)/\(r.jT i up).2=0/\∀p,p≠i->lQ r (r.jT i up).1 p:=by
 have Y:(mV (r.P i).L (if up=true then 0 else 1)).2.2=0/\(if up=true then wE (mV (r.P i).L (if up=true then 0 else 1)).1.st=true else(mV (r.P i).L (if up=true then 0 else 1)).1.st=1):=by
  cases up;{exact vG (rb.up.1 h).1};exact FY (by simpa using h.st)
 have e:(r.P i).jT up=(({r.P i with L:=(mV (r.P i).L (if up=true then 0 else 1)).1,rd:=([],false,false)}:kB).say (mV (r.P i).L (if up=true then 0 else 1)).2.1,0):=by
  unfold kB.jT;simp only;rw[af (by simp[Y.1])]
 unfold jO.jT;rw[e];simp only;rw[af gZ];obtain⟨x,hx⟩:=fH (({r.P i with L:=(mV (r.P i).L (if up=true then 0 else 1)).1,rd:=([],false,false)}:kB).say (mV (r.P i).L (if up=true then 0 else 1)).2.1);have Z:x.L=(mV (r.P i).L (if up=true then 0 else 1)).1:=by rw[<-hx,GJ]
 rw[hx];obtain⟨a,b⟩:=BA (r.jW i x) i nobody;have c:((r.jW i x).P i)=x:=by show m8 r.P i x i=x;exact kJ _ _ _
 refine⟨⟨by rw[a,c,Z];exact Y.2,λe=>absurd (by rw[b];rfl) e⟩,rfl,λp X=>(lQ.Aw r _ X).trans (lQ.sZ _ _ X)⟩
open Go.ChangeShapes Go.WideShapes Go.ChangeAt
def Nr {H:Type} {enc:TypeId×fB->H} {d:DataW H} {ps:List MemPlace}
 (h:DataW.Trod enc gg W 0 (λ_=>true) true 61 (σ a n cap) d ps):
 ∃L:List qM,Bw W a L/\L.length=n/\n<=maxLen:=by
  obtain⟨fuel,hf⟩:=h;obtain⟨hcs,_⟩|⟨x,len,cp,m',n',D,Pl,hcs,_,hl,hm,Ma,_,hx⟩:=dV underlying61 hf;{simp[gG]at hcs;obtain⟨rfl,rfl,rfl⟩:=hcs;exact⟨[],λj U=>by simp at U,rfl,fF⟩};simp[gG]at hcs;obtain⟨rfl,rfl,rfl⟩:=hcs;simp at Ma;have ce:(gg).cellsOf 81=5:=iV;rw[ce]at hx
  have each:∀i<n,∃q:qM,W.cell? (x.add (i*5))=μ (ι κ q.a)/\W.cell? (x.add (i*5+1))=μ (ι κ q.pa)/\W.cell? (x.add (i*5+2))=μ (ι κ q.b)/\W.cell? (x.add (i*5+3))=μ (ι κ q.pb)/\W.cell? (x.add (i*5+4))=μ (ι κ q.m):=by
   intro i hi;obtain⟨V,h1,h2⟩:=hx i fC;obtain⟨_,Y,hcell⟩:=World.cells?_some h1;obtain⟨xs,k,hk,hxy,_,Sn,Z⟩:=dD underlying81 h2
   match xs,Sn,V,Y with
   |[y0,y1,y2,y3,y4],_,[v0,v1,v2,v3,v4],_=>
    have g0:=Z 0 _ rfl;have g1:=Z 1 _ rfl;have M:=Z 2 _ rfl;have J:=Z 3 _ rfl;have G:=Z 4 _ rfl;have ci:(gg).cellsOf 3=1:=iV;simp[ci]at g0 g1 M J G;obtain⟨i0,f0,_,_⟩:=bF underlying3 g0;obtain⟨i1,f1,_,_⟩:=bF underlying3 g1;obtain⟨i2,f2,_,_⟩:=bF underlying3 M;obtain⟨i3,T,_,_⟩:=bF underlying3 J;obtain⟨i4,S,_,_⟩:=bF underlying3 G;simp at f0 f1 f2 T S;subst f0 f1 f2 T S;have c0:=hcell 0 fC;have c1:=hcell 1 fC;have c2:=hcell 2 fC;have c3:=hcell 3 fC;have c4:=hcell 4 fC;rw[Go.Deep.add_add]at c0 c1 c2 c3 c4;exact⟨⟨i0,i1,i2,i3,i4⟩,c0,c1,c2,c3,c4⟩
  obtain⟨Q,A⟩:∃Q:Nat->qM,∀i<n,W.cell? (x.add (i*5))=μ (ι κ (Q i).a)/\W.cell? (x.add (i*5+1))=μ (ι κ (Q i).pa)/\W.cell? (x.add (i*5+2))=μ (ι κ (Q i).b)/\W.cell? (x.add (i*5+3))=μ (ι κ (Q i).pb)/\W.cell? (x.add (i*5+4))=μ (ι κ (Q i).m):=by
   refine⟨λi=>if hi:i<n then jr (each i hi)else⟨0,0,0,0,0⟩,λi hi=> ?_⟩;show W.cell? _=μ (ι κ (if hi:i<n then jr (each i hi)else⟨0,0,0,0,0⟩:qM).a)/\W.cell? _=μ (ι κ (if hi:i<n then jr (each i hi)else⟨0,0,0,0,0⟩:qM).pa)/\W.cell? _=μ (ι κ (if hi:i<n then jr (each i hi)else⟨0,0,0,0,0⟩:qM).b)/\W.cell? _=μ (ι κ (if hi:i<n then jr (each i hi)else⟨0,0,0,0,0⟩:qM).pb)/\W.cell? _=μ (ι κ (if hi:i<n then jr (each i hi)else⟨0,0,0,0,0⟩:qM).m);rw[dif_pos hi];exact Classical.choose_spec (each i hi)
  refine⟨(gw n).map Q,λj U=> ?_,gZ,fC⟩;have LJ:j<n:=by simpa using U
  obtain⟨b,off,X⟩:=x;obtain⟨q0,q1,q2,q3,q4⟩:=A j LJ;have Fj:X=ν:=by simpa[Addr.add]using dG (A 0 fC).1
  subst Fj;have hg:((gw n).map Q)[j] =Q j:=gZ;rw[hg];rw[oP]at q0 q1 q2 q3 q4;exact⟨b,off,rfl,q0,by simpa[bP]using q1,by simpa[bP]using q2,by simpa[bP]using q3,by simpa[bP]using q4⟩
