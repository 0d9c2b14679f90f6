import Derived.Test.YtieklnlbljejdaaGreatDoorV03
open Go.Value renaming int → ι, slice → σ, pointer → π, tuple → τ, nilIface → η, ownBlock → fD
open Go.IntKind renaming i64 → κ
open Go.Ending renaming returned → ρ
open Go.Obj renaming cells → γ
open Option renaming none → ν, some → μ
open Go renaming Value → fB, World → fA, Addr → fq, Calls → gb
open Go.Proofs.Tryz renaming prog → gg
open List renaming range → gw, take → ja
open Go.Instr renaming findKey → iX, lookup → gM, mapUpdate → gK
open Go.Sem renaming run_bind → iJ, run_pure → iK
open Go.Result renaming andThen_ok → fL
open Go.MapKept renaming run_getObj_map → iY
open Prod.mk renaming injEq → gH
open Go.Region renaming wanted → fR
open Go.World renaming frozen? → iZ
open Nat renaming sub_self → jb
set_option maxRecDepth 100000
set_option maxHeartbeats 8000000
set_option linter.defProp false
open Go.Proofs.Tryz
namespace Go.Proofs.YtieklnlbljejdaaGreatDoor
open Go.RowKit St
namespace Rt
variable {C args:Array Value} {E:List (Int×Int×Int)} {N d g i j k m n:Nat} {W a b c w w' x:World} {es:List kS} {f:FuncId} {l:List UInt8} {o:Obj} {ov:Nat->Value} {p q:Addr} {r r' r0:jO} {seq:Int} {t:TypeId} {u v:Value} {α:Type}
def uC {k:Int} (h: -1000000<=k/\k<=1000000):vm k:=⟨fC,fC⟩
def Rq(K:Int->Option PS)(i:Int):Ei K i=oG K i:=by
 unfold Ei oG;cases K i<;>rfl
def Rr(K:Int->Option PS)(i:Int):Cx K i=sC K i:=by
 unfold Cx sC;cases K i<;>rfl
def oq(h:w.cell? p=μ v):(w.alloc o).cell? p=μ v:=by
 rw[World.cell?_alloc_lt];{exact h};exact ai w _ h
def qt(h:w.cell? p=μ u/\w.cell? q=μ v):(w.alloc o).cell? p=μ u/\(w.alloc o).cell? q=μ v:=⟨oq h.1,oq h.2⟩
def Gf {x:fB} (h:w.cell? p=μ v)(Z:p.block≠N):(w.setCell ⟨N,j,ν⟩ x).cell? p=μ v:=by
 rw[ak (w:=w) (ax _ _ _ _ Z)];exact h
def za {a b c:fB} (h:w.cell? p=μ v)(Z:p.block≠N):(((w.setCell ⟨N,0,ν⟩ a).setCell ⟨N,1,ν⟩ b).setCell ⟨N,2,ν⟩ c).cell? p=μ v:=Gf (Gf (Gf h Z) Z) Z
def wZ {a b c:fB} (h:w.cell? p=μ u/\w.cell? q=μ v)(Z:p.block≠N)(Y:q.block≠N):(((w.setCell ⟨N,0,ν⟩ a).setCell ⟨N,1,ν⟩ b).setCell ⟨N,2,ν⟩ c).cell? p=μ u/\(((w.setCell ⟨N,0,ν⟩ a).setCell ⟨N,1,ν⟩ b).setCell ⟨N,2,ν⟩ c).cell? q=μ v:=⟨za h.1 Z,za h.2 Y⟩
def KG {a b c:fB} (hC:j2 x N C t)(V:C.size=3)(Z:w.heap.size<=N)(U:fP w x):
 (((x.setCell ⟨N,0,ν⟩ a).setCell ⟨N,1,ν⟩ b).setCell ⟨N,2,ν⟩ c).cell? ⟨N,1,ν⟩=μ b/\(((x.setCell ⟨N,0,ν⟩ a).setCell ⟨N,1,ν⟩ b).setCell ⟨N,2,ν⟩ c).cell? ⟨N,2,ν⟩=μ c/\fP w (((x.setCell ⟨N,0,ν⟩ a).setCell ⟨N,1,ν⟩ b).setCell ⟨N,2,ν⟩ c)/\∀j,j≠N->(((x.setCell ⟨N,0,ν⟩ a).setCell ⟨N,1,ν⟩ b).setCell ⟨N,2,ν⟩ c).heap[j]? =x.heap[j]? :=by
  have X:=((hC.set 0 a).set 1 b).set 2 c;refine⟨?_,?_,((U.setCell (p:=⟨N,0,ν⟩) Z a).setCell (p:=⟨N,1,ν⟩) Z b).setCell (p:=⟨N,2,ν⟩) Z c,λj Y=> ?_⟩;{rw[X.cell 1];simp[V]};{rw[X.cell 2];simp[V]};rw[ax _ _ _ _ Y,ax _ _ _ _ Y,ax _ _ _ _ Y]
def kc.not_zero {x':fA} {a:Option fq} (h:kc x a n es)(T:j2 x N #[ι κ 0,ι κ 0,σ ν 0 0] t)(S:∀e∈es,1<=e.1)(hw:∀j,j≠N->x'.heap[j]? =x.heap[j]?):kc x' a n es:=by
 refine⟨h.1,?_⟩;obtain Y|⟨b,off,rfl,Y⟩:=h.2;{exact .inl Y};by_cases U:n=0;{exact .inl U};have hl:0<es.length:=by have:=h.1;omega
 have X:b≠N:=by
  intro e;subst e;have Z:=(Y 0 hl).1;rw[T.cell]at Z;have h4:=S es[0] (aO hl);have:off+0*2=0 \/off+0*2=1 \/off+0*2=2 \/3<=off+0*2:=fC;obtain e|e|e|e:=this;{rw[e]at Z;simp at Z;omega};{rw[e]at Z;simp at Z;omega};{rw[e]at Z;simp at Z};rw[bD (by simpa using e)]at Z;cases Z
 exact .inr ⟨b,off,rfl,λj V=>⟨(ak (a:=⟨b,_,ν⟩) (hw b X)).trans (Y j V).1,(ak (a:=⟨b,_,ν⟩) (hw b X)).trans (Y j V).2⟩⟩
def j4(w:fA):fP w w.drew:=kN (aC _ _)
def Gg(z:Zt)(r:jO)(seq:Int)(w:fA)(h:n9 w z r)(J:nh r)(hs:0<=seq/\seq<=1000000):
 gb gg 180 #[π (μ ⟨z.R,0,ν⟩),ι κ seq] w λe w'=>e=ρ (τ #[])/\jy w w' z (r.behind seq) r.n:=by
  by_cases lZ:seq<1000000
  ·have Q:Hid (r.behind seq=r.Ag (seq+1) (kH r)):=by
    show _=_;unfold jO.behind;rw[ag lZ]
   have V:=h.below (j4 w);have he:=Gd z r w.drew V
   have U:∀(w1:fA) (a:Option fq) (cap:Nat),Made w.drew w1 (σ a (kH r).length cap) (kH r)->mG a cap->gb gg 67 #[π (μ ⟨z.Bb,0,ν⟩),.agg #[ι κ r.id,ι κ (seq+1),σ a (kH r).length cap]] w1 λe w'=>e=ρ η/\jy w w' z (r.behind seq) r.n/\(w'.cell? ⟨z.R,0,ν⟩=μ (ι κ r.id)/\w'.cell? ⟨z.R,2,ν⟩=μ (π (μ ⟨z.Bb,0,ν⟩))):=by
    intro w1 a cap Y S;have X:=V.below Y.below;refine(Mn z.Bb z.fm 6 r.K r.O r.id (seq+1) a (kH r).length cap (kH r) w1 X.bs (uC (by have:=J.id;omega)) Y.opts.2 S fC (Bq J fC)).mono ?_;rintro e w2 ⟨rfl,hB,H⟩;refine⟨rfl,?_,kM.cell H X.bs X.c0,kM.cell H X.bs X.c2⟩;rw[Q.out];exact jy.first h rfl (fQ (j4 w) Y.below) (λ_=>X.base hB H)
   have Z:gb gg 179 #[π (μ ⟨z.R,0,ν⟩)] w.drew λe w'=>∃a cap,e=ρ (σ a (kH r).length cap)/\Made w.drew w' (σ a (kH r).length cap) (kH r)/\mG a cap/\(w'.cell? ⟨z.R,0,ν⟩=μ (ι κ r.id)/\w'.cell? ⟨z.R,2,ν⟩=μ (π (μ ⟨z.Bb,0,ν⟩))):=by
    refine he.mono ?_;rintro e w1 ⟨v,rfl,Y⟩;obtain⟨a,cap,rfl,S,hle⟩:=Y.shape;have X:=V.below Y.below;exact⟨a,cap,rfl,Y,S,X.c0,X.c2⟩
   have c0:=V.c0;have c2:=V.c2;have cl:=V.lt;have hs0:=hs.1;obtain⟨n,hn⟩:∃n:fA->Prop,(λx=>jy w x z (r.behind seq) r.n)=n:=⟨_,rfl⟩
   have T:∀x,jy w x z (r.behind seq) r.n=n x:=λx=>cN hn x;simp only[T]at U⊢;generalize kH r=es at U Z;generalize z.R=M at U Z c0 c2 cl⊢;generalize z.Bb=Bb at U Z c2;generalize r.id=id at U Z c0;clear h J V hs he Q hn T;have ZE:κ.wrap (seq+1)=seq+1:=bg _ ⟨fC,fC⟩;have G:w.drew.cell? ⟨M,0,ν⟩=μ (ι κ id)/\w.drew.cell? ⟨M,2,ν⟩=μ (π (μ ⟨Bb,0,ν⟩)):=⟨c0,c2⟩
   go_in;go_wp2
   go_region_held3(λx=>x.cell? ⟨M,0,ν⟩=μ (ι κ id)/\x.cell? ⟨M,2,ν⟩=μ (π (μ ⟨Bb,0,ν⟩)))
    (first|assumption|exact G|exact D|exact A)
    (first
     |(go_at_call 179;refine Z.mono ?_;rintro e w1 ⟨a,cap,rfl,Y,S,D⟩;have HM:Hid _:=Y;clear Y)
     |(go_at_call 67;refine(U _ _ _ HM.out S).mono ?_;rintro e w2 ⟨rfl,oW,A⟩))
   all_goals(clear U G D A;go_wp2_with fail;go_end0;exact⟨rfl,oW⟩)
  have Q:Hid (r.behind seq=r):=by
   show _=_;unfold jO.behind;rw[af lZ]
  have HR:Hid _:=h;clear h J hs;go_in;go_wp2_with fail;go_end0;exact⟨rfl,by rw[Q.out];exact jy.refl HR.out⟩
def Pt(z:Zt)(r:jO)(w:fA)(h:n9 w z r)(A:nh r):
 gb gg 125 #[π (μ ⟨z.R,0,ν⟩)] w λe w'=>e=ρ (τ #[])/\jy w w' z r.change r.n:=by
  have ML:=uC (k:=r.id) (by have:=A.id;omega)
  have T:∀W,fP w W->gb gg 177 #[π (μ ⟨z.Bb,0,ν⟩),ι κ r.id] W λe w'=>∃a cap,e=ρ (τ #[.agg #[ι κ (zF r.K r.id),ι κ (sC r.K r.id),σ a (oG r.K r.id).length cap],.bool (r.K r.id).isSome])/\kc w' a (oG r.K r.id).length (oG r.K r.id)/\fP W w'/\(w'.cell? ⟨z.R,0,ν⟩=μ (ι κ r.id)/\w'.cell? ⟨z.R,2,ν⟩=μ (π (μ ⟨z.Bb,0,ν⟩))):=by
   intro W V;refine(Mr z.Bb z.fm 6 r.K r.O r.id W (h.below V).bs ML).mono ?_;rintro e w1 ⟨a,cap,rfl,ho,_,_,b1⟩;have R1:=h.below (fQ V b1);exact⟨a,cap,rfl,ho,b1,R1.c0,R1.c2⟩
  have h6:(oG r.K r.id).length<=6:=by
   obtain⟨q,hq,lz⟩:=A.own;have:=(kD lz).2.2.1;unfold oG;rw[hq];exact this
  have Xr:Hid (∀e∈oG r.K r.id,1<=e.1):=by
   obtain⟨q,hq,lz⟩:=A.own;have:=rR r.id q.2 0 (kD lz).2.2.2;unfold oG;rw[hq];exact λe he=>(this e he).1.1
  have h6e:(kH r).length<=6:=by
   have:=(uo A 6 0 0 fC fC).2;rw[<-Dy]at this;omega
  have he:∀W,fP w W->gb gg 179 #[π (μ ⟨z.R,0,ν⟩)] W λe w'=>∃a cap,e=ρ (σ a (kH r).length cap)/\kc w' a (kH r).length (kH r)/\fP W w':=by
   intro W V;refine(Gd z r W (h.below V)).mono ?_;rintro e w1 ⟨v,rfl,hM⟩;obtain⟨a,cap,rfl,_,_⟩:=hM.shape;exact⟨a,cap,rfl,hM.opts.2,hM.below⟩
  have lA:Hid (oG r.K r.id=kH r->∀W,fP w W->jy w W z r.change r.n):=by
   intro H W V
   have HC:r.change=r:=by
    unfold jO.change;rw[ag ((Rq _ _).trans H)]
   rw[HC];exact jy.still h V
  have Y:Hid (oG r.K r.id≠kH r->∀W,fP w W->gb gg 180 #[π (μ ⟨z.R,0,ν⟩),ι κ (sC r.K r.id)] W λe w'=>e=ρ (τ #[])/\jy w w' z r.change r.n):=by
   intro H W V
   have HC:r.change=r.behind (sC r.K r.id):=by
    unfold jO.change;rw[af (λe=>H ((Rq _ _).symm.trans e)),Rr]
   have hsq:=A.seq;rw[Rr]at hsq;refine(Gg z r (sC r.K r.id) W (h.below V) A fC).mono ?_;rintro e w5 ⟨rfl,N8⟩;refine⟨rfl,?_⟩;rw[HC];exact jy.first h rfl V (λ_=>N8)
  have R0:=h.below (j4 w);have X:=And.intro R0.c0 R0.c2;have cl:=R0.lt;obtain⟨n,hn⟩:∃n:fA->Prop,(λx=>jy w x z r.change r.n)=n:=⟨_,rfl⟩
  have hn':∀x,jy w x z r.change r.n=n x:=λx=>cN hn x;simp only[hn']at lA Y⊢;generalize kH r=ed at he lA Y h6e;generalize oG r.K r.id=es at T lA Y h6 Xr;generalize sC r.K r.id=sq at T Y;generalize zF r.K r.id=ow at T;generalize (r.K r.id).isSome=ok at T;generalize z.R=J at T he Y X cl⊢;generalize z.Bb=Bb at T X;generalize r.id=id at T X;clear h A R0 hn hn' ML;go_in;go_wp2;go_cut [2] (λv wx=>∃(Z:Nat) (a:Option fq) (cap:Nat),v=π (μ ⟨Z,0,ν⟩)/\wx.cell? ⟨Z,1,ν⟩=μ (ι κ sq)/\wx.cell? ⟨Z,2,ν⟩=μ (σ a es.length cap)/\kc wx a es.length es/\fP w wx)
  case first=>
   obtain⟨c0,c2⟩:=X;have X:w.drew.cell? ⟨J,0,ν⟩=μ (ι κ id)/\w.drew.cell? ⟨J,2,ν⟩=μ (π (μ ⟨Bb,0,ν⟩)):=⟨c0,c2⟩
   have ba:=kN (gu w (γ #[ι κ 0,ι κ 0,σ ν 0 0] 40));have xK:j2 (w.alloc (γ #[ι κ 0,ι κ 0,σ ν 0 0] 40)).drew w.heap.size #[ι κ 0,ι κ 0,σ ν 0 0] 40:=(j2.new w _ _).drew;have kf:J≠w.heap.size:=by have h2:J<w.heap.size:=cl;omega
   go_region_held3(λx=>x.cell? ⟨J,0,ν⟩=μ (ι κ id)/\x.cell? ⟨J,2,ν⟩=μ (π (μ ⟨Bb,0,ν⟩)))
    (first|assumption|exact X|exact S|exact qt S|exact qt X|exact wZ S kf kf)
    (first
     |(go_at_call 177;refine(T _ (by first|exact j4 w|exact ba)).mono ?_;rintro e w1 ⟨a,cap,rfl,ho,b1,S⟩;first|(have M:=xK.below b1;have y0:=M.cell 0;have y1:=M.cell 1;have y2:=M.cell 2;have z0:=M.frozen 0;have z1:=M.frozen 1;have z2:=M.frozen 2)|skip))
   all_goals
    go_wp2_with fail
    go_meet
    first
     |exact⟨_,a,cap,rfl,ay w1 _ _ (0,0) 1,ay w1 _ _ (0,0) 2,ho.below (gu _ _),fQ (fQ (j4 w) b1) (gu _ _)⟩
     |(have h5:=KG (a:=.int .i64 ow) (b:=.int .i64 sq) (c:=.slice a es.length cap) M rfl (aj _) (fQ ba b1)
       exact⟨_,a,cap,rfl,h5.1,h5.2.1,kc.not_zero ho M Xr.out h5.2.2.2,h5.2.2.1⟩)
  case rest=>
   obtain⟨Z,a,cap,rfl,d1,d2,ho,sN⟩:=hcut;have bd:=fQ sN (j4 wc);have X:wc.drew.cell? ⟨Z,1,ν⟩=μ (ι κ sq)/\wc.drew.cell? ⟨Z,2,ν⟩=μ (σ a es.length cap):=⟨d1,d2⟩
   have zl:Z<wc.drew.heap.size:=ai wc.drew _ X.1
   have G:gb gg 179 #[π (μ ⟨J,0,ν⟩)] wc.drew λe w'=>∃U Q,e=ρ (σ U ed.length Q)/\kc w' U ed.length ed/\kc w' a es.length es/\fP w w'/\(w'.cell? ⟨Z,1,ν⟩=μ (ι κ sq)/\w'.cell? ⟨Z,2,ν⟩=μ (σ a es.length cap)):=by
    refine(he _ bd).mono ?_;rintro e w3 ⟨U,Q,rfl,A1,b3⟩;exact⟨U,Q,rfl,A1,(ho.below (j4 wc)).below b3,fQ bd b3,(ak (a:=⟨Z,1,ν⟩) (b3.block Z zl)).trans X.1,(ak (a:=⟨Z,2,ν⟩) (b3.block Z zl)).trans X.2⟩
   obtain⟨bb,KE⟩:=fH (decide (es=ed))
   have heq:∀(W:fA) (U:Option fq) (Q:Nat),kc W U ed.length ed->kc W a es.length es->gb gg 178 #[σ a es.length cap,σ U ed.length Q] W λe w'=>e=ρ (.bool bb)/\∃k,w'=W.drewN k:=by
    intro W U Q h1 h2;rw[<-KE];exact Cc a U cap Q _ _ es ed W h2 h1 fC fC
   clear he T d1 d2;go_wp2
   go_region_held3(λx=>x.cell? ⟨Z,1,ν⟩=μ (ι κ sq)/\x.cell? ⟨Z,2,ν⟩=μ (σ a es.length cap))
    (first|assumption|exact X|exact S|exact F2)
    (first
     |(go_at_call 179;refine G.mono ?_;rintro e w3 ⟨U,Q,rfl,A1,D,b3,S⟩)
     |(go_at_call 178;refine(heq _ _ _ A1 D).mono ?_;rintro e w4 ⟨rfl,kk,rfl⟩;have F2:(w3.drewN kk).cell? ⟨Z,1,none⟩=some (.int .i64 sq)/\(w3.drewN kk).cell? ⟨Z,2,none⟩=some (.slice a es.length cap):=S))
   all_goals
    have b4:=below_drewN b3 kk;cases bb
    ·have H:es≠ed:=by simpa using KE
     have hb5:=Y.out H _ b4;have f1:=F2.1;have fl:Z<(w3.drewN kk).heap.size:=ai (w3.drewN kk) _ f1;clear Y lA heq G X S F2 A1 D;go_wp2_with fail;refine hb5.mono ?_;rintro e w5 ⟨rfl,V⟩;clear hb5;go_wp2_with fail;go_end0;exact⟨rfl,V⟩
    ·have H:es=ed:=by simpa using KE
     have V:=lA.out H _ b4;clear Y lA heq G X S F2 A1 D;go_wp2_with fail;go_end0;exact⟨rfl,V⟩
def jy.rY {z z':Zt} (h:jy a b z r n)(_hR:n9 b z' r)(hl:z.like z')(S:∀k,z'.mine n k->z.mine n k \/a.heap.size<=k)(G:∀k,z.fm.no k->z'.fm.no k)(k:jy b c z' r' n):jy a c z r' n:=by
 have Z:=h.kept;obtain⟨⟨D,M,J,Q,H⟩,Y⟩:=k;refine⟨⟨D,M,Zt.F9 hl J,λx hx=> ?_,λx hx=>H x (G x hx)⟩,⟨Y.os.trans Z.os,Y.tape.trans Z.tape,Y.output.trans Z.output,au Z.size Y.size,λx hx V U T=>(Y.block x (aq hx Z.size) (λe=> ?_) (by rw[hl.bm];exact U) (by rw[hl.bs];exact T)).trans (Z.block x hx V U T)⟩⟩;{obtain e|e:=Q x hx;{exact S x e};exact .inr (au Z.size e)};obtain X|X:=S x e;{exact V X};omega
section
variable {w w':World} {z:Zt} {r:jO} {n:Nat}
def jy.c0(h:jy w w' z r n):w'.cell? ⟨z.R,0,ν⟩=μ (ι κ r.id):=by
 obtain⟨⟨z',Z,hl,_⟩,_⟩:=h;have:=Z.c0
 rwa [hl.R]at this
def jy.c1(h:jy w w' z r n):w'.cell? ⟨z.R,1,ν⟩=μ (σ (μ ⟨z.g,0,ν⟩) r.n z.cap):=by
 obtain⟨⟨z',Z,hl,_⟩,_⟩:=h;have:=Z.c1
 rwa [hl.R,hl.g,hl.cap]at this
def jy.c2(h:jy w w' z r n):w'.cell? ⟨z.R,2,ν⟩=μ (π (μ ⟨z.Bb,0,ν⟩)):=by
 obtain⟨⟨z',Z,hl,_⟩,_⟩:=h;have:=Z.c2
 rwa [hl.R,hl.Bb]at this
def jy.lt(h:jy w w' z r n):z.R<w'.heap.size:=ai _ _ h.c0
def jy.pt(h:jy w w' z r n) {i:Nat} (hi:i<r.n):∃v,sD w' z.g (i*71) (z.B i) v (r.P i):=by
 obtain⟨⟨z',Z,hl,_⟩,_⟩:=h;have:=Z.pt i hi;rw[hl.g,hl.B]at this;exact⟨_,this⟩
def jy.Lz(h:jy w w' z r n):z.g<w'.heap.size:=by
 obtain⟨⟨z',Z,hl,_⟩,_⟩:=h;have:=Z.Lz
 rwa [hl.g]at this
def jy.keep(h:jy w w' z r n)(Z:n9 w z r0)(Y:¬z.mine n k) {fr:Nat×Nat} (hc:w.heap[k]? =μ (Obj.cells C t fr)):w'.heap[k]? =w.heap[k]? :=
 h.kept.block k (aE.1 hc).1 Y (zG hc (Z.bs.maps _ (.inl rfl))) (λe=>zG hc (Z.bs.maps _ (.inr e)) rfl)
def jy.cell {r0:jO} (h:jy w w' z r n)(Z:n9 w z r0) {p:fq} {v:fB} (Y:¬z.mine n p.block)(hc:w.cell? p=μ v):w'.cell? p=μ v:=by
 rw[ak (w:=w) (h.kept.block p.block (ai w _ hc) Y (rT hc (Z.bs.maps _ (.inl rfl))) (λe=>rT hc (Z.bs.maps _ (.inr e)) rfl))];exact hc
def n9.wA {z:Zt} (h:n9 w z r)(hk:w.heap.size<=k):¬z.mine r.n k:=λe=>by have:=h.Cz k e;omega
end
structure qu(w w':fA)(z:Zt)(r:jO)(n N:Nat)(C:Array fB)(t:TypeId):Prop where
 wz:jy w w' z r n
 pT:j2 w' N C t
 nn:r.n=n
 lt:N<w.heap.size
 no:¬z.mine n N
def qu.with {w a b:fA} {z z':Zt} {r r':jO} {n N:Nat} {C:Array fB} {t:TypeId} (h:qu w a z r n N C t)(V:r'.n=n)(Y:n9 a z' r)(hl:z.like z')(X:∀k,z'.mine n k->z.mine n k \/w.heap.size<=k)(U:∀k,z.fm.no k->z'.fm.no k)(k:jy a b z' r' n):qu w b z r' n N C t:=by
 refine⟨h.wz.rY Y hl X U k,?_,V,h.lt,h.no⟩;refine h.pT.keep (k.keep Y (λe=> ?_) h.pT);obtain Z|Z:=X N e;{exact h.no Z};have:=h.lt;omega
def jy.call {z:Zt} {E:Ending->Prop} (h:jy w W z r n)(k:∀Z,n9 W Z r->z.like Z->gb gg f args W λe w'=>E e/\jy W w' Z r' n):gb gg f args W λe w'=>E e/\jy w w' z r' n:=by
 obtain⟨Z,Y,hl,V,U⟩:=h.ex;refine(k Z Y hl).mono ?_;rintro e w' ⟨X,hw⟩;exact⟨X,h.rY Y hl V U hw⟩
def qu.call {z:Zt} {E:Ending->Prop} (h:qu w W z r n N C t)(U:r'.n=n)(k:∀Z,n9 W Z r->z.like Z->gb gg f args W λe w'=>E e/\jy W w' Z r' n):gb gg f args W λe w'=>E e/\qu w w' z r' n N C t:=by
 obtain⟨Z,Y,hl,V,T⟩:=h.wz.ex;refine(k Z Y hl).mono ?_;rintro e w' ⟨X,hw⟩;exact⟨X,h.with U Y hl V T hw⟩
def Xt(z:Zt)(r:jO)(i:Nat)(w:fA)(h:n9 w z r)(hi:i<r.n):
 gb gg 124 #[π (μ ⟨z.Bb,0,ν⟩),ι κ (i:Int)] w λe w'=>e=ρ (τ #[])/\jy w w' z {r with O:=λx=>if x=i then λ_=>ν else r.O x} r.n:=by
  refine(S6 z.Bb z.fm 6 r.K r.O i w h.bs (by rw[h.bl];exact hi)).mono ?_;rintro e w1 ⟨rfl,Z,Y⟩;exact⟨rfl,h.base Z Y⟩
def TA(z:Zt)(r:jO)(i:Nat)(w:fA)(h:n9 w z r)(hi:i<r.n):
 gb gg 126 #[π (μ ⟨z.Bb,0,ν⟩),ι κ (i:Int)] w λe w'=>e=ρ η/\jy w w' z {r with O:=λx=>if x=i then sA (r.O i) r.K else r.O x} r.n:=by
  refine(S7 z.Bb z.fm 6 r.K r.O i w h.bs (by rw[h.bl];exact hi) fC).mono ?_;rintro e w1 ⟨rfl,Z,Y⟩;exact⟨rfl,h.base Z Y⟩
def kK {α:Type} (f:Nat->α)(i:Nat)(x:α):Nat->α:=λj=>if j=i then x else f j
def jd(f:Nat->α)(i:Nat)(x:α):kK f i x i=x:=by simp[kK]
def iw(f:Nat->α)(x:α)(h:j≠i):kK f i x j=f j:=by simp[kK,h]
def qv(f:Nat->α)(i:Nat):kK f i (f i)=f:=by
 funext j;by_cases e:j=i;{subst e;exact jd _ _ _};exact iw _ _ e
structure sE where
 e:Nat->Nat×Nat
 jU:Bool
 on:Nat->List UInt8
structure jQ where
 n:Nat
 R:Nat->jO
 kA:Nat->List wK
 ms:Nat->Nat->Int
 nc:Nat
 C:Nat->sE
def jQ.kG(y:jQ)(i:Nat)(r:jO):jQ:={y with R:=kK y.R i r}
def jQ.nj(y:jQ)(i:Nat)(c:sE):jQ:={y with C:=kK y.C i c}
def sE.put(c:sE)(d:Nat)(s:List UInt8):sE:=if c.jU=true/\(c.on d).length+s.length<=2000 then {c with on:=kK c.on d (c.on d++s)}else c
def jQ.mY(y:jQ)(i d:Nat):jQ:=
 (y.kG ((y.C i).e d).1 ((y.R ((y.C i).e d).1).out ((y.C i).e d).2)).nj i ((y.C i).put d ((y.R ((y.C i).e d).1).P ((y.C i).e d).2).out)
def jQ.lH(y:jQ):Nat->jQ
 |0=>y
 |k+1=>((y.lH k).mY k 0).mY k 1
def jQ.zL(y:jQ)(k:Nat):jQ:={y with kA:=kK y.kA k (y.kA k++(y.R k).kA),R:=kK y.R k {y.R k with kA:=[] }}
def jQ.oM(y:jQ):Nat->jQ
 |0=>y
 |k+1=>(y.oM k).zL k
def jQ.gather(y:jQ):jQ:=(y.lH y.nc).oM y.n
def jQ.oH(y:jQ)(i d:Nat)(up:Bool):jQ:=y.kG ((y.C i).e d).1 ((y.R ((y.C i).e d).1).jT ((y.C i).e d).2 up).1
def jQ.lD(y:jQ)(i:Nat)(up:Bool):jQ:=((y.nj i {y.C i with jU:=up,on:=λ_=>[] }).oH i 0 up).oH i 1 up
def jQ.jT(y:jQ)(i:Int)(up:Bool):jQ×Nat:=
 if i<0 \/(y.nc:Int)<=i then(y,6)else if(y.C i.toNat).jU=up then(y,7)else((y.lD i.toNat up).gather,0)
def jQ.tick(y:jQ)(i:Int):jQ×Nat:=
 if i<1 \/(y.n:Int)<i then(y,6)else((y.kG (i-1).toNat (y.R (i-1).toNat).tick).gather,0)
def jQ.ky(y:jQ)(i d k:Nat):jQ:=
 (y.nj i {y.C i with on:=kK (y.C i).on d (((y.C i).on d).drop k)}).kG ((y.C i).e (1-d)).1 ((y.R ((y.C i).e (1-d)).1).recv ((y.C i).e (1-d)).2 (((y.C i).on d).take k))
def jQ.j7(y:jQ)(i d many:Int):jQ×Nat:=
 if i<0 \/(y.nc:Int)<=i \/d<0 \/2<=d then(y,6)else((y.ky i.toNat d.toNat (min many.toNat ((y.C i.toNat).on d.toNat).length)).gather,0)
def jQ.nt(y:jQ)(k:Nat):List Nat:=(gw y.nc).filter λc=>(y.C c).jU&& (((y.C c).e 0).1==k||((y.C c).e 1).1==k)
def jQ.kX(y:jQ)(up:Bool):List Nat->jQ
 |[] =>y
 |c::l=>(y.lD c up).kX up l
def jQ.restart(y:jQ)(i:Int):jQ×Nat:=
 if i<1 \/(y.n:Int)<i then(y,6)else
  ((((y.kX false (y.nt (i-1).toNat)).kG (i-1).toNat (kZ i 3 (y.ms (i-1).toNat))).kX true (y.nt (i-1).toNat)).gather,0)
def jQ.send(y:jQ)(f t:Int)(tx:List UInt8):jQ×Nat:=
 if f<1 \/(y.n:Int)<f then(y,6)
 else if(lF (y.R (f-1).toNat) t tx).2≠0 then(y,(lF (y.R (f-1).toNat) t tx).2)
 else((y.kG (f-1).toNat (lF (y.R (f-1).toNat) t tx).1).gather,0)
def jQ.inbox(y:jQ)(k:Nat):jQ:=({y with kA:=kK y.kA k [] }:jQ).gather
def jQ.j5(y:jQ):Nat->jQ
 |0=>y
 |k+1=>((y.j5 k).tick ((k:Int)+1)).1
def jQ.k9(y:jQ):Nat->jQ
 |0=>y
 |k+1=>(((y.k9 k).j7 (k:Int) 0 2000).1.j7 (k:Int) 1 2000).1
def jQ.turns(y:jQ):Nat->jQ
 |0=>y
 |k+1=>(y.turns k).k9 y.nc
def jQ.round(y:jQ):jQ:=(y.j5 y.n).turns 12
structure qM where
 a:Int
 pa:Int
 b:Int
 pb:Int
 m:Int
def mM:List (Int×Int×Int)->Int->Int->Option Int
 |[],_,_=>none
 |x::l,r,p=>if x.1=r/\x.2.1=p then some x.2.2 else mM l r p
def lT(l:List qM):List (Int×Int×Int):=l.flatMap λc=>[(c.a,c.pa,c.m),(c.b,c.pb,c.m)]
def qY(l:List qM)(i p:Nat):Int:=(mM (lT l) ((i:Int)+1) (p:Int)).getD 1
def qN(many r p:Int):Bool:=decide (1<=r)&&decide (r<=many)&&decide (0<=p)&&decide (p<3)
def Al(many:Int):List qM->List (Int×Int×Int)->Nat
 |[],_=>0
 |c::l,E=>
  if c.m<1 \/20<c.m then 1
  else if qN many c.a c.pa=false then 1
  else if(mM E c.a c.pa).isSome=true then 8
  else if qN many c.b c.pb=false then 1
  else if(mM (E++ [(c.a,c.pa,c.m)]) c.b c.pb).isSome=true then 8
  else Al many l (E++ [(c.a,c.pa,c.m),(c.b,c.pb,c.m)])
def pz(many:Int)(l:List qM):Nat:=if many<1 \/6<many then 1 else if 9<l.length then 2 else Al many l []
def qM.at(c:qM)(d:Nat):Nat×Nat:=if d=0 then((c.a-1).toNat,c.pa.toNat)else((c.b-1).toNat,c.pb.toNat)
def oE(l:List qM)(k:Nat):sE:=⟨(l.getD k ⟨1,0,1,0,1⟩).at,false,λ_=>[]⟩
def la(many:Nat)(l:List qM):jQ:=⟨many,λi=>kZ ((i:Int)+1) 3 (qY l i),λ_=>[],qY l,l.length,oE l⟩
def Zt.plus(z:Zt)(X:Nat->Prop):Zt:={z with fm:={z.fm with no:=λk=>z.fm.no k \/X k}}
def n9.zb {z:Zt} (h:n9 w z r)(hs:w.heap.size<=w'.heap.size)(Q:∀k<w.heap.size,(¬z.fm.no k \/z.mine r.n k)->w'.heap[k]? =w.heap[k]?)
 (X:Nat->Prop) (Y:∀k,X k->w.heap.size<=k/\k<w'.heap.size):n9 w' (z.plus X) r:=by
  have U:∀k,z.mine r.n k->w'.heap[k]? =w.heap[k]? :=λk e=>Q k (h.Cz k e) (.inr e);have M:=h.bs.still hs (λj V J=>Q j V (.inl J)) h.nb.1 h.nb.2.1 h.nb.2.2 (λk=>z.fm.no k \/X k) (λj V=>V.imp_right (λe=>(Y j e).1)) (λj V=>V.elim (λe=>aq (h.bs.S0 j e) hs) (λe=>(Y j e).2));have aeo:z.Bb<w.heap.size:=by obtain⟨_,_,hF,_⟩:=h.bs.ex;exact hF.lt
  have aep:z.fm.g<w.heap.size:=by obtain⟨_,_,hF,_⟩:=h.bs.ex;exact hF.row.lt _ rfl
  refine⟨h.n1,h.n3,h.Po,h.id,h.pT.keep (U _ (.inl rfl)),λi hi=> ?_,h.ib.keep hs (λk e=>U k (.inr (.inr (.inr e)))),M,h.bl,λk e=>.inl (h.no k e),⟨λe=> ?_,λe=> ?_,λb S e=> ?_⟩,h.sR,h.sB,h.sV,h.sI,h.Ts⟩;{have Z:=h.pt i hi;obtain⟨F,hC,hF⟩:=Z.yY;exact⟨⟨F,hC.keep (U _ (.inr (.inl rfl))),hF⟩,Z.lk.keep (U _ (.inr (.inr (.inl ⟨i,hi,.inl rfl⟩)))),Z.ou.keep hs (λx hx=>U x (.inr (.inr (.inl ⟨i,hi,.inr hx⟩)))),Z.few,Z.ok,Z.gB,Z.vg,Z.vB,Z.nz⟩};{obtain e|e:=e;{exact h.nb.1 e};have T:w.heap.size<=z.Bb:=(Y _ e).1;omega};{obtain e|e:=e;{exact h.nb.2.1 e};have T:w.heap.size<=z.fm.g:=(Y _ e).1;omega};obtain e|e:=e;{exact h.nb.2.2 b S e};have h9:=h.bs.mlt b S;have T:=(Y _ e).1;omega
inductive Lab where
 |N
 |R
 |I
 |C
 |ib (i:Nat)
 |on (c d:Nat)
structure Yt where
 N:Nat
 gR:Nat
 vQ:Nat
 gI:Nat
 Am:Nat
 gC:Option Nat
 yj:Nat
 bM:Nat
 z:Nat->Zt
 iv:Nat->fB
 ov:Nat->Nat->fB
 ext:Nat->Prop
def Yt.at(y:Yt):Lab->Option Nat
 | .N=>some y.N
 | .R=>some y.gR
 | .I=>some y.gI
 | .C=>y.gC
 | .ib i=>(y.iv i).ownBlock
 | .on c d=>(y.ov c d).ownBlock
def Yt.own(y:Yt)(k:Nat):Prop:=∃l,y.at l=μ k
def Zt.qF(z:Zt)(k:Nat):Prop:=z.mine 3 k \/k=z.fm.bm \/k∈z.fm.bs
def Yt.away(y:Yt)(n i k:Nat):Prop:=y.own k \/y.ext k \/ ∃j,j<n/\j≠i/\(y.z j).qF k
def Yt.all(y:Yt)(n k:Nat):Prop:=y.own k \/ ∃j,j<n/\(y.z j).qF k
def Yt.cv(y:Yt)(nc:Nat):fB:=match y.gC with|none=>.slice none 0 0|some g=>.slice (some ⟨g,0,none⟩) nc y.yj
def Em(c:sE)(o:Nat->fB):Nat->fB:=λj=>
 if j=0 then ι κ (((c.e 0).1:Int)+1)else if j=1 then ι κ ((c.e 0).2:Int)else if j=2 then ι κ (((c.e 1).1:Int)+1)else if j=3 then ι κ ((c.e 1).2:Int)
 else if j=4 then .bool c.jU else if j=5 then o 0 else o 1
def yk(r p:Int):fB:=.agg #[ι κ r,ι κ p]
def qw(w:fA)(b:Nat)(E:List (Int×Int×Int)):Prop:=∃es clock,w.heap[b]? =μ (.map es clock)/\es.toList.map (λe=>(e.key,e.val))=E.map λx=>(yk x.1 x.2.1,.int .i64 x.2.2)
def EJ(E:List (Int×Int×Int)):Prop:=∀x∈E,(1<=x.1/\x.1<=6/\0<=x.2.1/\x.2.1<=2)/\mM E x.1 x.2.1=μ x.2.2
def Xu(E:List (Int×Int×Int))(n:Nat)(ms:Nat->Nat->Int):Prop:=(∀(i p:Nat),i<n->p<3->(mM E ((i:Int)+1) (p:Int)).getD 1=ms i p/\1<=ms i p/\ms i p<=20)/\EJ E
structure kL(w:fA)(y:Yt)(n:jQ):Prop where
 n1:1<=n.n
 n6:n.n<=6
 c9:n.nc<=9
 pT:j2 w y.N #[σ (μ ⟨y.gR,0,ν⟩) n.n y.vQ,σ (μ ⟨y.gI,0,ν⟩) n.n y.Am,.map (μ y.bM),y.cv n.nc] 190
 rr:sg w y.gR 0 n.n (λi=>π (μ ⟨(y.z i).R,0,ν⟩))
 ri:sg w y.gI 0 n.n y.iv
 rc:∀g,y.gC=μ g->∀c<n.nc,sg w g (c*7) 7 (Em (n.C c) (y.ov c))
 gc:∀c<n.nc,∃g,y.gC=μ g
 mp:∃E,qw w y.bM E/\Xu E n.n n.ms
 rt:∀i<n.n,n9 w (y.z i) (n.R i)
 rn:∀i<n.n,(n.R i).n=3/\(n.R i).id=(i:Int)+1
 ib:∀i<n.n,Row w 3 (y.iv i) (n.kA i).length (rz (n.kA i))
 ob:∀c d,c<n.nc->d<2->Row w 1 (y.ov c d) ((n.C c).on d).length (jV ((n.C c).on d))
 ol:∀c d,c<n.nc->d<2->((n.C c).on d).length<=2000
 en:∀c d,c<n.nc->d<2->((n.C c).e d).1<n.n/\((n.C c).e d).2<3
 inj:∀l l' k,y.at l=μ k->y.at l'=μ k->l=l'
 away:∀i<n.n,∀k,y.away n.n i k->(y.z i).fm.no k/\¬(y.z i).mine 3 k
 nx:∀k,y.ext k->¬y.own k
 nM:¬y.own y.bM/\¬y.ext y.bM/\∀i<n.n,¬(y.z i).qF y.bM
 z0:¬y.own 0
structure Yt.same(y y':Yt):Prop where
 N:y'.N=y.N
 gR:y'.gR=y.gR
 vQ:y'.vQ=y.vQ
 gI:y'.gI=y.gI
 Am:y'.Am=y.Am
 gC:y'.gC=y.gC
 yj:y'.yj=y.yj
 bM:y'.bM=y.bM
def Yt.Jq(y:Yt):y.same y:=⟨rfl,rfl,rfl,rfl,rfl,rfl,rfl,rfl⟩
def Yt.Ao {a b c:Yt} (h:a.same b)(k:b.same c):a.same c:=⟨k.N.trans h.N,k.gR.trans h.gR,k.vQ.trans h.vQ,k.gI.trans h.gI,k.Am.trans h.Am,k.gC.trans h.gC,k.yj.trans h.yj,k.bM.trans h.bM⟩
structure xw(w w':fA)(y:Yt)(n:Nat):Prop where
 os:w'.os=w.os
 tape:w'.tape=w.tape
 output:w'.output=w.output
 size:w.heap.size<=w'.heap.size
 block:∀k<w.heap.size,¬y.all n k->w'.heap[k]? =w.heap[k]?
structure jH(w w':fA)(y:Yt)(n:jQ)(m:Nat):Prop where
 ex:∃y',kL w' y' n/\y.same y'/\(∀k,y'.all m k->y.all m k \/w.heap.size<=k)/\(∀k,y'.ext k↔y.ext k)
 kept:xw w w' y m
def kL.lt {y:Yt} {n:jQ} (h:kL w y n)(Y:y.own k \/y.ext k):k<w.heap.size:=by
 have Z:=(h.away 0 h.n1 k (Y.imp_right .inl)).1;exact(h.rt 0 h.n1).bs.S0 k Z
def kL.Jr {y:Yt} {n:jQ} (h:kL w y n):y.bM<w.heap.size:=by
 obtain⟨E,⟨es,clock,Z,_⟩,_⟩:=h.mp;exact(aE.1 Z).1
def kL.Ap {y:Yt} {n:jQ} (h:kL w y n)(hi:i<n.n)(Y:(y.z i).qF k):k<w.heap.size:=by
 obtain e|e|e:=Y;{have Z:=(h.rt i hi).Cz k;rw[(h.rn i hi).1]at Z;exact Z e};{exact(h.rt i hi).bs.mlt k (.inl e)};exact(h.rt i hi).bs.mlt k (.inr e)
def kL.MO {y:Yt} {n:jQ} (h:kL w y n)(hi:i<n.n)(X:y.away n.n i k):¬(y.z i).qF k:=by
 obtain⟨Z,Y⟩:=h.away i hi k X;intro e;obtain e|e|e:=e;{exact Y e};{exact(h.rt i hi).nb.2.2 k (.inl e) Z};exact(h.rt i hi).nb.2.2 k (.inr e) Z
def kL.KH {y:Yt} {n:jQ} (h:kL w y n)(hi:i<n.n)(Z:y.own k):¬(y.z i).qF k:=h.MO hi (.inl Z)
def qw.keep {b:Nat} (h:qw w b E)(X:w'.heap[b]? =w.heap[b]?):qw w' b E:=by
 obtain⟨es,clock,Z,Y⟩:=h;exact⟨es,clock,X.trans Z,Y⟩
def xw.refl(w:fA)(y:Yt)(n:Nat):xw w w y n:=⟨rfl,rfl,rfl,aj _,λ_ _ _=>rfl⟩
def jH.refl {w:fA} {y:Yt} {n:jQ} (h:kL w y n):jH w w y n n.n:=⟨⟨y,h,y.Jq,λ_ e=>.inl e,λ_=>fc⟩,xw.refl w y n.n⟩
def jH.rY {y y':Yt} {n':jQ} (h:xw a b y m)(Q:y.same y')(T:∀k,y'.all m k->y.all m k \/a.heap.size<=k)(J:∀k,y'.ext k↔y.ext k)(k:jH b c y' n' m):jH a c y n' m:=by
 obtain⟨⟨H,M,Y,S,X⟩,Z⟩:=k;refine⟨⟨H,M,Yt.Ao Q Y,λx hx=> ?_,λx=>(X x).trans (J x)⟩,⟨Z.os.trans h.os,Z.tape.trans h.tape,Z.output.trans h.output,au h.size Z.size,λx hx U=>(Z.block x (aq hx h.size) (λe=> ?_)).trans (h.block x hx U)⟩⟩;{obtain e|e:=S x hx;{exact T x e};exact .inr (au h.size e)};obtain V|V:=T x e;{exact U V};omega
def jH.step {y:Yt} {n n':jQ} (h:jH a b y n m)(k:∀y',kL b y' n->y.same y'->jH b c y' n' m):jH a c y n' m:=by
 obtain⟨⟨y',X,Z,U,V⟩,Y⟩:=h;exact jH.rY Y Z U V (k y' X Z)
def jH.call {y:Yt} {n n':jQ} {E:Ending->Prop} (h:jH w W y n m)(k:∀Z,kL W Z n->y.same Z->gb gg f args W λe w'=>E e/\jH W w' Z n' m):gb gg f args W λe w'=>E e/\jH w w' y n' m:=by
 obtain⟨Z,V,Y,T,U⟩:=h.ex;refine(k Z V Y).mono ?_;rintro e w' ⟨X,hw⟩;exact⟨X,jH.rY h.kept Y T U hw⟩
def kL.Gh {y:Yt} {n:jQ} (h:kL w y n)(hi:i<n.n)(hW:jy w w' (y.z i) r 3)(hr:r.n=3/\r.id=(i:Int)+1):jH w w' y (n.kG i r) n.n:=by
 obtain⟨⟨G,hR,hl,hm,mT⟩,H⟩:=hW
 have Rs:∀k,G.qF k->(y.z i).qF k \/w.heap.size<=k:=by
  intro k V;obtain e|e|e:=V;{exact(hm k e).imp_left .inl};{rw[hl.bm]at e;exact .inl (.inr (.inl e))};rw[hl.bs]at e;exact .inl (.inr (.inr e))
 have A:∀k<w.heap.size,¬(y.z i).qF k->w'.heap[k]? =w.heap[k]? :=λk V hf=>H.block k V (λe=>hf (.inl e)) (λe=>hf (.inr (.inl e))) (λe=>hf (.inr (.inr e)));have D:∀k,y.own k->w'.heap[k]? =w.heap[k]? :=λk e=>A k (h.lt (.inl e)) (h.KH hi e);obtain⟨X,N5⟩:∃X:Nat->Prop,X=λk=>w.heap.size<=k/\k<w'.heap.size/\G.mine 3 k:=⟨_,rfl⟩
 have hX:∀k,X k->w.heap.size<=k/\k<w'.heap.size:=λk e=>by rw[N5]at e;exact⟨e.1,e.2.1⟩
 have ahI:∀k,G.mine 3 k->k<w'.heap.size:=λk e=>by
  have:=hR.Cz k;rw[hr.1]at this;exact this e
 obtain⟨Z,hZ⟩:∃Z:Nat->Zt,Z=λj=>if j=i then G else(y.z j).plus X:=⟨_,rfl⟩
 have S:Z i=G:=by rw[hZ];simp
 have Q:∀j,j≠i->Z j=(y.z j).plus X:=λj U=>by rw[hZ];simp[U]
 have hZR:∀j,(Z j).R=(y.z j).R:=λj=>by
  by_cases e:j=i;{subst e;rw[S];exact hl.R};rw[Q j e];rfl
 have Pu:∀j k,(Z j).qF k->(y.z j).qF k \/(j=i/\w.heap.size<=k/\G.mine 3 k):=by
  intro j k V;by_cases e:j=i;{subst e;rw[S]at V;obtain Y|Y|Y:=V;{obtain T|T:=hm k Y;{exact .inl (.inl T)};exact .inr ⟨rfl,T,Y⟩};{rw[hl.bm]at Y;exact .inl (.inr (.inl Y))};rw[hl.bs]at Y;exact .inl (.inr (.inr Y))};rw[Q j e]at V;exact .inl V
 refine⟨⟨{y with z:=Z},⟨h.n1,h.n6,h.c9,h.pT.keep (D _ ⟨.N,rfl⟩),?_,h.ri.keep (D _ ⟨.I,rfl⟩),λg hg c hc=>(h.rc g hg c hc).keep (D _ ⟨.C,hg⟩),h.gc,?_,?_,?_,λj U=>(h.ib j U).keep H.size (λk V=>D k ⟨.ib j,V⟩),λc d hc hd=>(h.ob c d hc hd).keep H.size (λk V=>D k ⟨.on c d,V⟩),h.ol,h.en,h.inj,?_,h.nx,⟨h.nM.1,h.nM.2.1,?_⟩,h.z0⟩,⟨rfl,rfl,rfl,rfl,rfl,rfl,rfl,rfl⟩,?_,λ_=>fc⟩,⟨H.os,H.tape,H.output,H.size,λk V hn=>A k V (λe=>hn (.inr ⟨i,hi,e⟩))⟩⟩;{refine(h.rr.keep (D _ ⟨.R,rfl⟩)).congr λj _=> ?_;show Value.pointer (μ ⟨(y.z j).R,0,ν⟩)=π (μ ⟨(Z j).R,0,ν⟩);rw[hZR j]};{obtain⟨E,h1,h2⟩:=h.mp;exact⟨E,h1.keep (A _ h.Jr (h.nM.2.2 i hi)),h2⟩};{intro j U;show n9 w' (Z j) (kK n.R i r j);by_cases e:j=i;{subst e;rw[S,jd];exact hR};rw[Q j e,iw _ _ e];refine(h.rt j U).zb H.size (λk V hc=>A k V (λef=> ?_)) X hX;have M:=h.away j U k (.inr (.inr ⟨i,hi,λe'=>e e'.symm,ef⟩));obtain hc|hc:=hc;{exact hc M.1};rw[(h.rn j U).1]at hc;exact M.2 hc};{intro j U;show(kK n.R i r j).n=3/\(kK n.R i r j).id=(j:Int)+1;by_cases e:j=i;{subst e;rw[jd];exact hr};rw[iw _ _ e];exact h.rn j U}
 ·intro j U k V;show(Z j).fm.no k/\¬(Z j).mine 3 k
  have hold:(y.own k \/y.ext k \/ ∃x,x<n.n/\x≠j/\(y.z x).qF k) \/(j≠i/\w.heap.size<=k/\G.mine 3 k):=by
   obtain e|e|⟨x,hx,kf,e⟩:=V;{exact .inl (.inl e)};{exact .inl (.inr (.inl e))};obtain Y|⟨Y,T,e3⟩:=Pu x k e;{exact .inl (.inr (.inr ⟨x,hx,kf,Y⟩))};exact .inr ⟨λe'=>kf (Y.trans e'.symm),T,e3⟩
  by_cases e:j=i;{subst e;rw[S];obtain J|J:=hold;{have M:=h.away j U k J;refine⟨mT k M.1,λY=> ?_⟩;obtain T|T:=hm k Y;{exact M.2 T};have:=(h.rt j U).bs.S0 k M.1;omega};exact absurd rfl J.1};rw[Q j e];obtain J|J:=hold;{have M:=h.away j U k J;exact⟨.inl M.1,M.2⟩};refine⟨.inr ?_,λY=> ?_⟩;{rw[N5];exact⟨J.2.1,ahI k J.2.2,J.2.2⟩};have h1:k<w.heap.size:=h.Ap U (.inl Y);omega
 {intro j U e;obtain Y|⟨_,T,_⟩:=Pu j _ e;{exact h.nM.2.2 j U Y};have:=h.Jr;have e2':w.heap.size<=y.bM:=T;omega};intro k V;obtain e|⟨j,U,e⟩:=V;{exact .inl (.inl e)};obtain Y|⟨_,T,_⟩:=Pu j k e;{exact .inl (.inr ⟨j,U,Y⟩)};exact .inr T
open Go.ChangeMaps Go.MapKept
def MP:laidOutB gg=true:=iV
def aeu:192<gg.types.size:=of_decide_eq_true iV
def aaR:(match gg.underlying 192 with|some (.array _ _)|some (.struct _)=>true|_=>false)=true:=iV
def Pv:Maps.Keyed gg 192:=Maps.Keyed.of_law (deep_law_laid MP (m:=3) fC aeu iV aaR)
def aaS:((gw 7).all λi=>(gw 4).all λj=>(keyOf gg 192 (yk (i:Int) (j:Int))).isSome)=true:=iV
def KI {a b:Int} (h:1<=a/\a<=6/\0<=b/\b<=2):∃l,keyOf gg 192 (yk a b)=μ l:=by
 have Z:=bz.1 (bz.1 aaS a.toNat (aU.2 fC)) b.toNat (aU.2 fC);have Y:((a.toNat:Nat):Int)=a:=fC;have X:((b.toNat:Nat):Int)=b:=fC;rw[Y,X]at Z;exact cK.1 Z
def Xv {a b c d:Int} (h:yk a b=yk c d):a=c/\b=d:=by
 unfold yk at h;injection h with h;have Z:=congrArg Array.toList h;simp at Z;exact Z
def Gi:∀ {E:List (Int×Int×Int)} {r p:Int},(∀x∈E,¬(x.1=r/\x.2.1=p))->mM E r p=ν
 |[],_,_,_=>rfl
 |x::E,r,p,h=>by
  unfold mM;rw[af (h x gZ)];exact Gi (λz Z=>h z (by simp[Z]))
def Js:∀ {E:List (Int×Int×Int)} {r p m:Int},mM E r p=μ m->(r,p,m)∈E
 |[],_,_,_,h=>by simp[mM]at h
 |x::E,r,p,m,h=>by
  unfold mM at h;split at h
  ·rename_i hx
   have:=aL h;have e:x=(r,p,m):=by
    obtain⟨x1,x2,x3⟩:=x;simp at hx this⊢;exact⟨hx.1,hx.2,this⟩
   rw[e];simp
  ·exact cG _ (Js h)
def Pw(E:List (Int×Int×Int))(x:Int×Int×Int)(r p:Int):mM (E++ [x]) r p=match mM E r p with|some m=>some m|none=>if x.1=r/\x.2.1=p then some x.2.2 else none:=by
 induction E with|nil=>show mM [x] r p=_;unfold mM;split<;>rfl|cons z E ih=>show mM (z::(E++ [x])) r p=_;unfold mM;split;{rfl};{exact ih}
def EJ.snoc(h:EJ E) {x:Int×Int×Int} (hx:1<=x.1/\x.1<=6/\0<=x.2.1/\x.2.1<=2)(Y:mM E x.1 x.2.1=ν):EJ (E++ [x]):=λz X=>by
 rw[Pw];obtain Z|Z:=aA.1 X;{have:=h z Z;exact⟨this.1,by rw[this.2]⟩}
 ·have:z=x:=by simpa using Z
  subst this;exact⟨hx,by rw[Y];simp⟩
def qw.find {w:fA} {b:Nat} {E:List (Int×Int×Int)} {es:Array MapEntry} {clock:Nat} (_hb:w.heap[b]? =μ (.map es clock))(Q:es.toList.map (λe=>(e.key,e.val))=E.map λx=>(yk x.1 x.2.1,.int .i64 x.2.2))(S:EJ E) {r p:Int} (D:1<=r/\r<=6/\0<=p/\p<=2):
 (mM E r p=ν/\(iX 192 (yk r p) es.toList).run gg w=.ok ν w) \/ ∃m j,mM E r p=μ m/\(iX 192 (yk r p) es.toList).run gg w=.ok (μ (j,ι κ m)) w:=by
  obtain⟨l,hl⟩:=KI D
  have M:∀e∈es.toList,∃x∈E,e.key=yk x.1 x.2.1/\e.val=.int .i64 x.2.2:=λe V=>by
   have Z:(e.key,e.val)∈es.toList.map (λe=>(e.key,e.val)):=bX.2 ⟨e,V,rfl⟩;rw[Q]at Z;obtain⟨x,hx,Y⟩:=bX.1 Z;injection Y with U X;exact⟨x,hx,U.symm,X.symm⟩
  have T:∀x∈E,∃e∈es.toList,e.key=yk x.1 x.2.1:=λx hx=>by
   have Z:(yk x.1 x.2.1,(ι κ x.2.2:fB))∈E.map λx=>(yk x.1 x.2.1,(ι κ x.2.2:fB)):=bX.2 ⟨x,hx,rfl⟩;rw[<-Q]at Z;obtain⟨e,V,Y⟩:=bX.1 Z;injection Y with U X;exact⟨e,V,U⟩
  rcases Pv.find w hl es.toList (λe V=>by
   obtain⟨x,hx,Z,_⟩:=M e V;rw[Z];exact KI (S x hx).1)with⟨Z,Y⟩|⟨j,e,Z,Y,U⟩
  {left;refine⟨Gi (λx hx hc=> ?_),Z⟩;obtain⟨e,V,X⟩:=T x hx;exact Y e V (by rw[X,hc.1,hc.2])};right;obtain⟨x,hx,X,G⟩:=M e (bY Y);rw[U]at X;obtain⟨J,H⟩:=Xv X;refine⟨x.2.2,j,?_,by rw[Z,G]⟩;rw[J,H];exact(S x hx).2
def qw.look {b:Nat} (h:qw w b E)(U:EJ E) {r p:Int} (V:1<=r/\r<=6/\0<=p/\p<=2):
 (gM 184 (.map (μ b)) (yk r p) true).run gg w=.ok (τ #[ι κ ((mM E r p).getD 0),.bool (mM E r p).isSome]) w:=by
  obtain⟨es,clock,X,T⟩:=h;obtain⟨l,hl⟩:=KI V;have S:(zeroValue 3).run gg w=.ok (ι κ 0) w:=iV;have hc:=Pv.check w es.isEmpty hl;unfold gM;simp only[iJ,run_underlying underlying184,fL,iY X,iK,hc];obtain⟨Z,Y⟩|⟨m,j,Z,Y⟩:=qw.find X T U V;{simp only[Y,fL,iJ,S,iK,Z];rfl};simp only[Y,fL,Z];rfl
def qw.store {b:Nat} (h:qw w b E)(T:EJ E) {r p m:Int} (U:1<=r/\r<=6/\0<=p/\p<=2)(Q:mM E r p=ν):
 ∃w',(gK 184 (.map (μ b)) (yk r p) (ι κ m)).run gg w=.ok () w'/\qw w' b (E++ [(r,p,m)])/\w'.os=w.os/\w'.tape=w.tape/\w'.output=w.output/\w'.heap.size=w.heap.size/\∀k,k≠b->w'.heap[k]? =w.heap[k]? :=by
  obtain⟨es,clock,Z,V⟩:=h;obtain⟨l,hl⟩:=KI U;have hc:=Pv.check w false hl;have M:b<w.heap.size:=(aE.1 Z).1;obtain⟨Y,X⟩|⟨m',j,Y,X⟩:=qw.find Z V T U;{refine⟨{w with heap:=w.heap.setIfInBounds b (.map (es.push {key:=yk r p,val:=.int .i64 m,born:=clock}) (clock+1))},?_,⟨es.push {key:=yk r p,val:=.int .i64 m,born:=clock},clock+1,?_,?_⟩,rfl,rfl,rfl,gZ,λk S=> ?_⟩;{unfold gK;simp only[iJ,run_underlying underlying184,fL,iY Z,hc,X,Go.MapKept.run_setObj_map _ Z]};{simp[M]};{simp[V]};show(w.heap.setIfInBounds b _)[k]? =_;rw[Array.getElem?_setIfInBounds_ne (λe=>S e.symm)]};rw[Q]at Y;simp at Y
def Gj(r:jO):r.change.n=r.n:=by
 unfold jO.change jO.behind;split;{rfl};split<;>rfl
def CA(r:jO)(s:Int):(r.behind s).id=r.id:=by
 unfold jO.behind;split<;>rfl
def Xw(r:jO)(s:Int):(r.behind s).n=r.n:=by
 unfold jO.behind;split<;>rfl
def Jt(r:jO):r.change.id=r.id:=by
 unfold jO.change;split;{rfl};exact CA r _
def CB(r:jO)(i:Nat)(q:mX):(r.meet i q).n=r.n:=by
 unfold jO.meet;simp only;split;{rfl};split;{exact Gj _};exact Gj _
def EK(r:jO)(i:Nat)(q:mX):(r.meet i q).id=r.id:=by
 unfold jO.meet;simp only;split;{rfl};split;{exact Jt _};exact Jt _
section
variable {w W:World} {z:Zt} {r:jO} {n N:Nat} {C:Array Value} {t:TypeId}
def Xx(h:qu w W z r n N C t)(i:Nat)(hi:i<r.n):
 gb gg 124 #[π (μ ⟨z.Bb,0,ν⟩),ι κ (i:Int)] W λe w'=>e=ρ (τ #[])/\qu w w' z {r with O:=λx=>if x=i then λ_=>ν else r.O x} n N C t:=by
  have Y:=h.nn;subst Y;refine h.call rfl λX Z hl=> ?_;rw[<-hl.Bb];exact Xt X r i W Z hi
def Px(h:qu w W z r n N C t)(X:nh r):
 gb gg 125 #[π (μ ⟨z.R,0,ν⟩)] W λe w'=>e=ρ (τ #[])/\qu w w' z r.change n N C t:=by
  have Y:=h.nn;subst Y;refine h.call (Gj r) λV Z hl=> ?_;rw[<-hl.R];exact Pt V r W Z X
def Xy(h:qu w W z r n N C t)(i:Nat)(hi:i<n):
 gb gg 126 #[π (μ ⟨z.Bb,0,ν⟩),ι κ (i:Int)] W λe w'=>e=ρ η/\jy w w' z {r with O:=λx=>if x=i then sA (r.O i) r.K else r.O x} n:=by
  have Y:=h.nn;subst Y;refine h.wz.call λX Z hl=> ?_;rw[<-hl.Bb];exact TA X r i W Z hi
end
def ym(z:Zt)(r:jO)(i:Nat)(q:mX)(w:fA)(h:n9 w z r)(jR:nh r)(hi:i<r.n)(hq:qe r.id q):
 gb gg 74 #[π (μ ⟨z.R,0,ν⟩),.int .i64 (i:Int),.agg #[.int .i64 q.who,.bool q.both,.int .i64 q.left]] w λe w'=>e=ρ (τ #[])/\jy w w' z (r.meet i q) r.n:=by
  have mR:(i:Int)<(r.n:Int):=fC;have KB:(0:Int)<=(i:Int):=fC;have hzp:=FN;obtain⟨p,hp⟩:=fH (r.P i);have ba:=gu w (γ #[.int .i64 q.who,.bool q.both,.int .i64 q.left] 116);have bb:=fQ ba (gu (w.alloc (γ #[.int .i64 q.who,.bool q.both,.int .i64 q.left] 116)) (γ #[.int .i64 p.pe.who,.bool p.pe.both,.int .i64 p.pe.left] 116));have M:=h.below ba;have c1:=M.c1;have cl:=M.lt;have g1:=(M.pt i hi).c67;have g2:=(M.pt i hi).c68;have g3:=(M.pt i hi).c69;have gl:=M.Lz;rw[hp]at g1 g2 g3;have R2:=h.below bb;have T:j2 ((w.alloc (γ #[.int .i64 q.who,.bool q.both,.int .i64 q.left] 116)).alloc (γ #[.int .i64 p.pe.who,.bool p.pe.both,.int .i64 p.pe.left] 116)) w.heap.size #[.int .i64 q.who,.bool q.both,.int .i64 q.left] 116:=(j2.new w _ _).below (gu _ _);have X:j2 ((w.alloc (γ #[.int .i64 q.who,.bool q.both,.int .i64 q.left] 116)).alloc (γ #[.int .i64 p.pe.who,.bool p.pe.both,.int .i64 p.pe.left] 116)) (w.heap.size+1) #[.int .i64 p.pe.who,.bool p.pe.both,.int .i64 p.pe.left] 116:=j2.Ib _ _ _ _ gZ;have HR:Hid _:=h;have Xz:Hid _:=jR;have HP:Hid _:=hp;clear jR M hp;go_in;go_wp2_with fail;obtain⟨Z,lK⟩:=fH ((w.alloc (γ #[.int .i64 q.who,.bool q.both,.int .i64 q.left] 116)).alloc (γ #[.int .i64 p.pe.who,.bool p.pe.both,.int .i64 p.pe.left] 116));rw[lK]at bb R2 T X;rw[lK];have J:¬z.mine r.n w.heap.size:=h.wA (aj _);have hgN:z.g<w.heap.size:=h.Lz;obtain⟨N,hN⟩:=fH (w.heap.size);rw[hN]at T X J hgN;rw[hN];have Rd:=R2.below (j4 Z);have hPe:=(Rd.pt i hi).peer q;have H:=Rd.port hi hPe
  have hBs:qu Z (((Z.drew.setCell ⟨z.g,i*71+67,ν⟩ (.int .i64 q.who)).setCell ⟨z.g,i*71+68,ν⟩ (.bool q.both)).setCell ⟨z.g,i*71+69,ν⟩ (.int .i64 q.left)) z (r.jW i {p with pe:=q}) r.n N #[.int .i64 q.who,.bool q.both,.int .i64 q.left] 116:=by
   rw[HP.out]at H;exact⟨jy.first R2 rfl (j4 Z) (λ_=>H),((T.drew.other fC _).other fC _).other fC _,rfl,T.lt,J⟩
  have ahK:j2 (((Z.drew.setCell ⟨z.g,i*71+67,ν⟩ (.int .i64 q.who)).setCell ⟨z.g,i*71+68,ν⟩ (.bool q.both)).setCell ⟨z.g,i*71+69,ν⟩ (.int .i64 q.left)) (N+1) #[.int .i64 p.pe.who,.bool p.pe.both,.int .i64 p.pe.left] 116:=((X.drew.other fC _).other fC _).other fC _;have e1:=Rd.c1;have eg:=Rd.Lz;have el:=Rd.lt;have y0:Z.drew.cell? ⟨N,0,ν⟩=μ (ι κ q.who):=T.cell 0;have y1:Z.drew.cell? ⟨N,1,ν⟩=μ (.bool q.both):=T.cell 1;have y2:Z.drew.cell? ⟨N,2,ν⟩=μ (.int .i64 q.left):=T.cell 2;have x7:=(Rd.pt i hi).c67;have x8:=(Rd.pt i hi).c68;have x9:=(Rd.pt i hi).c69;have f7:=(Rd.pt i hi).fz 67 fF;have f8:=(Rd.pt i hi).fz 68 fF;have f9:=(Rd.pt i hi).fz 69 fF;rw[HP.out]at x7 x8 x9
  have hS:((Z.setCell ⟨z.g,i*71+67,ν⟩ (.int .i64 q.who)).drew.cell? ⟨z.g,i*71+67+1,ν⟩=μ (.bool p.pe.both)/\(Z.setCell ⟨z.g,i*71+67,ν⟩ (.int .i64 q.who)).drew.frozen? ⟨z.g,i*71+67+1,ν⟩=false)/\(((Z.setCell ⟨z.g,i*71+67,ν⟩ (.int .i64 q.who)).setCell ⟨z.g,i*71+67+1,ν⟩ (.bool q.both)).drew.cell? ⟨z.g,i*71+67+2,ν⟩=μ (.int .i64 p.pe.left)/\((Z.setCell ⟨z.g,i*71+67,ν⟩ (.int .i64 q.who)).setCell ⟨z.g,i*71+67+1,ν⟩ (.bool q.both)).drew.frozen? ⟨z.g,i*71+67+2,ν⟩=false):=by
   obtain⟨F,hC,_⟩:=(Rd.pt i hi).yY;rw[HP.out]at hC;have h1:=hC.set 67 fF (ι κ q.who);have h2:=h1.set 68 fF (.bool q.both);exact⟨⟨h1.cell 68 fF,h1.fz 68 fF⟩,h2.cell 69 fF,h2.fz 69 fF⟩
  obtain⟨⟨s1,s2⟩,s3,s4⟩:=hS;clear x8 x9 f8 f9;have D:Hid _:=bb;have HR2:Hid _:=R2;have A:Hid _:=hBs;have HQ:Hid _:=hq;clear h hq lK Rd hPe H hBs bb R2 T X ba c1 cl g1 g2 g3 gl;go_region;obtain⟨S,oW⟩:=fH ((((Z.setCell ⟨z.g,i*71+67,ν⟩ (.int .i64 q.who)).setCell ⟨z.g,i*71+67+1,ν⟩ (.bool q.both)).setCell ⟨z.g,i*71+67+2,ν⟩ (.int .i64 q.left)).drew);rw[oW];have Q:qu Z S z (r.jW i {p with pe:=q}) r.n N #[.int .i64 q.who,.bool q.both,.int .i64 q.left] 116:=by rw[<-oW];exact A.out
  have X:j2 S (N+1) #[.int .i64 p.pe.who,.bool p.pe.both,.int .i64 p.pe.left] 116:=by rw[<-oW];exact ahK
  have y0:S.cell? ⟨N,0,ν⟩=μ (ι κ q.who):=Q.pT.cell 0;have y1:S.cell? ⟨N,1,ν⟩=μ (.bool q.both):=Q.pT.cell 1;have u0:S.cell? ⟨N+1,0,ν⟩=μ (ι κ p.pe.who):=X.cell 0;have u1:S.cell? ⟨N+1,1,ν⟩=μ (.bool p.pe.both):=X.cell 1;have nl:=Q.pT.lt;have nl6:=X.lt;have d2:=Q.wz.c2;have dl:=Q.wz.lt;have yV:Hid _:=Q
  have V:Hid (r.meet i q=if q.who=p.pe.who/\q.both=p.pe.both then r.jW i {p with pe:=q}else if q.both=true then {(({r.jW i {p with pe:=q}with O:=λx=>if x=i then λ_=>ν else r.O x}:jO).change)with O:=λx=>if x=i then sA ((({r.jW i {p with pe:=q}with O:=λx=>if x=i then λ_=>ν else r.O x}:jO).change).O i) (({r.jW i {p with pe:=q}with O:=λx=>if x=i then λ_=>ν else r.O x}:jO).change).K else(({r.jW i {p with pe:=q}with O:=λx=>if x=i then λ_=>ν else r.O x}:jO).change).O x}else({r.jW i {p with pe:=q}with O:=λx=>if x=i then λ_=>ν else r.O x}:jO).change):=by
   show _=_;unfold jO.meet;rw[HP.out];rfl
  obtain⟨r1,mQ⟩:=fH (r.jW i {p with pe:=q});have mI:nh r1:=by rw[<-mQ];exact Xz.out.jW i _ (by rw[HP.out]) (λ_=>HQ.out)
  have oA:r1.n=r.n:=by rw[<-mQ];rfl
  have hO1:r1.O=r.O:=by rw[<-mQ];rfl
  rw[mQ]at yV V;rw[<-hO1]at V;have G:Hid (∀W rr,jy Z W z rr r.n->jy w W z rr r.n):=λW rr hw=>jy.first HR.out rfl D.out (λ_=>hw);have En:Hid _:=mI;have HN1:Hid _:=oA;clear oW Q X ahK mQ mI oA hO1 A HP HQ Xz s1 s2 s3 s4 x7 f7 e1 eg el HR2 D HR hgN J hzp;by_cases hs:q.who=p.pe.who/\q.both=p.pe.both
  ·have q1:(q.who==p.pe.who)=true:=by simp[hs.1]
   have q2:(q.both==p.pe.both)=true:=by simp[hs.2]
   have HE:Hid (jy w S z (r.meet i q) r.n):=by
    show jy _ _ _ _ _;rw[V.out,ag hs];exact G.out _ _ yV.out.wz
   clear hs V G yV;go_wp2_with fail;refine nX rfl rfl ?_;exact⟨rfl,HE.out⟩
  obtain⟨Y,ue⟩:∃Y:jO,({r1 with O:=λx=>if x=i then λ_=>ν else r1.O x}:jO)=Y:=⟨_,rfl⟩
  have hp2:gb gg 124 #[π (μ ⟨z.Bb,0,ν⟩),.int .i64 (i:Int)] S λe w'=>e=ρ (τ #[])/\qu Z w' z Y r.n N #[.int .i64 q.who,.bool q.both,.int .i64 q.left] 116:=by
   refine(Xx yV.out i (by rw[HN1.out];exact hi)).mono ?_;rintro e w3 ⟨rfl,hw⟩;exact⟨rfl,by rw[<-ue];exact hw⟩
  have hch:Hid (∀W,qu Z W z Y r.n N #[.int .i64 q.who,.bool q.both,.int .i64 q.left] 116->gb gg 125 #[π (μ ⟨z.R,0,ν⟩)] W λe w'=>e=ρ (τ #[])/\qu Z w' z Y.change r.n N #[.int .i64 q.who,.bool q.both,.int .i64 q.left] 116):=by
   intro W H;have Py:nh Y:=by rw[<-ue];exact En.out.Ak _
   exact Px H Py
  have KJ:Hid (∀W,qu Z W z Y.change r.n N #[.int .i64 q.who,.bool q.both,.int .i64 q.left] 116->gb gg 126 #[π (μ ⟨z.Bb,0,ν⟩),.int .i64 (i:Int)] W λe w'=>e=ρ η/\jy Z w' z {Y.change with O:=λx=>if x=i then sA (Y.change.O i) Y.change.K else Y.change.O x} r.n):=by
   intro W H;exact Xy H i hi
  rw[af hs,ue]at V
  have HNE:Hid ((q.who==p.pe.who)=false \/(q.who==p.pe.who)=true/\(q.both==p.pe.both)=false):=by
   show _ \/_;cases h1:(q.who==p.pe.who);{exact .inl rfl};refine .inr ⟨rfl,?_⟩;cases h2:(q.both==p.pe.both);{rfl};exact absurd ⟨by simpa using h1,by simpa using h2⟩ hs
  clear hs ue En HN1;obtain q1|⟨q1,q2⟩:=HNE.out
  all_goals
   clear HNE;go_wp2_with fail;refine hp2.mono ?_;rintro e W3 ⟨rfl,Vo⟩;have hc3:=hch.out _ Vo;clear hp2 hch Vo yV y0 y1 u0 u1 nl nl6 d2 dl;go_wp2_with fail;refine hc3.mono ?_;rintro e W4 ⟨rfl,U⟩;have y1:W4.cell? ⟨N,1,ν⟩=μ (.bool q.both):=U.pT.cell 1;have nl:=U.pT.lt;have d2:=U.wz.c2;have dl:=U.wz.lt;clear hc3;cases hb:q.both with
   |false=>
    rw[hb]at y1;have HE:Hid (jy w W4 z (r.meet i q) r.n):=by
     show jy _ _ _ _ _;rw[V.out,hb,af gZ];exact G.out _ _ U.wz
    clear V G KJ U;go_wp2_with fail
    go_end0
    exact⟨rfl,HE.out⟩
   |true=>
    rw[hb]at y1;have hm5:=KJ.out _ U;have HE:Hid (∀W,jy Z W z {Y.change with O:=λx=>if x=i then sA (Y.change.O i) Y.change.K else Y.change.O x} r.n->jy w W z (r.meet i q) r.n):=by
     intro W hw;rw[V.out,hb,ag rfl];exact G.out _ _ hw
    clear V G KJ U;go_wp2_with fail;refine hm5.mono ?_;rintro e W5 ⟨rfl,LB⟩;have Oa:=HE.out _ LB;clear hm5 LB;go_wp2_with fail
    go_end0
    exact⟨rfl,Oa⟩
def KK(C:l8)(r:Nat):(mE C r).length<=7:=tM _ _
def Ju(z:Zt)(r:jO)(w:fA)(h:n9 w z r)(hK:ZJ r.K):
 gb gg 64 #[π (μ ⟨z.R,0,ν⟩)] w λe w'=>∃b c,e=ρ (σ b (n8 r).length c)/\HsN w w' b (n8 r).length (n8 r)/\fP w w':=by
  have V:=h.below (j4 w);have A:r.id=((r.id.toNat:Nat):Int):=by have:=h.id;omega
  have Y:gb gg 110 #[π (μ ⟨z.Bb,0,ν⟩)] w.drew λe w'=>∃a n cap,e=ρ (σ a n cap)/\(∀W,fP w' W->gb gg 116 #[σ a n cap,ι κ r.id] W λe X=>∃b c,e=ρ (σ b (n8 r).length c)/\HsN w X b (n8 r).length (n8 r)/\fP w X/\(X.cell? ⟨z.R,0,ν⟩=μ (ι κ r.id)/\X.cell? ⟨z.R,2,ν⟩=μ (π (μ ⟨z.Bb,0,ν⟩))))/\(w'.cell? ⟨z.R,0,ν⟩=μ (ι κ r.id)/\w'.cell? ⟨z.R,2,ν⟩=μ (π (μ ⟨z.Bb,0,ν⟩))):=by
   refine(Mq z.Bb z.fm 6 r.K r.O w.drew V.bs).mono ?_;rintro e w1 ⟨a,n,cap,S,E,rfl,hS,D,h6,_,b1⟩;have M:=V.below b1;refine⟨a,n,cap,rfl,λW Q=> ?_,M.c0,M.c2⟩;have hh:=Xi a n cap S E r.id.toNat W (hS.below Q) fC D.ok (by have:=h.id;omega) (by have:=h.id;omega);rw[<-A]at hh;rw[xt.ahG D hK]at hh;refine hh.mono ?_;rintro e X ⟨b,c,rfl,U,b2⟩;have G:=(M.below Q).below b2;exact⟨b,c,rfl,⟨U.r,λx e=>au (fQ (fQ (j4 w) b1) Q).size (U.nw x e)⟩,fQ (fQ (fQ (j4 w) b1) Q) b2,G.c0,G.c2⟩
  have Z:=And.intro V.c0 V.c2;generalize n8 r=L at Y⊢;generalize z.R=T at Y Z⊢;generalize z.Bb=Bb at Y Z;generalize r.id=id at Y Z;clear h V A;have Z:w.drew.cell? ⟨T,0,ν⟩=μ (ι κ id)/\w.drew.cell? ⟨T,2,ν⟩=μ (π (μ ⟨Bb,0,ν⟩)):=Z;go_in;go_wp2
  go_region_held3(λx=>x.cell? ⟨T,0,ν⟩=μ (ι κ id)/\x.cell? ⟨T,2,ν⟩=μ (π (μ ⟨Bb,0,ν⟩)))
   (first|assumption|exact Z|exact J|exact H)
   (first
    |(go_at_call 110;refine Y.mono ?_;rintro e w1 ⟨a,n,cap,rfl,hh,J⟩)
    |(go_at_call 116;refine(hh _ (aC _ _)).mono ?_;rintro e X ⟨b,c,rfl,U,b2,H⟩))
  all_goals(have HH:Hid _:=U;clear Y hh Z J H U;go_wp2;go_ret;(first|exact⟨b,c,rfl,HH.out,b2⟩|exact⟨b,⟨c,rfl,HH.out,b2⟩⟩))
def onP(r:jO)(t h:Int):Option Nat:=if 1<=h then(ye (n8 r) t).bind λx=>kQ r.P x.qT r.n else ν
def uR(F:Int->Option PS)(j m:Nat):List (Int×PS):=(List.range' j m).filterMap λ(j:Nat)=>(F ((j:Int)+1)).map λq=>((j:Int)+1,q)
def Pz(F:Int->Option PS):nu F=uR F 0 6:=by unfold nu uR;rw[dL]
def vR {F:Int->Option PS} {n:Nat} {S:Nat->SV} {E:Nat->List kS} (h:xt F n S E):∀(m j k:Nat),j+m=6->k<=n->(∀i<k,(S i).own<=j)->(∀i,k<=i->i<n->(j:Int)<(S i).own)->uR F j m=(List.range' k (n-k)).map λi=>((S i).own,((S i).seq,E i))
 |0,j,k,hj,hk,h1,h2=>by
  have:n-k=0:=by
   by_cases e:k<n;{have Y:=h2 k (aj _) e;have Z:=(kD (h.ok k e)).1;omega};{omega}
  rw[this];rfl
 |m+1,j,k,hj,hk,h1,h2=>by
  have e:uR F j (m+1)=(match F ((j:Int)+1)with|none=>uR F (j+1) m|some q=>((j:Int)+1,q)::uR F (j+1) m):=by
   unfold uR;rw[eF,bG];cases F ((j:Int)+1)<;>simp
  rw[e];cases hF:F ((j:Int)+1)with
  |none=>
   simp only;refine vR h m (j+1) k fC hk (λi hi=>by have:=h1 i hi;omega) (λi Y Z=> ?_);have h5:=h2 i Y Z;have h6:(S i).own≠(j:Int)+1:=λe=>by
    have:=(h.at_ i Z).2;rw[e,hF]at this;cases this
   omega
  |some q=>
   simp only;obtain⟨i,hi,V⟩:=h.all ((j:Int)+1) ⟨fC,fC⟩ (by rw[hF];rfl);have hki:k<=i:=by
    by_cases e:i<k;{have:=h1 i e;omega};{omega}
   have X:i=k:=by
    by_cases e:i=k;{exact e};{have Y:=h.Vm k i fC hi;have Z:=h2 k (aj _) fC;omega}
   subst X;have U:=(h.at_ i hi).2;rw[V,hF]at U;have T:=aL U;have en:n-i=(n-(i+1))+1:=fC;rw[en,eF,fj,V,<-T];congr 1;refine vR h m (j+1) (i+1) fC fC (λx hx=> ?_) (λx Y Z=> ?_);{by_cases e:x=i;{subst e;omega};{have:=h1 x fC;omega}};{have:=h.Vm i x fC Z;omega}
def TB {F:Int->Option PS} {S:Nat->SV} {E:Nat->List kS} (h:xt F n S E):nu F=(gw n).map λi=>((S i).own,((S i).seq,E i)):=by
 rw[Pz,vR h 6 0 0 rfl (aw _) (λi hi=>fC) (λi _ hi=>by have:=(kD (h.ok i hi)).1;omega),dL];rfl
def XA(B:Nat)(m:FM)(k:Nat)(K:Int->Option PS)(O:Nat->Int->Option PS)(p:Nat)(w:fA)(h:BR w B m k K O)(Y:p<m.bs.length):
 gb gg 151 #[π (μ ⟨B,0,ν⟩),ι κ (p:Int)] w λe w'=>∃a n cap S E,e=ρ (σ a n cap)/\xE w' a n S E/\xt (O p) n S E/\n<=6/\(∀j,fD (σ a n cap)=μ j->w.heap.size<j)/\(∀i<n,∀j,fD (σ (S i).a (S i).n (S i).cap)=μ j->w.heap.size<j)/\fP w w':=by
  obtain⟨kn,ow,hF,hT,X⟩:=h.ex;refine(Wv B m k kn ow (oG (O p)) p w hF Y (X p Y).fine).mono ?_;rintro e w1 ⟨v,ts,rfl,Z⟩;obtain⟨a,cap,rfl,V,U,T,Q⟩:=Z.lists (X p Y);refine⟨a,ts.length,cap,_,_,rfl,V,U,T,Q,λi hi j M=> ?_,Z.ph⟩
  have J:ts.getD i SV.zero∈ts:=by
   have:ts.getD i SV.zero=ts[i] :=by simp[List.getD,hi]
   rw[this];exact aO hi
  exact((Z.el _ J).new j M).1
def DA:∀(l:List (Int×PS)) (p:kB) (q:Int×PS),p.mA (l++ [q])=(p.mA l).put 83 (tI q.1 q.2.1 q.2.2)
 |[],_,_=>rfl
 |x::l,p,q=>by
  show(p.put 83 (tI x.1 x.2.1 x.2.2)).mA (l++ [q])=((p.put 83 (tI x.1 x.2.1 x.2.2)).mA l).put _ _;exact DA l _ q
def Aq:∀(l:List (Int×PS)) (p:kB),(p.mA l).out.length<=p.out.length+126*l.length
 |[],p=>by simp[kB.mA]
 |x::l,p=>by
  have h1:=Aq l (p.put 83 (tI x.1 x.2.1 x.2.2));have h2:=yZ p 83 (tI x.1 x.2.1 x.2.2);have e:p.mA (x::l)=(p.put 83 (tI x.1 x.2.1 x.2.2)).mA l:=rfl;rw[e,dh];omega
def tX(p:kB)(c:UInt8)(s:List UInt8):(p.put c s).pe=p.pe:=by
 unfold kB.put;split;{rfl};split<;>rfl
def CD(r:jO)(i:Nat)(p q:kB):(r.jW i p).jW i q=r.jW i q:=by
 have:m8 (m8 r.P i p) i q=m8 r.P i q:=by
  funext x;unfold m8;by_cases e:x=i;{simp[e]};simp[e]
 (show({r with P:=m8 (m8 r.P i p) i q}:jO)={r with P:=m8 r.P i q});rw[this]
def oa(r:jO)(i:Nat):jO:=
 let p:=(r.P i).put 72 [kI r.id,kI (r.P i).pe.who]
 r.jW i (if(r.P i).pe.both=true then p.mA (nu (r.O i))else p)
def kc.wz {z:Zt} (h:jy w w' z r n)(Y:n9 w z r0) {a:Option fq} {cap:Nat} (U:kc w a m es)(V:∀j,fD (σ a m cap)=μ j->¬z.mine n j):kc w' a m es:=by
 refine⟨U.1,?_⟩;obtain Z|⟨b,off,rfl,Z⟩:=U.2;{exact .inl Z};exact .inr ⟨b,off,rfl,λj X=>⟨h.cell Y (p:=⟨b,_,ν⟩) (V b rfl) (Z j X).1,h.cell Y (p:=⟨b,_,ν⟩) (V b rfl) (Z j X).2⟩⟩
def xE.wz {w w':fA} {z:Zt} {r r0:jO} {n:Nat} (h:jy w w' z r n)(Y:n9 w z r0) {a:Option fq} {m cap:Nat} {S:Nat->SV} {E:Nat->List kS} (hs:xE w a m S E)(X:∀j,fD (σ a m cap)=μ j->¬z.mine n j)(U:∀i<m,∀j,fD (σ (S i).a (S i).n (S i).cap)=μ j->¬z.mine n j):xE w' a m S E:=by
 refine⟨?_,λj Z=>⟨kc.wz h Y (hs.opt j Z).1 (U j Z),(hs.opt j Z).2⟩⟩;obtain V|⟨b,off,rfl,V⟩:=hs.row;{exact .inl V};refine .inr ⟨b,off,rfl,λj Z=> ?_⟩;obtain⟨c1,c2,c3⟩:=V j Z;exact⟨h.cell Y (p:=⟨b,_,ν⟩) (X b rfl) c1,h.cell Y (p:=⟨b,_,ν⟩) (X b rfl) c2,h.cell Y (p:=⟨b,_,ν⟩) (X b rfl) c3⟩
def XB(z:Zt)(r:jO)(i:Nat)(w:fA)(h:n9 w z r)(jR:nh r)(hi:i<r.n)(uL:(r.P i).out.length<=700000000):
 gb gg 85 #[π (μ ⟨z.R,0,ν⟩),ι κ (i:Int)] w λe w'=>e=ρ (τ #[])/\jy w w' z (oa r i) r.n:=by
  have mR:(i:Int)<(r.n:Int):=fC;have KB:(0:Int)<=(i:Int):=fC;obtain⟨p,A⟩:=fH (r.P i);rw[A]at uL
  have zy:Hid (∀W,fP w W->W.cell? ⟨z.R,0,ν⟩=μ (.int .i64 r.id)/\W.cell? ⟨z.g,i*71+67,ν⟩=μ (.int .i64 p.pe.who)/\W.cell? ⟨z.g,i*71+67+1,ν⟩=μ (.bool p.pe.both)/\W.cell? ⟨z.g,i*71+67+2,ν⟩=μ (.int .i64 p.pe.left)):=by
   intro W U;have R:=h.below U;rw[<-A];exact⟨R.c0,(R.pt i hi).c67,(R.pt i hi).c68,(R.pt i hi).c69⟩
  have pX:=jR.pe i hi;rw[A]at pX
  have XC:∀W,fP w W->gb gg 149 #[.agg #[.int .i64 p.pe.who,.bool p.pe.both,.int .i64 p.pe.left],.int .i64 r.id] W λe w'=>e=ρ (.agg #[.int .i64 r.id,.int .i64 p.pe.who])/\fP w w'/\(w'.cell? ⟨z.R,0,ν⟩=μ (.int .i64 r.id)/\w'.cell? ⟨z.g,i*71+67,ν⟩=μ (.int .i64 p.pe.who)/\w'.cell? ⟨z.g,i*71+67+1,ν⟩=μ (.bool p.pe.both)/\w'.cell? ⟨z.g,i*71+67+2,ν⟩=μ (.int .i64 p.pe.left)):=by
   intro W U;refine(WN p.pe.who p.pe.left r.id p.pe.both W).mono ?_;rintro e w1 ⟨rfl,b1⟩;exact⟨rfl,fQ U b1,zy.out _ (fQ U b1)⟩
  have ahL:∀W,fP w W->gb gg 148 #[.agg #[.int .i64 r.id,.int .i64 p.pe.who]] W λe w'=>e=ρ (τ #[.string ⟨#[u8 r.id,u8 p.pe.who]⟩,η])/\fP w w'/\(w'.cell? ⟨z.R,0,ν⟩=μ (.int .i64 r.id)/\w'.cell? ⟨z.g,i*71+67,ν⟩=μ (.int .i64 p.pe.who)/\w'.cell? ⟨z.g,i*71+67+1,ν⟩=μ (.bool p.pe.both)/\w'.cell? ⟨z.g,i*71+67+2,ν⟩=μ (.int .i64 p.pe.left)):=by
   intro W U;have h1:=jR.id;have h2:=pX.who;refine(MB r.id p.pe.who W h1.1 h1.2 h2.1 h2.2 (by simp[wu];omega)).mono ?_;rintro e w1 ⟨rfl,b1⟩;exact⟨rfl,fQ U b1,zy.out _ (fQ U b1)⟩
  obtain⟨Z,D8⟩:=fH (p.put 72 [kI r.id,kI p.pe.who])
  have EI:Z.out.length<=700000126:=by
   rw[<-D8];have:=yZ p 72 [kI r.id,kI p.pe.who];omega
  have Mz:Z.pe=p.pe:=by rw[<-D8];exact tX _ _ _
  obtain⟨r1,G⟩:=fH (r.jW i Z);have Q:r1.n=r.n:=by rw[<-G];rfl
  have hP1:r1.P i=Z:=by rw[<-G];exact kJ _ _ _
  have hO1:r1.O=r.O:=by rw[<-G];rfl
  have qb:Hid (∀W,fP w W->gb gg 150 #[π (μ ⟨z.g,i*71,ν⟩),.string ⟨#[72]⟩,.string ⟨#[u8 r.id,u8 p.pe.who]⟩] W λe w'=>e=ρ (τ #[])/\jy w w' z r1 r.n):=by
   intro W U;have R:=h.below U;have Dz:=R.pt i hi;rw[A]at Dz;refine(EH z.g (i*71) (z.B i) (z.v i) p ⟨#[72]⟩ ⟨#[u8 r.id,u8 p.pe.who]⟩ 72 W Dz rfl (by show 2<=1000;omega) fC).mono ?_;rintro e w1 ⟨rfl,hw⟩;have wV:nE W w1 z.g (i*71) (z.B i) (z.v i) Z:=by rw[<-D8];exact hw
   rw[<-G];exact⟨rfl,jy.first h rfl U (λ_=>R.port hi wV)⟩
  have hE:oa r i=r.jW i (if p.pe.both=true then Z.mA (nu (r.O i))else Z):=by
   unfold oa;rw[A];simp only[D8]
  have XD:Hid (p.pe.both=false->oa r i=r1):=by
   intro e;rw[hE,af (by simp[e]),G]
  have J:Hid (p.pe.both=true->oa r i=r1.jW i (Z.mA (nu (r.O i)))):=by
   intro e;rw[hE,ag e,<-G];exact(CD r i Z _).symm
  have b0:=j4 w;have R0:=h.below b0;have c1:=h.c1;have cl:=h.lt;have gl0:=h.Lz;have F0:w.drew.cell? ⟨z.R,0,ν⟩=μ (.int .i64 r.id)/\w.drew.cell? ⟨z.g,i*71+67,ν⟩=μ (.int .i64 p.pe.who)/\w.drew.cell? ⟨z.g,i*71+67+1,ν⟩=μ (.bool p.pe.both)/\w.drew.cell? ⟨z.g,i*71+67+2,ν⟩=μ (.int .i64 p.pe.left):=zy.out _ b0;have HR:Hid _:=h;clear h jR pX R0 hE A;go_in;go_wp2
  go_region_held3(λx=>x.cell? ⟨z.R,0,ν⟩=μ (.int .i64 r.id)/\x.cell? ⟨z.g,i*71+67,ν⟩=μ (.int .i64 p.pe.who)/\x.cell? ⟨z.g,i*71+67+1,ν⟩=μ (.bool p.pe.both)/\x.cell? ⟨z.g,i*71+67+2,ν⟩=μ (.int .i64 p.pe.left))
   (first|assumption|exact F0|exact F1|exact F2)
   (first
    |(go_at_call 149;refine(XC _ b0).mono ?_;rintro e w1 ⟨rfl,b1,F1⟩)
    |(go_at_call 148;refine(ahL _ b1).mono ?_;rintro e w2 ⟨rfl,b2,F2⟩))
  all_goals
   have Dz:=qb.out _ b2;clear XC ahL qb zy F0 F1 F2 c1 cl gl0;go_wp2_with fail;refine Dz.mono ?_;rintro e W4 ⟨rfl,M⟩;obtain⟨v4,hv4⟩:=M.pt (i:=i) (by rw[Q];exact hi)
   have g8:W4.cell? ⟨z.g,i*71+67+1,ν⟩=μ (.bool p.pe.both):=by
    have:=hv4.c68;rw[hP1,Mz]at this;exact this
   have gl:=M.Lz;have k2:=M.c2;have kl:=M.lt;clear Dz hv4 b1 b2;cases hb:p.pe.both with
   |false=>
    rw[hb]at g8;have HW:Hid (jy w W4 z (oa r i) r.n):=by show jy _ _ _ _ _;rw[XD.out hb];exact M
    clear M XD J;go_wp2_with fail;refine nX rfl rfl ?_;exact⟨rfl,HW.out⟩
   |true=>
    rw[hb]at g8;have HE:=J.out hb;obtain⟨z4,R4,T,Jv,ahM⟩:=M.ex;have how:=XA z4.Bb z4.fm 6 r1.K r1.O i W4 R4.bs (by rw[R4.bl,Q];exact hi);rw[T.Bb]at how;have HF:Hid (∀W,jy W4 W z4 (oa r i) r.n->jy w W z (oa r i) r.n):=λW hw=>M.rY R4 T Jv ahM hw;have X:Hid _:=R4;have HEq:Hid _:=HE;clear M HE XD J R4 Jv ahM;go_wp2_with fail;refine how.mono ?_;rintro e D ⟨a,m,cap,S,E,rfl,hS,hL,h6,kt,acT,b5⟩;have V:=TB hL;rw[hO1]at V;have R5:=X.out.below b5;have xP:∀j,fD (σ a m cap)=μ j->¬z4.mine r.n j:=λj hj=>by
     have:=X.out.wA (Nat.le_of_lt (kt j hj))
     rwa [Q]at this
    have AP:∀x<m,∀j,fD (σ (S x).a (S x).n (S x).cap)=μ j->¬z4.mine r.n j:=λx hx j hj=>by
     have:=X.out.wA (Nat.le_of_lt (acT x hx j hj))
     rwa [Q]at this
    have wX:Hid (∀wr rr,jy D wr z4 rr r.n->xE wr a m S E):=λwr rr hw=>xE.wz (cap:=cap) hw R5 hS xP AP;have amO:Hid (∀x<m,qq (S x).own (S x).seq (E x)=0):=hL.ok;have amP:Hid (∀k<m,(nu (r.O i)).take (k+1)=(nu (r.O i)).take k++ [((S k).own,((S k).seq,E k))]):=by
     intro k hk;have hlen:k<(nu (r.O i)).length:=by rw[V];simpa using hk
     rw[aJ hlen];congr 2;simp[V]
    have amQ:Hid ((nu (r.O i)).length=m):=by show _=_;rw[V];simp
    have HF5:Hid (∀W,jy D W z4 (oa r i) r.n->jy w W z (oa r i) r.n):=λW hw=>HF.out W (jy.first X.out Q b5 (λ_=>hw));have H0:Hid (jy D D z4 (r1.jW i (Z.mA ((nu (r.O i)).take 0))) r.n):=by
     show jy _ _ _ _ _;have e:r1.jW i (Z.mA ((nu (r.O i)).take 0))=r1:=by
      show r1.jW i Z=r1;rw[<-G,CD]
     rw[e,<-Q];exact jy.refl R5
    have hG4:z4.g=z.g:=T.g;have HG4:Hid _:=hG4;clear how hS hL kt acT V R5 xP AP HF hG4 b5 X T k2 kl g8 gl
    go_wp2
    go_loopw [46] (λx wr=>∃k:Nat,k<=m/\x=ι κ k/\jy D wr z4 (r1.jW i (Z.mA ((nu (r.O i)).take k))) r.n) (λx _=>m-(intOf x).toNat)
    case atStart=>exact⟨0,aw _,rfl,H0.out⟩
    case round=>
     obtain⟨k,hk,rfl,Y⟩:=hrel;by_cases lZ:k<m
     ·have pE:(k:Int)<(m:Int):=fC;have IV:(0:Int)<=(k:Int):=fC;have SR:=wX.out _ _ Y;obtain h0|⟨b,off,rfl,j0⟩:=SR.row;{omega}
      obtain⟨x0,x1,x2⟩:=j0 k lZ;have hop:=(SR.opt k lZ).1;have lz:=amO.out k lZ;have HTk:=amP.out k lZ;have xl:=ai _ _ x0;have ba:=gu wr (γ #[ι κ (S k).own,ι κ (S k).seq,σ (S k).a (S k).n (S k).cap] 40);have H:=Y.below (by show r1.n=r.n;exact Q) ba;obtain⟨pk,KC⟩:=fH (Z.mA ((nu (r.O i)).take k));have qV:pk.out.length<=800000000:=by
       rw[<-KC];have h1:=Aq ((nu (r.O i)).take k) Z;have h2:((nu (r.O i)).take k).length<=k:=cQ _ _;omega
      have wL:gb gg 152 #[π (μ ⟨z.g,i*71,ν⟩),.string ⟨#[83]⟩,.agg #[ι κ (S k).own,ι κ (S k).seq,σ (S k).a (S k).n (S k).cap]] (wr.alloc (γ #[ι κ (S k).own,ι κ (S k).seq,σ (S k).a (S k).n (S k).cap] 40)) λe w'=>e=ρ (τ #[])/\jy D w' z4 (r1.jW i (Z.mA ((nu (r.O i)).take (k+1)))) r.n:=by
       rw[HTk,DA];rw[KC]at H⊢;refine H.call λz1 R1 hl=> ?_;have xu:i<(r1.jW i pk).n:=by show i<r1.n;rw[Q];exact hi
       have ahN:=R1.pt i xu;have hPk:(r1.jW i pk).P i=pk:=kJ _ _ _;rw[hPk]at ahN;rw[<-HG4.out,<-hl.g];refine(zJ ⟨#[83]⟩ 83 (S k).own (S k).seq (S k).a (S k).n (S k).cap (E k) z1.g (i*71) (z1.B i) (z1.v i) pk _ ahN rfl (hop.below ba) lz qV).mono ?_;rintro e w6 ⟨rfl,Oa⟩;have h7:=R1.port xu Oa;rw[CD]at h7;exact⟨rfl,by rw[show r.n=(r1.jW i pk).n from Q.symm];exact h7⟩
      clear SR j0 hop lz HTk H Y KC qV ba;go_wp2_with fail;refine wL.mono ?_;rintro e w6 ⟨rfl,Oa⟩;have HW6:Hid _:=Oa;clear wL Oa
      go_wp2
      go_roundw
      case rel=>exact⟨k+1,fC,by go_num,HW6.out⟩
      case measure=>simp[intOf];omega
     ·have zD:¬(k:Int)<(m:Int):=fC;have HW:Hid (jy w wr z (oa r i) r.n):=by
       show jy _ _ _ _ _;refine HF5.out _ ?_;rw[HEq.out];have e1:(nu (r.O i)).take k=nu (r.O i):=aR (by have:=amQ.out;omega);rw[e1]at Y;exact Y
      clear Y;go_wp2_with fail
      go_end0
      exact⟨rfl,HW.out⟩
def rK {own:Int} {os:List kS} (h:ig l=(own,seq,os,0)):qq own seq os=0:=by
 unfold ig at h;split at h;{simp at h};split at h;{rename_i Z;simp only[gH,and_true]at h;obtain⟨rfl,rfl,rfl⟩:=h;exact Z};simp at h
def PA(z:Zt)(r:jO)(i:Nat)(own seq:Int)(a:Option fq)(n cap:Nat)(es:List kS)(w:fA)(h:n9 w z r)(hi:i<r.n)(X:kc w a n es)(hf:qq own seq es=0):
 gb gg 191 #[π (μ ⟨z.Bb,0,ν⟩),ι κ (i:Int),.agg #[ι κ own,ι κ seq,σ a n cap]] w λe w'=>e=ρ η/\jy w w' z {r with O:=λx=>if x=i/\0<=newF r.K own seq es then Ac (r.O i) own else r.O x} r.n:=by
  refine(OQ z.Bb z.fm 6 r.K r.O i own seq a n cap es w h.bs (uC (by have:=(kD hf).1;omega)) (by rw[h.bl];exact hi) X hf (λ_=>Fp _ _ _ _)).mono ?_;rintro e w1 ⟨rfl,Z,Y⟩;exact⟨rfl,h.base Z Y⟩
def lV(r:jO)(i:Nat)(l:List UInt8):jO:=
 let q:=St.ig l
 if q.2.2.2=0 then {r with O:=λx=>if x=i/\0<=newF r.K q.1 q.2.1 q.2.2.1 then Ac (r.O i) q.1 else r.O x}else r
def Ix(s:ByteArray)(z:Zt)(r:jO)(i:Nat)(w:fA)(h:n9 w z r)(hi:i<r.n)(hs:s.size<=1000):
 gb gg 136 #[π (μ ⟨z.R,0,ν⟩),ι κ (i:Int),.string s] w λe w'=>e=ρ (τ #[])/\jy w w' z (lV r i s.data.toList) r.n:=by
  have hp:=FR s w (by unfold maxLen;omega);have J:Hid _:=h;clear h;go_in;go_wp2_with fail;refine hp.mono ?_;rintro e w1 ⟨a,n,cap,f,own,seq,os,rfl,D,G,U,b1,lR⟩;clear hp;by_cases hf:f=0
  ·subst hf;have e0:kr 0=η:=rfl;rw[e0];have lz:=rK U
   have V:lV r i s.data.toList={r with O:=λx=>if x=i/\0<=newF r.K own seq os then Ac (r.O i) own else r.O x}:=by
    unfold lV;rw[U];rfl
   have ba:=gu w1 (γ #[ι κ own,ι κ seq,σ a n cap] 40);have hA:=λj=>ay w1 #[ι κ own,ι κ seq,σ a n cap] 40 (0,0) j;have b2:=fQ b1 (fQ ba (j4 _));have Q:=J.out.below b2;have hh:=PA z r i own seq a n cap os _ Q hi (D.below (fQ ba (j4 _))) lz
   have Y:gb gg 191 #[π (μ ⟨z.Bb,0,ν⟩),ι κ (i:Int),.agg #[ι κ own,ι κ seq,σ a n cap]] (w1.alloc (γ #[ι κ own,ι κ seq,σ a n cap] 40)).drew λe w'=>e=ρ η/\jy w w' z (lV r i s.data.toList) r.n:=by
    refine hh.mono ?_;rintro e w3 ⟨rfl,hw⟩;exact⟨rfl,by rw[V];exact jy.first J.out rfl b2 (λ_=>hw)⟩
   have c2:=Q.c2;have cl:=Q.lt;obtain⟨M,X⟩:=fH (w1.alloc (γ #[ι κ own,ι κ seq,σ a n cap] 40));obtain⟨Z,S⟩:=fH (w1.heap.size);rw[X]at Y c2 cl;have d0:M.drew.cell? ⟨Z,0,ν⟩=μ (ι κ own):=by rw[<-X,<-S];exact hA 0
   have d1:M.drew.cell? ⟨Z,1,ν⟩=μ (ι κ seq):=by rw[<-X,<-S];exact hA 1
   have d2:M.drew.cell? ⟨Z,2,ν⟩=μ (σ a n cap):=by rw[<-X,<-S];exact hA 2
   have zl:Z<M.drew.heap.size:=ai _ _ d0;obtain⟨T,A⟩:∃T:fA->Prop,(λx=>jy w x z (lV r i s.data.toList) r.n)=T:=⟨_,rfl⟩
   have H:∀x,jy w x z (lV r i s.data.toList) r.n=T x:=λx=>cN A x;simp only[H]at Y;have HT:Hid _:=H;clear hh hA ba b2 Q D U lz V G lR b1 A H;go_wp2_with fail;(try rw[X]);(try rw[S]);clear X S;go_region_with(go_at_call 191;refine Y.mono ?_;rintro e w3 ⟨rfl,hW⟩);all_goals(clear Y;go_wp2_with fail;go_end0;exact⟨rfl,by rw[HT.out];exact hW⟩)
  have ee:kr f=.iface 128 (ι κ (f:Int)):=by simp only[kr];rw[af hf]
  rw[ee]
  have V:lV r i s.data.toList=r:=by
   unfold lV;rw[U];simp only;rw[af hf]
  have HW:Hid (jy w (w1.alloc (γ #[ι κ own,ι κ seq,σ a n cap] 40)) z (lV r i s.data.toList) r.n):=by
   show jy _ _ _ _ _;rw[V];exact jy.still J.out (fQ b1 (gu _ _))
  clear U D hf ee V;go_wp2_with fail;go_end0;exact⟨rfl,HW.out⟩
def TC(z:Zt)(r:jO)(i:Nat)(own seq:Int)(a:Option fq)(n cap:Nat)(es:List kS)(w:fA)(h:n9 w z r)(hi:i<r.n)(Y:kc w a n es)(V:mG a cap)(hf:qq own seq es=0):
 gb gg 190 #[π (μ ⟨z.Bb,0,ν⟩),ι κ (i:Int),.agg #[ι κ own,ι κ seq,σ a n cap]] w λe w'=>e=ρ (τ #[ι κ (newF r.K own seq es),η])/\jy w w' z {r with K:=np r.K own seq es,O:=qL r.K r.O i own seq es} r.n/\kc w' a n es/\∀p v,w.cell? p=μ v->w'.cell? p=μ v:=by
  refine(S1 z.Bb z.fm 6 r.K r.O i own seq a n cap es w h.bs (uC (by have:=(kD hf).1;omega)) (by rw[h.bl];exact hi) Y V fC hf (λ_=>Fp _ _ _ _)).mono ?_;rintro e w1 ⟨rfl,X,Z⟩;exact⟨rfl,h.base X Z,Y.two Z h.bs,λp v hc=>kM.cell Z h.bs hc⟩
def kj(r:jO)(i:Nat)(l:List UInt8):jO:=
 let q:=St.ig l
 if q.2.2.2≠0 \/(r.P i).pe.both=false then r
 else if q.1=r.id/\0<newF r.K q.1 q.2.1 q.2.2.1 then r.behind q.2.1
 else
  let r2:jO:={r with K:=np r.K q.1 q.2.1 q.2.2.1,O:=qL r.K r.O i q.1 q.2.1 q.2.2.1}
  if 0<=newF r.K q.1 q.2.1 q.2.2.1 then r2.jW i ((r2.P i).put 65 (tI q.1 q.2.1 q.2.2.1))else r2
def S3(x:fA)(Z:Nat)(own seq:Int)(v:fB):Prop:=x.cell? ⟨Z,0,ν⟩=μ (ι κ own)/\x.cell? ⟨Z,1,ν⟩=μ (ι κ seq)/\x.cell? ⟨Z,2,ν⟩=μ v
def S3.below {y:fA} {Z:Nat} {own:Int} (h:S3 x Z own seq v)(Y:fP x y):S3 y Z own seq v:=by
 have X:=ai _ _ h.1;exact⟨(ak (a:=⟨Z,0,ν⟩) (Y.block Z X)).trans h.1,(ak (a:=⟨Z,1,ν⟩) (Y.block Z X)).trans h.2.1,(ak (a:=⟨Z,2,ν⟩) (Y.block Z X)).trans h.2.2⟩
def Iy(s:ByteArray)(z:Zt)(r:jO)(i:Nat)(w:fA)(h:n9 w z r)(jR:nh r)(hi:i<r.n)(hs:s.size<=1000)(uL:(r.P i).out.length<=800000000):
 gb gg 135 #[π (μ ⟨z.R,0,ν⟩),ι κ (i:Int),.string s] w λe w'=>e=ρ (τ #[])/\jy w w' z (kj r i s.data.toList) r.n:=by
  have hp:=FR s w (by unfold maxLen;omega);have mR:(i:Int)<(r.n:Int):=fC;have KB:(0:Int)<=(i:Int):=fC;have HR:Hid _:=h;have Xz:Hid _:=jR;clear h jR;go_in;go_wp2_with fail;refine hp.mono ?_;rintro e w1 ⟨a,n,cap,f,own,seq,os,rfl,ho,hle,hR,b1,lR⟩;clear hp;have ba:=gu w1 (γ #[ι κ own,ι κ seq,σ a n cap] 40);have hA:=λj=>ay w1 #[ι κ own,ι κ seq,σ a n cap] 40 (0,0) j;by_cases hf:f=0
  ·subst hf;have e0:kr 0=η:=rfl;rw[e0];cases hb:(r.P i).pe.both with
   |false=>
    have hE:kj r i s.data.toList=r:=by
     unfold kj;rw[hR];simp only;rw[ag (.inr hb)]
    have Q:=HR.out.below (fQ b1 ba);have HW:Hid (jy w (w1.alloc (γ #[ι κ own,ι κ seq,σ a n cap] 40)) z (kj r i s.data.toList) r.n):=by
     show jy _ _ _ _ _;rw[hE];exact jy.still HR.out (fQ b1 ba)
    have c1:=Q.c1;have cl:=Q.lt;have gl:=Q.Lz;have g1:=(Q.pt i hi).c68;rw[hb]at g1;clear hR ho hE Q hA ba;go_wp2_with fail;refine nX rfl rfl ?_;exact⟨rfl,HW.out⟩
   |true=>
    have lz:=rK hR;have b2:=fQ b1 ba;obtain⟨U,oW⟩:=fH (w1.alloc (γ #[ι κ own,ι κ seq,σ a n cap] 40));obtain⟨Z,hZ⟩:=fH (w1.heap.size);have ho2:=ho.below ba;rw[oW]at b2 ho2;have S2:S3 U Z own seq (σ a n cap):=by rw[<-oW,<-hZ];exact⟨hA 0,hA 1,hA 2⟩
    have hZw:w.heap.size<=Z:=by rw[<-hZ];exact b1.size
    have Q:=HR.out.below b2;have c1:=Q.c1;have cl:=Q.lt;have gl:=Q.Lz;have g1:=(Q.pt i hi).c68;rw[hb]at g1;have ML:=uC (k:=r.id) (by have:=Xz.out.id;omega);have PB:∀W,fP U W->gb gg 177 #[π (μ ⟨z.Bb,0,ν⟩),ι κ r.id] W λe w'=>∃b V,e=ρ (τ #[.agg #[ι κ (zF r.K r.id),ι κ (sC r.K r.id),σ b (oG r.K r.id).length V],.bool (r.K r.id).isSome])/\kc w' b (oG r.K r.id).length (oG r.K r.id)/\fP W w'/\(w'.cell? ⟨z.R,0,ν⟩=μ (ι κ r.id)/\w'.cell? ⟨z.R,2,ν⟩=μ (π (μ ⟨z.Bb,0,ν⟩))):=by
     intro W A;refine(Mr z.Bb z.fm 6 r.K r.O r.id W (Q.below A).bs ML).mono ?_;rintro e w3 ⟨b,V,rfl,XE,_,_,b3⟩;have R3:=(Q.below A).below b3;exact⟨b,V,rfl,XE,b3,R3.c0,R3.c2⟩
    have Xr:Hid (∀e∈oG r.K r.id,1<=e.1):=by
     obtain⟨q,hq,lz⟩:=Xz.out.own;have:=rR r.id q.2 0 (kD lz).2.2.2;unfold oG;rw[hq];exact λe he=>(this e he).1.1
    have hn6:n<=6:=by have:=(kD lz).2.2.1;rw[ho.1]at this;exact this
    have vh:Hid (∀W b V,kc W a n os->kc W b (oG r.K r.id).length (oG r.K r.id)->gb gg 189 #[.agg #[ι κ own,ι κ seq,σ a n cap],.agg #[ι κ (zF r.K r.id),ι κ (sC r.K r.id),σ b (oG r.K r.id).length V]] W λe w'=>e=ρ (ι κ (nI seq os (sC r.K r.id) (oG r.K r.id)))/\fP W w'):=λW b V h1 h2=>I5 own seq _ _ a b n _ cap V os _ W h1 h2 fC;have hnF:Hid (own=r.id->newF r.K own seq os=nI seq os (sC r.K r.id) (oG r.K r.id)):=by
     intro e;obtain⟨q,hq,_⟩:=Xz.out.own;unfold newF sC oG;rw[e,hq];rfl
    have hsq:(1<=own/\own<=6)/\(1<=seq/\seq<=1000000):=⟨(kD lz).1,(kD lz).2.1⟩
    have KL:Hid (own=r.id->0<newF r.K own seq os->∀W,fP U W->gb gg 180 #[π (μ ⟨z.R,0,ν⟩),ι κ seq] W λe w'=>e=ρ (τ #[])/\jy w w' z (kj r i s.data.toList) r.n):=by
     intro e1 e2 W A;have hE:kj r i s.data.toList=r.behind seq:=by
      unfold kj;rw[hR];simp only;rw[af (by simp[hb]),ag ⟨e1,e2⟩]
     refine(Gg z r seq W (Q.below A) Xz.out fC).mono ?_;rintro e w5 ⟨rfl,N8⟩;exact⟨rfl,by rw[hE];exact jy.first HR.out rfl (fQ b2 A) (λ_=>N8)⟩
    obtain⟨J,uN⟩:∃J:jO,({r with K:=np r.K own seq os,O:=qL r.K r.O i own seq os}:jO)=J:=⟨_,rfl⟩
    obtain⟨nf,hnf⟩:=fH (newF r.K own seq os);have AQ:Hid (∀W,fP U W->kc W a n os->gb gg 190 #[π (μ ⟨z.Bb,0,ν⟩),ι κ (i:Int),.agg #[ι κ own,ι κ seq,σ a n cap]] W λe w'=>e=ρ (τ #[ι κ nf,η])/\jy w w' z J r.n/\kc w' a n os/\∀p v,W.cell? p=μ v->w'.cell? p=μ v):=by
     intro W A hoW;refine(TC z r i own seq a n cap os W (Q.below A) hi hoW lR lz).mono ?_;rintro e w5 ⟨rfl,N8,Zx,hc5⟩;rw[uN]at N8;rw[hnf];exact⟨rfl,jy.first HR.out rfl (fQ b2 A) (λ_=>N8),Zx,hc5⟩
    have hP3:J.P=r.P:=by rw[<-uN]
    have xK:J.n=r.n:=by rw[<-uN]
    have qb:Hid (¬(own=r.id/\0<nf)->0<=nf->∀W,jy w W z J r.n->kc W a n os->gb gg 152 #[π (μ ⟨z.g,i*71,ν⟩),.string ⟨#[65]⟩,.agg #[ι κ own,ι κ seq,σ a n cap]] W λe w'=>e=ρ (τ #[])/\jy w w' z (kj r i s.data.toList) r.n):=by
     intro e1 e2 W A hoW;have hE:kj r i s.data.toList=J.jW i ((J.P i).put 65 (tI own seq os)):=by
      unfold kj;rw[hR];simp only;rw[af (by simp[hb]),hnf,af e1,ag e2,uN,hP3]
     rw[hE];refine A.call (r':=J.jW i ((J.P i).put 65 (tI own seq os))) λz1 R1 hl=> ?_;rw[<-hl.g];have hi3:i<J.n:=by rw[xK];exact hi
     refine(zJ ⟨#[65]⟩ 65 own seq a n cap os z1.g (i*71) (z1.B i) (z1.v i) (J.P i) W (R1.pt i hi3) rfl hoW lz (by rw[hP3];exact uL)).mono ?_;rintro e X ⟨rfl,Oa⟩;have:=R1.port hi3 Oa;rw[xK]at this;exact⟨rfl,this⟩
    have sS:Hid (¬(own=r.id/\0<nf)->¬0<=nf->∀W,jy w W z J r.n->jy w W z (kj r i s.data.toList) r.n):=by
     intro e1 e2 W A;have hE:kj r i s.data.toList=J:=by
      unfold kj;rw[hR];simp only;rw[af (by simp[hb]),hnf,af e1,af e2,uN]
     rw[hE];exact A
    rw[hnf]at KL hnF;obtain⟨T,hT⟩:∃T:fA->Prop,(λx=>jy w x z (kj r i s.data.toList) r.n)=T:=⟨_,rfl⟩
    have MQ:∀x,jy w x z (kj r i s.data.toList) r.n=T x:=λx=>cN hT x;simp only[MQ]at KL qb sS;have HT:Hid _:=MQ;obtain⟨T3,hT3⟩:∃T:fA->Prop,(λx=>jy w x z J r.n)=T:=⟨_,rfl⟩
    have aaV:∀x,jy w x z J r.n=T3 x:=λx=>cN hT3 x;have HR3:Hid (∀x,T3 x->x.cell? ⟨z.R,1,ν⟩=μ (σ (μ ⟨z.g,0,ν⟩) r.n z.cap)):=λx hx=>by
     rw[<-aaV]at hx;have:=hx.c1;rw[xK]at this;exact this
    simp only[aaV]at AQ qb sS;have ahR:Hid (∀x,T3 x->T3 x.drew):=λx hx=>by
     rw[<-aaV]at hx⊢;exact hx.below xK (j4 x)
    have HR0:Hid (∀W,fP U W->W.cell? ⟨z.R,0,ν⟩=μ (ι κ r.id)/\W.cell? ⟨z.R,2,ν⟩=μ (π (μ ⟨z.Bb,0,ν⟩))):=λW A=>⟨(Q.below A).c0,(Q.below A).c2⟩
    clear hT MQ hT3 aaV Q hR ML HR Xz b1 ba hA ho uL hP3 xK uN hnf lz;go_wp2_with fail
    try rw[oW]
    try rw[hZ]
    clear oW hZ;generalize zF r.K r.id=ow at PB vh;generalize sC r.K r.id=sq at PB vh hnF;generalize oG r.K r.id=es at PB vh hnF Xr;generalize (r.K r.id).isSome=okb at PB
    go_cut [8] (λv wx=>∃(Y:Nat) (b:Option fq) (V:Nat),v=π (μ ⟨Y,0,ν⟩)/\S3 wx Y ow sq (σ b es.length V)/\kc wx b es.length es/\fP U wx)
    case first=>
     have F0:=HR0.out _ (j4 U);have F0:U.drew.cell? ⟨z.R,0,ν⟩=μ (ι κ r.id)/\U.drew.cell? ⟨z.R,2,ν⟩=μ (π (μ ⟨z.Bb,0,ν⟩)):=F0;have ba:fP U (U.alloc (γ #[ι κ 0,ι κ 0,σ ν 0 0] 40)).drew:=kN (gu U _);have xK:j2 (U.alloc (γ #[ι κ 0,ι κ 0,σ ν 0 0] 40)).drew U.heap.size #[ι κ 0,ι κ 0,σ ν 0 0] 40:=(j2.new U _ _).drew;have kf:z.R≠U.heap.size:=fC;clear vh hnF KL AQ qb sS HR3 c1 g1 gl S2 ho2
     go_region_held3(λx=>x.cell? ⟨z.R,0,ν⟩=μ (ι κ r.id)/\x.cell? ⟨z.R,2,ν⟩=μ (π (μ ⟨z.Bb,0,ν⟩)))
      (first|assumption|exact F0|exact F1|exact qt F1|exact qt F0|exact wZ F1 kf kf)
      (first
       |(go_at_call 177;refine(PB _ (by first|exact j4 U|exact ba)).mono ?_;rintro e w3 ⟨b,V,rfl,XE,b3,F1⟩;first|(have oA:=xK.below b3;have y0:=oA.cell 0;have y1:=oA.cell 1;have y2:=oA.cell 2;have z0:=oA.frozen 0;have z1:=oA.frozen 1;have z2:=oA.frozen 2)|skip))
     all_goals
      go_wp2_with fail
      go_meet
      first
       |exact⟨_,b,V,rfl,⟨ay w3 _ _ (0,0) 0,ay w3 _ _ (0,0) 1,ay w3 _ _ (0,0) 2⟩,XE.below (gu _ _),fQ (fQ (j4 U) b3) (gu _ _)⟩
       |(have h5:=KG (a:=.int .i64 ow) (b:=.int .i64 sq) (c:=.slice b es.length V) oA rfl (aj _) (fQ ba b3)
         have h6:=((oA.set 0 (ι κ ow)).set 1 (ι κ sq)).set 2 (σ b es.length V);exact⟨_,b,V,rfl,⟨h6.cell 0,h5.1,h5.2.1⟩,kc.not_zero XE oA Xr.out h5.2.2.2,h5.2.2.1⟩)
    case rest=>
     obtain⟨Y,b,V,rfl,SY,XE,sN⟩:=hcut;have SZ:=S2.below sN;have hoa:=ho2.below sN;have hR0:=HR0.out _ sN;have zl:=ai _ _ SZ.1;have yl:=ai _ _ SY.1;have rl:=ai _ _ hR0.1;cases q1:(own==r.id)with
     |false=>
      have mT:¬(own=r.id/\0<nf):=λe=>by simp[e.1]at q1
      obtain⟨d0,d1,d2⟩:=SZ;have d3:=hR0.1;clear vh hnF PB
      go_wp2
      go_quiet(fail)
      have b5:=below_drewN sN nq;obtain⟨M,N8⟩:=fH (wc.drewN nq);rw[N8]at b5;rw[N8];clear N8 d0 d1 d2 d3 hR0 hoa XE SY sN zl yl rl;have SZ5:=S2.below b5;have Zx:=ho2.below b5;have R5:=HR0.out _ (fQ b5 (j4 M));have ht5:=AQ.out _ (fQ b5 (j4 M)) (Zx.below (j4 M));have H:M.drew.cell? ⟨z.R,2,ν⟩=μ (π (μ ⟨z.Bb,0,ν⟩))/\M.drew.cell? ⟨Z,0,ν⟩=μ (ι κ own)/\M.drew.cell? ⟨Z,1,ν⟩=μ (ι κ seq)/\M.drew.cell? ⟨Z,2,ν⟩=μ (σ a n cap):=⟨R5.2,SZ5⟩
      have G:gb gg 190 #[π (μ ⟨z.Bb,0,ν⟩),ι κ (i:Int),.agg #[ι κ own,ι κ seq,σ a n cap]] M.drew λe w'=>e=ρ (τ #[ι κ nf,η])/\T3 w'/\kc w' a n os/\(w'.cell? ⟨z.R,2,ν⟩=μ (π (μ ⟨z.Bb,0,ν⟩))/\w'.cell? ⟨Z,0,ν⟩=μ (ι κ own)/\w'.cell? ⟨Z,1,ν⟩=μ (ι κ seq)/\w'.cell? ⟨Z,2,ν⟩=μ (σ a n cap)):=by
       refine ht5.mono ?_;rintro e X ⟨rfl,h1,h2,h3⟩;exact⟨rfl,h1,h2,h3 _ _ H.1,h3 _ _ H.2.1,h3 _ _ H.2.2.1,h3 _ _ H.2.2.2⟩
      clear ht5 AQ R5 SZ5 Zx
      go_wp2
      go_region_held3(λx=>x.cell? ⟨z.R,2,ν⟩=μ (π (μ ⟨z.Bb,0,ν⟩))/\x.cell? ⟨Z,0,ν⟩=μ (ι κ own)/\x.cell? ⟨Z,1,ν⟩=μ (ι κ seq)/\x.cell? ⟨Z,2,ν⟩=μ (σ a n cap))
       (first|assumption|exact H|exact F6)
       (first
        |(go_at_call 190;refine G.mono ?_;rintro e X ⟨rfl,D,ho6,F6⟩))
      all_goals
       have m1:=HR3.out _ D;by_cases Q6:0<=nf
       ·have hp7:=qb.out mT Q6;have F7:X.drew.cell? ⟨z.R,1,ν⟩=μ (σ (μ ⟨z.g,0,ν⟩) r.n z.cap)/\X.drew.cell? ⟨Z,0,ν⟩=μ (ι κ own)/\X.drew.cell? ⟨Z,1,ν⟩=μ (ι κ seq)/\X.drew.cell? ⟨Z,2,ν⟩=μ (σ a n cap):=⟨m1,F6.2⟩
        have hp8:=hp7 X.drew (ahR.out _ D) (ho6.below (j4 X));have m1':X.drew.cell? ⟨z.R,1,ν⟩=μ (σ (μ ⟨z.g,0,ν⟩) r.n z.cap):=F7.1;have m2:X.drew.cell? ⟨Z,0,ν⟩=μ (ι κ own):=F7.2.1;have m3:X.drew.cell? ⟨Z,1,ν⟩=μ (ι κ seq):=F7.2.2.1;have m4:X.drew.cell? ⟨Z,2,ν⟩=μ (σ a n cap):=F7.2.2.2;have m5:=ai _ _ m1';have m6:=ai _ _ m2;clear G qb sS hp7 H F6 F7 KL
        go_wp2
        go_region_with(go_at_call 152;refine hp8.mono ?_;rintro e w8 ⟨rfl,S⟩)
        all_goals
         clear hp8;go_wp2_with fail
         go_end0
         exact⟨rfl,by rw[HT.out];exact S⟩
       ·have S:=sS.out mT fC _ D;clear G qb sS H F6 KL;go_wp2_with fail
        go_end0
        exact⟨rfl,by rw[HT.out];exact S⟩
     |true=>
      have HID:Hid (own=r.id):=by show own=r.id;simpa using q1
      have hns:=hnF.out HID.out;obtain⟨d0,d1,d2⟩:=SZ;obtain⟨y0,y1,y2⟩:=SY;have F0:wc.drew.cell? ⟨z.R,0,ν⟩=μ (ι κ r.id)/\wc.drew.cell? ⟨Z,0,ν⟩=μ (ι κ own)/\wc.drew.cell? ⟨Z,1,ν⟩=μ (ι κ seq)/\wc.drew.cell? ⟨Z,2,ν⟩=μ (σ a n cap)/\wc.drew.cell? ⟨Y,0,ν⟩=μ (ι κ ow)/\wc.drew.cell? ⟨Y,1,ν⟩=μ (ι κ sq)/\wc.drew.cell? ⟨Y,2,ν⟩=μ (σ b es.length V):=⟨hR0.1,d0,d1,d2,y0,y1,y2⟩
      have si:=vh.out wc.drew b V (hoa.below (j4 wc)) (XE.below (j4 wc));rw[<-hns]at si;clear hns;have oC:gb gg 189 #[.agg #[ι κ own,ι κ seq,σ a n cap],.agg #[ι κ ow,ι κ sq,σ b es.length V]] wc.drew λe w'=>e=ρ (ι κ nf)/\fP U w'/\(w'.cell? ⟨z.R,0,ν⟩=μ (ι κ r.id)/\w'.cell? ⟨Z,0,ν⟩=μ (ι κ own)/\w'.cell? ⟨Z,1,ν⟩=μ (ι κ seq)/\w'.cell? ⟨Z,2,ν⟩=μ (σ a n cap)/\w'.cell? ⟨Y,0,ν⟩=μ (ι κ ow)/\w'.cell? ⟨Y,1,ν⟩=μ (ι κ sq)/\w'.cell? ⟨Y,2,ν⟩=μ (σ b es.length V)):=by
       refine si.mono ?_;rintro e w5 ⟨rfl,b5⟩;have bb:=fQ sN (fQ (j4 wc) b5);have SY5:=S3.below (x:=wc.drew) ⟨y0,y1,y2⟩ b5;exact⟨rfl,bb,(HR0.out _ bb).1,(S2.below bb).1,(S2.below bb).2.1,(S2.below bb).2.2,SY5.1,SY5.2.1,SY5.2.2⟩
      clear vh hnF PB si d0 d1 d2 y0 y1 y2 hR0 hoa XE
      go_wp2
      go_region_held3(λx=>x.cell? ⟨z.R,0,ν⟩=μ (ι κ r.id)/\x.cell? ⟨Z,0,ν⟩=μ (ι κ own)/\x.cell? ⟨Z,1,ν⟩=μ (ι κ seq)/\x.cell? ⟨Z,2,ν⟩=μ (σ a n cap)/\x.cell? ⟨Y,0,ν⟩=μ (ι κ ow)/\x.cell? ⟨Y,1,ν⟩=μ (ι κ sq)/\x.cell? ⟨Y,2,ν⟩=μ (σ b es.length V))
       (first|assumption|exact F0|exact F1)
       (first
        |(go_at_call 189;refine oC.mono ?_;rintro e M ⟨rfl,b5,F1⟩))
      all_goals
       by_cases h0:0<nf;{have hb5:=KL.out HID.out h0 _ b5;have m3:=F1.2.2.1;have m6:=ai _ _ m3;clear oC AQ qb sS F0 F1 KL;go_wp2_with fail;refine hb5.mono ?_;rintro e w8 ⟨rfl,S⟩;clear hb5;go_wp2_with fail;refine nX rfl rfl ?_;exact⟨rfl,by rw[HT.out];exact S⟩}
       ·have mT:¬(own=r.id/\0<nf):=λe=>h0 e.2;clear oC F0 F1 sN zl yl rl;have SZ5:=S2.below b5;have Zx:=ho2.below b5;have R5:=HR0.out _ (fQ b5 (j4 M));have ht5:=AQ.out _ (fQ b5 (j4 M)) (Zx.below (j4 M));have H:M.drew.cell? ⟨z.R,2,ν⟩=μ (π (μ ⟨z.Bb,0,ν⟩))/\M.drew.cell? ⟨Z,0,ν⟩=μ (ι κ own)/\M.drew.cell? ⟨Z,1,ν⟩=μ (ι κ seq)/\M.drew.cell? ⟨Z,2,ν⟩=μ (σ a n cap):=⟨R5.2,SZ5⟩
        have G:gb gg 190 #[π (μ ⟨z.Bb,0,ν⟩),ι κ (i:Int),.agg #[ι κ own,ι κ seq,σ a n cap]] M.drew λe w'=>e=ρ (τ #[ι κ nf,η])/\T3 w'/\kc w' a n os/\(w'.cell? ⟨z.R,2,ν⟩=μ (π (μ ⟨z.Bb,0,ν⟩))/\w'.cell? ⟨Z,0,ν⟩=μ (ι κ own)/\w'.cell? ⟨Z,1,ν⟩=μ (ι κ seq)/\w'.cell? ⟨Z,2,ν⟩=μ (σ a n cap)):=by
         refine ht5.mono ?_;rintro e X ⟨rfl,h1,h2,h3⟩;exact⟨rfl,h1,h2,h3 _ _ H.1,h3 _ _ H.2.1,h3 _ _ H.2.2.1,h3 _ _ H.2.2.2⟩
        clear ht5 AQ R5 SZ5 Zx
        go_wp2
        go_region_held3(λx=>x.cell? ⟨z.R,2,ν⟩=μ (π (μ ⟨z.Bb,0,ν⟩))/\x.cell? ⟨Z,0,ν⟩=μ (ι κ own)/\x.cell? ⟨Z,1,ν⟩=μ (ι κ seq)/\x.cell? ⟨Z,2,ν⟩=μ (σ a n cap))
         (first|assumption|exact H|exact F6)
         (first
          |(go_at_call 190;refine G.mono ?_;rintro e X ⟨rfl,D,ho6,F6⟩))
        all_goals
         have m1:=HR3.out _ D;by_cases Q6:0<=nf
         ·have hp7:=qb.out mT Q6;have F7:X.drew.cell? ⟨z.R,1,ν⟩=μ (σ (μ ⟨z.g,0,ν⟩) r.n z.cap)/\X.drew.cell? ⟨Z,0,ν⟩=μ (ι κ own)/\X.drew.cell? ⟨Z,1,ν⟩=μ (ι κ seq)/\X.drew.cell? ⟨Z,2,ν⟩=μ (σ a n cap):=⟨m1,F6.2⟩
          have hp8:=hp7 X.drew (ahR.out _ D) (ho6.below (j4 X));have m1':X.drew.cell? ⟨z.R,1,ν⟩=μ (σ (μ ⟨z.g,0,ν⟩) r.n z.cap):=F7.1;have m2:X.drew.cell? ⟨Z,0,ν⟩=μ (ι κ own):=F7.2.1;have m3:X.drew.cell? ⟨Z,1,ν⟩=μ (ι κ seq):=F7.2.2.1;have m4:X.drew.cell? ⟨Z,2,ν⟩=μ (σ a n cap):=F7.2.2.2;have m5:=ai _ _ m1';have m6:=ai _ _ m2;clear G qb sS hp7 H F6 F7 KL
          go_wp2
          go_region_with(go_at_call 152;refine hp8.mono ?_;rintro e w8 ⟨rfl,S⟩)
          all_goals
           clear hp8;go_wp2_with fail
           go_end0
           exact⟨rfl,by rw[HT.out];exact S⟩
         ·have S:=sS.out mT fC _ D;clear G qb sS H F6 KL;go_wp2_with fail
          go_end0
          exact⟨rfl,by rw[HT.out];exact S⟩
  have ee:kr f=.iface 128 (ι κ (f:Int)):=by simp only[kr];rw[af hf]
  rw[ee]
  have hE:kj r i s.data.toList=r:=by
   unfold kj;rw[hR];simp only;rw[ag (.inl hf)]
  have HW:Hid (jy w (w1.alloc (γ #[ι κ own,ι κ seq,σ a n cap] 40)) z (kj r i s.data.toList) r.n):=by
   show jy _ _ _ _ _;rw[hE];exact jy.still HR.out (fQ b1 ba)
  clear hR ho hf ee hE;go_wp2_with fail;refine nX rfl rfl ?_;exact⟨rfl,HW.out⟩
def TD(a c me f s:Int)(b:Bool)(w:fA):gb gg 187 #[.agg #[ι κ a,.bool b,ι κ c],ι κ me,.agg #[ι κ f,ι κ s]] w λe w'=>
 e=ρ (.agg #[.int .i64 (kg me f s).who,.bool (kg me f s).both,.int .i64 (kg me f s).left])/\fP w w':=by
  have h:=WL a c me f s b w
  have e:Bg me f s=((kg me f s).who,(kg me f s).both,(kg me f s).left):=by
   unfold Bg kg;split;{rfl};simp only[gH,true_and,and_true];by_cases h:s=me;{simp[h]};simp[h]
  rw[e]at h;exact h
def Iz(s:ByteArray)(z:Zt)(r:jO)(i:Nat)(w:fA)(h:n9 w z r)(jR:nh r)(hi:i<r.n):
 gb gg 134 #[π (μ ⟨z.R,0,ν⟩),ι κ (i:Int),.string s] w λe w'=>e=ρ (τ #[])/\jy w w' z (if(mr s.data.toList).2.2=0 then r.meet i (kg r.id (mr s.data.toList).1 (mr s.data.toList).2.1)else r) r.n:=by
  have V:=O5 s w;have mR:(i:Int)<(r.n:Int):=fC;have KB:(0:Int)<=(i:Int):=fC;by_cases D:(mr s.data.toList).2.2=0
  ·rw[ag D];rw[D]at V
   have hf:1<=(mr s.data.toList).1/\(mr s.data.toList).1<=6:=by
    unfold mr at D⊢;split at D;{rename_i hc;rw[ag hc];have:=hc.2;simp only[wu,Bool.and_eq_true,decide_eq_true_eq]at this;simp only;omega};simp at D
   have e0:kr 0=η:=rfl;rw[e0]at V;generalize (mr s.data.toList).1=f at V hf⊢;generalize (mr s.data.toList).2.1=g at V⊢
   have M:∀W Z,fP w W->w.heap.size<=Z->(W.cell? ⟨Z,0,ν⟩=μ (.int .i64 f)/\W.cell? ⟨Z,1,ν⟩=μ (.int .i64 g))->gb gg 74 #[π (μ ⟨z.R,0,ν⟩),.int .i64 (i:Int),.agg #[.int .i64 (kg r.id f g).who,.bool (kg r.id f g).both,.int .i64 (kg r.id f g).left]] W λe w'=>e=ρ (τ #[])/\jy w w' z (r.meet i (kg r.id f g)) r.n/\(w'.cell? ⟨Z,0,ν⟩=μ (.int .i64 f)/\w'.cell? ⟨Z,1,ν⟩=μ (.int .i64 g)/\w'.cell? ⟨z.R,0,ν⟩=μ (.int .i64 r.id)/\w'.cell? ⟨z.R,1,ν⟩=μ (σ (μ ⟨z.g,0,ν⟩) r.n z.cap)):=by
    intro W Z hW hZ hc;have R:=h.below hW;refine(ym z r i (kg r.id f g) W R jR hi (qe.aaO jR.id.1 hf)).mono ?_;rintro e w' ⟨rfl,hw⟩;have QP:¬z.mine r.n Z:=h.wA hZ;have k0:=hw.c0;have k1:=hw.c1;rw[EK]at k0;rw[CB]at k1;exact⟨rfl,jy.first h rfl hW (λ_=>hw),hw.cell R (p:=⟨Z,0,ν⟩) QP hc.1,hw.cell R (p:=⟨Z,1,ν⟩) QP hc.2,k0,k1⟩
   have J:Hid (∀W,fP w W->W.cell? ⟨z.R,0,ν⟩=μ (.int .i64 r.id)/\W.cell? ⟨z.R,1,ν⟩=μ (σ (μ ⟨z.g,0,ν⟩) r.n z.cap)/\W.cell? ⟨z.g,i*71+67,ν⟩=μ (.int .i64 (r.P i).pe.who)/\W.cell? ⟨z.g,i*71+67+1,ν⟩=μ (.bool (r.P i).pe.both)/\W.cell? ⟨z.g,i*71+67+2,ν⟩=μ (.int .i64 (r.P i).pe.left)):=by
    intro W hW;have R:=h.below hW;exact⟨R.c0,R.c1,(R.pt i hi).c67,(R.pt i hi).c68,(R.pt i hi).c69⟩
   obtain⟨T,hT⟩:∃T:fA->Prop,(λx=>jy w x z (r.meet i (kg r.id f g)) r.n)=T:=⟨_,rfl⟩
   have MQ:∀x,jy w x z (r.meet i (kg r.id f g)) r.n=T x:=λx=>cN hT x;simp only[MQ]at M⊢;have H:=TD (r.P i).pe.who (r.P i).pe.left r.id f g (r.P i).pe.both;generalize (kg r.id f g).who=q1 at M H;generalize (kg r.id f g).both=q2 at M H;generalize (kg r.id f g).left=q3 at M H;generalize (r.P i).pe.who=p1 at J H;generalize (r.P i).pe.both=p2 at J H;generalize (r.P i).pe.left=p3 at J H;generalize r.id=id at J H M;have hRl:=h.lt;have Q8:=h.Lz;generalize z.R=RR at M J hRl⊢;generalize z.g=G at J Q8 M;generalize z.cap=cp at J M;generalize r.n=n at J mR M;clear h jR hT MQ D hf;go_in;go_wp2_with fail;refine V.mono ?_;rintro e w1 ⟨rfl,b1⟩;have ba:=gu w1 (γ #[ι κ f,ι κ g] 230);have hA:=λj=>ay w1 #[ι κ f,ι κ g] 230 (0,0) j;have b2:=fQ b1 ba;obtain⟨Q,oW⟩:=fH (w1.alloc (γ #[ι κ f,ι κ g] 230));obtain⟨Z,hZ⟩:=fH (w1.heap.size);rw[oW]at b2;have z0:Q.cell? ⟨Z,0,ν⟩=μ (ι κ f):=by rw[<-oW,<-hZ];exact hA 0
   have z1:Q.cell? ⟨Z,1,ν⟩=μ (ι κ g):=by rw[<-oW,<-hZ];exact hA 1
   have b3:=fQ b2 (j4 Q);have U:=J.out _ b3;have F0:Q.drew.cell? ⟨Z,0,ν⟩=μ (ι κ f)/\Q.drew.cell? ⟨Z,1,ν⟩=μ (ι κ g)/\Q.drew.cell? ⟨RR,0,ν⟩=μ (ι κ id)/\Q.drew.cell? ⟨RR,1,ν⟩=μ (σ (μ ⟨G,0,ν⟩) n cp):=⟨z0,z1,U.1,U.2.1⟩
   have m1:=U.2.2.1;have m2:=U.2.2.2.1;have m3:=U.2.2.2.2;have zl:Z<Q.drew.heap.size:=ai _ _ F0.1;have hZw:w.heap.size<=Z:=by rw[<-hZ];exact b1.size
   have gl2:G<Q.drew.heap.size:=ai _ _ m1
   have hh:gb gg 187 #[.agg #[ι κ p1,.bool p2,ι κ p3],ι κ id,.agg #[ι κ f,ι κ g]] Q.drew λe w'=>e=ρ (.agg #[ι κ q1,.bool q2,ι κ q3])/\fP w w'/\(w'.cell? ⟨Z,0,ν⟩=μ (ι κ f)/\w'.cell? ⟨Z,1,ν⟩=μ (ι κ g)/\w'.cell? ⟨RR,0,ν⟩=μ (ι κ id)/\w'.cell? ⟨RR,1,ν⟩=μ (σ (μ ⟨G,0,ν⟩) n cp)):=by
    refine(H Q.drew).mono ?_;rintro e w' ⟨rfl,b4⟩;have F4:=J.out _ (fQ b3 b4);exact⟨rfl,fQ b3 b4,(ak (a:=⟨Z,0,ν⟩) (b4.block Z zl)).trans F0.1,(ak (a:=⟨Z,1,ν⟩) (b4.block Z zl)).trans F0.2.1,F4.1,F4.2.1⟩
   clear V H hA ba b1 b2;go_wp2_with fail;(try rw[oW]);(try rw[hZ]);clear oW hZ;refine cR (S:=λx=>x.cell? ⟨Z,0,ν⟩=μ (ι κ f)/\x.cell? ⟨Z,1,ν⟩=μ (ι κ g)/\x.cell? ⟨RR,0,ν⟩=μ (ι κ id)/\x.cell? ⟨RR,1,ν⟩=μ (σ (μ ⟨G,0,ν⟩) n cp)) iV F0 (λhHeld=> ?_);refine mU 0 (μ 15) (v:= ?_) ?_ j9 ?_;rotate_left;{intro X Y;go_simp;try with_reducible rfl}
   go_frame
   refine mU 1 (μ 16) (v:= ?_) ?_ j9 ?_;rotate_left;{intro X Y;go_simp;try with_reducible rfl}
   go_frame
   refine mU 2 (μ 17) (v:= ?_) ?_ j9 ?_;rotate_left;{intro X Y;go_simp;try with_reducible rfl}
   go_frame
   refine mU 3 (μ 18) (v:= ?_) ?_ j9 ?_;rotate_left;{intro X Y;go_simp;try with_reducible rfl}
   go_frame
   refine mU 4 (μ 19) (v:= ?_) ?_ j9 ?_;rotate_left;{intro X Y;go_simp;try with_reducible rfl}
   go_frame
   refine mU 5 (μ 20) (v:= ?_) ?_ j9 ?_;rotate_left;{intro X Y;go_simp;try with_reducible rfl}
   go_frame
   refine mU 6 (μ 21) (v:= ?_) ?_ j9 ?_;rotate_left;{intro X Y;go_simp;try with_reducible rfl}
   go_frame
   refine mU 7 (μ 22) (v:= ?_) ?_ j9 ?_;rotate_left;{intro X Y;go_simp;try with_reducible rfl}
   go_frame
   refine mU 8 (μ 23) (v:= ?_) ?_ j9 ?_;rotate_left;{intro X Y;go_simp;try with_reducible rfl}
   go_frame
   refine mU 10 (μ 25) (v:= ?_) ?_ j9 ?_;rotate_left;{intro X Y;go_simp;try with_reducible rfl}
   go_frame
   refine mU 11 (μ 26) (v:= ?_) ?_ j9 ?_;rotate_left;{intro X Y;go_simp;try with_reducible rfl}
   go_frame
   refine mU 12 (μ 27) (v:= ?_) ?_ j9 ?_;rotate_left;{intro X Y;go_simp;try with_reducible rfl}
   go_frame
   refine mU 13 (μ 28) (v:= ?_) ?_ j9 ?_;rotate_left;{intro X Y;go_simp;try with_reducible rfl}
   go_frame
   refine mU 14 (μ 29) (v:= ?_) ?_ j9 ?_;rotate_left;{intro X Y;go_simp;try with_reducible rfl}
   go_frame
   refine a8 (rs:=[9]) iV gZ ?_;refine aP (o:=_) rfl (λK A=> ?_) aX;go_simp;refine A.out _ _ ?_ (λhHeld=> ?_);{exact F0};clear A K;refine a8 (rs:=[15]) iV gZ ?_;refine aP (o:=_) rfl (λK A=> ?_) aX;go_simp;refine hh.mono ?_;rintro e w4 ⟨rfl,b4,F1⟩;(try go_wp2_with fail);refine A.out _ _ ?_ (λhHeld=> ?_);{exact F1};clear A K;refine a8 (rs:=[16]) iV gZ ?_;refine aP (o:=_) rfl (λK A=> ?_) aX;go_simp;refine(M _ Z b4 hZw ⟨F1.1,F1.2.1⟩).mono ?_;rintro e w5 ⟨rfl,hW,F2⟩;(try go_wp2_with fail);refine A.out _ _ ?_ (λhHeld=> ?_);{exact F2};clear A K;refine dk iV ?_ _;all_goals(clear M hh F0 F1 F2 J;go_wp2_with fail;go_end0;exact⟨rfl,hW⟩)
  rw[af D];have ee:kr (mr s.data.toList).2.2=.iface 128 (ι κ ((mr s.data.toList).2.2:Int)):=by simp only[kr];rw[af D]
  rw[ee]at V;generalize (mr s.data.toList).1=f at V;generalize (mr s.data.toList).2.1=g at V;generalize (mr s.data.toList).2.2=k at V;have HR:Hid _:=h;clear h jR ee D;go_in;go_wp2_with fail;refine V.mono ?_;rintro e w1 ⟨rfl,b1⟩;have HW:Hid _:=jy.still HR.out (fQ b1 (gu w1 (γ #[ι κ f,ι κ g] 230)));clear V;go_wp2_with fail;go_end0;exact⟨rfl,HW.out⟩
def xF(w w':fA)(y':Yt):Nat->Prop:=λk=>w.heap.size<=k/\k<w'.heap.size/\(y'.own k \/y'.ext k)
def kL.owned {y y':Yt} {n n':jQ} (h:kL w y n)(hs:w.heap.size<=w'.heap.size)(hk:∀k<w.heap.size,¬y.own k->¬y.ext k->w'.heap[k]? =w.heap[k]?)
 (U:y'.bM=y.bM) (T:y'.z=λj=>(y.z j).plus (xF w w' y')) (kt:∀k,y'.own k \/y'.ext k->k<w'.heap.size)
 (S:∀k,y'.own k->y.own k \/w.heap.size<=k) (D:∀k,y'.ext k->y.ext k \/w.heap.size<=k) (X:n'.n=n.n) (H:n'.ms=n.ms) (A:n'.R=n.R)
 (c9:n'.nc<=9)
 (pT:j2 w' y'.N #[σ (μ ⟨y'.gR,0,ν⟩) n'.n y'.vQ,σ (μ ⟨y'.gI,0,ν⟩) n'.n y'.Am,.map (μ y'.bM),y'.cv n'.nc] 190)
 (rr:sg w' y'.gR 0 n'.n (λi=>π (μ ⟨(y.z i).R,0,ν⟩))) (ri:sg w' y'.gI 0 n'.n y'.iv) (rc:∀g,y'.gC=μ g->∀c<n'.nc,sg w' g (c*7) 7 (Em (n'.C c) (y'.ov c))) (gc:∀c<n'.nc,∃g,y'.gC=μ g)
 (ib:∀i<n'.n,Row w' 3 (y'.iv i) (n'.kA i).length (rz (n'.kA i))) (ob:∀c d,c<n'.nc->d<2->Row w' 1 (y'.ov c d) ((n'.C c).on d).length (jV ((n'.C c).on d))) (ol:∀c d,c<n'.nc->d<2->((n'.C c).on d).length<=2000)
 (en:∀c d,c<n'.nc->d<2->((n'.C c).e d).1<n'.n/\((n'.C c).e d).2<3) (inj:∀l l' k,y'.at l=μ k->y'.at l'=μ k->l=l') (nx:∀k,y'.ext k->¬y'.own k):
 kL w' y' n'/\∀k,y'.all n.n k->y.all n.n k \/w.heap.size<=k:=by
  have Q:∀j k,(y'.z j).qF k↔(y.z j).qF k:=λj k=>by rw[T];exact fc
  have J:=h.Jr;refine⟨⟨by rw[X];exact h.n1,by rw[X];exact h.n6,c9,pT,?_,ri,rc,gc,?_,λi hi=> ?_,λi hi=> ?_,ib,ob,ol,en,inj,λi hi k Y=> ?_,nx,⟨λe=> ?_,λe=> ?_,λi hi e=> ?_⟩,λe=> ?_⟩,λk G=> ?_⟩;{refine rr.congr λj _=> ?_;rw[T];rfl};{obtain⟨E,h1,h2⟩:=h.mp;refine⟨E,?_,by rw[X,H];exact h2⟩;rw[U];exact h1.keep (hk _ J h.nM.1 h.nM.2.1)};{rw[X]at hi;rw[T,A];refine(h.rt i hi).zb hs (λk G hc=>hk k G (λe=> ?_) (λe=> ?_)) _ (λk e=>⟨e.1,e.2.1⟩);{have Y:=h.away i hi k (.inl e);obtain hc|hc:=hc;{exact hc Y.1};rw[(h.rn i hi).1]at hc;exact Y.2 hc};have Y:=h.away i hi k (.inr (.inl e));obtain hc|hc:=hc;{exact hc Y.1};rw[(h.rn i hi).1]at hc;exact Y.2 hc};{rw[X]at hi;rw[A];exact h.rn i hi}
  ·rw[X]at hi Y;rw[T];show((y.z i).fm.no k \/xF w w' y' k)/\¬(y.z i).mine 3 k
   have V:w.heap.size<=k->¬(y.z i).mine 3 k:=λe Z=>by
    have:=h.Ap hi (.inl Z);omega
   obtain e|e|⟨j,M,kf,e⟩:=Y;{obtain Z|Z:=S k e;{have Y:=h.away i hi k (.inl Z);exact⟨.inl Y.1,Y.2⟩};exact⟨.inr ⟨Z,kt k (.inl e),.inl e⟩,V Z⟩};{obtain Z|Z:=D k e;{have Y:=h.away i hi k (.inr (.inl Z));exact⟨.inl Y.1,Y.2⟩};exact⟨.inr ⟨Z,kt k (.inr e),.inr e⟩,V Z⟩};have Y:=h.away i hi k (.inr (.inr ⟨j,M,kf,(Q j k).1 e⟩));exact⟨.inl Y.1,Y.2⟩
  {rw[U]at e;obtain Z|Z:=S _ e;{exact h.nM.1 Z};omega};{rw[U]at e;obtain Z|Z:=D _ e;{exact h.nM.2.1 Z};omega};{rw[X]at hi;rw[U]at e;exact h.nM.2.2 i hi ((Q i _).1 e)};{obtain Z|Z:=S 0 e;{exact h.z0 Z};have:=h.Jr;omega};obtain e|⟨j,M,e⟩:=G;{exact(S k e).imp_left .inl};exact .inl (.inr ⟨j,M,(Q j k).1 e⟩)
def kL.uh {y:Yt} {n:jQ} (h:kL w y n) {l:Lab} (e:y.at l=μ k):k<w.heap.size:=h.lt (.inl ⟨l,e⟩)
def kL.wB {y:Yt} {n:jQ} (h:kL w y n) {l l':Lab} {k':Nat} (e:y.at l=μ k)(e':y.at l'=μ k')(Z:l≠l'):k≠k':=λx=>Z (h.inj l l' k e (by rw[e',x]))
def kL.Rv {y:Yt} {n:jQ} {c:Nat} (h:kL w y n)(hc:c<n.nc)(D:y.gC=μ g)(X:sE)(o:Nat->fB)(hs:w.heap.size<=w'.heap.size)(Hy:w'.os=w.os)(N7:w'.tape=w.tape)(Iv:w'.output=w.output)
 (hk:∀k<w.heap.size,k≠g->(∀d<2,(y.ov c d).ownBlock≠μ k)->w'.heap[k]? =w.heap[k]?)
 (hcell:∀j,j<c*7 \/c*7+7<=j->w'.cell? ⟨g,j,ν⟩=w.cell? ⟨g,j,ν⟩) (Vn:∀j,w'.frozen? ⟨g,j,ν⟩=w.frozen? ⟨g,j,ν⟩) (wP:sg w' g (c*7) 7 (Em X o))
 (XE:∀d<2,Row w' 1 (o d) (X.on d).length (jV (X.on d))) (hol:∀d<2,(X.on d).length<=2000) (B6:X.e=(n.C c).e)
 (ku:∀d k,d<2->(o d).ownBlock=μ k->(y.ov c d).ownBlock=μ k \/w.heap.size<=k) (kf:∀k,(o 0).ownBlock=μ k->(o 1).ownBlock≠μ k):jH w w' y (n.nj c X) n.n:=by
  obtain⟨ov,A⟩:∃ov:Nat->Nat->fB,ov=λx d=>if x=c/\d<2 then o d else y.ov x d:=⟨_,rfl⟩
  have V:∀d<2,ov c d=o d:=λd hd=>by rw[A];simp[hd]
  have Q:∀x d,¬(x=c/\d<2)->ov x d=y.ov x d:=λx d hx=>by rw[A];simp only[if_neg hx]
  obtain⟨M,vS⟩:∃M:Yt,M={y with ov:=ov}:=⟨_,rfl⟩
  obtain⟨y',Y⟩:∃y':Yt,y'={y with ov:=ov,z:=λj=>(y.z j).plus (xF w w' M)}:=⟨_,rfl⟩
  have kO:∀k,y'.own k↔M.own k:=λk=>by
   rw[Y,vS];constructor;{rintro⟨l,e⟩;exact⟨l,by cases l<;>exact e⟩};rintro⟨l,e⟩;exact⟨l,by cases l<;>exact e⟩
  have hX:xF w w' M=xF w w' y':=by
   funext k;apply propext;unfold xF;rw[<-kO k];have:M.ext=y'.ext:=by rw[vS,Y]
   rw[this]
  have hat:∀l k,y'.at l=μ k->y.at l=μ k \/(w.heap.size<=k/\∃d,d<2/\l=.on c d/\(o d).ownBlock=μ k):=by
   intro l k e;rw[Y]at e;cases l with|N=>exact .inl e|R=>exact .inl e|I=>exact .inl e|C=>exact .inl e|ib i=>exact .inl e|on x d=>have e':(ov x d).ownBlock=μ k:=e;by_cases hx:x=c/\d<2;{obtain⟨rfl,hd⟩:=hx;rw[V d hd]at e';obtain Z|Z:=ku d k hd e';{exact .inl Z};exact .inr ⟨Z,d,hd,rfl,e'⟩};{rw[Q x d hx]at e';exact .inl e'}
  have lZ:∀k,y'.own k->k<w'.heap.size:=by
   rintro k ⟨l,e⟩;obtain Z|⟨_,d,hd,rfl,Z⟩:=hat l k e;{exact aq (h.uh Z) hs};exact(XE d hd).lt k Z
  have lA:∀l k,y.at l=μ k->l≠ .C->(∀d<2,l≠ .on c d)->w'.heap[k]? =w.heap[k]? :=by
   intro l k e S G;refine hk k (h.uh e) (λZ=> ?_) (λd hd Z=> ?_);{exact h.wB e (show y.at .C=μ g from D) S Z};exact G d hd (h.inj _ _ k e (show y.at (.on c d)=μ k from Z))
  have H:=h.owned (y':=y') (n':=n.nj c X) hs (λk vK S _=>hk k vK (λe=>S ⟨.C,by rw[e];exact D⟩) (λd _ e=>S ⟨.on c d,e⟩)) (by rw[Y]) (by rw[<-hX,Y])
   (λk e=>e.elim (lZ k) (λe=>by
    have e':y.ext k:=by rw[Y]at e;exact e
    exact aq (h.lt (.inr e')) hs))
   (by
    rintro k ⟨l,e⟩;obtain Z|⟨Z,_⟩:=hat l k e;{exact .inl ⟨l,Z⟩}
    ·exact .inr Z) (λk e=>.inl (by rw[Y]at e;exact e)) rfl rfl rfl h.c9 (by rw[Y];exact h.pT.keep (lA .N _ rfl (λe=>nomatch e) (λ_ _ e=>nomatch e)))
   (by rw[Y];exact h.rr.keep (lA .R _ rfl (λe=>nomatch e) (λ_ _ e=>nomatch e))) (by rw[Y];exact h.ri.keep (lA .I _ rfl (λe=>nomatch e) (λ_ _ e=>nomatch e)))
   (by
    intro g' Dc x hx;have zv:y.gC=μ g':=by rw[Y]at Dc;exact Dc
    obtain rfl:g=g':=by rw[D]at zv;exact aL zv
    have xG:x<n.nc:=hx;show sg w' g (x*7) 7 (Em (kK n.C c X x) (y'.ov x));by_cases e:x=c
    ·subst e;rw[jd];refine wP.congr λj _=> ?_;have U:y'.ov x 0=o 0:=by rw[Y];exact V 0 fF
     have Z:y'.ov x 1=o 1:=by rw[Y];exact V 1 fF
     unfold Em;rw[U,Z]
    ·rw[iw _ _ e];have hb:=h.rc g D x xG;have T:∀d,y'.ov x d=y.ov x d:=λd=>by rw[Y];exact Q x d (λe'=>e e'.1)
     intro j hj;have hr:x*7+j<c*7 \/c*7+7<=x*7+j:=by
      obtain S|S:=dA e;{exact .inl fC};{exact .inr fC}
     refine⟨(hcell _ hr).trans ?_,(Vn _).trans (hb.fz j hj)⟩;rw[hb.cell j hj];unfold Em;rw[T 0,T 1])
   (by
    intro x hx;obtain⟨g',e⟩:=h.gc x hx;exact⟨g',by rw[Y];exact e⟩)
   (by
    intro i hi;have:=(h.ib i hi).keep hs (λk e=>lA (.ib i) k e (λe=>nomatch e) (λ_ _ e=>nomatch e));rw[Y];exact this)
   (by
    intro x d hx hd;show Row w' 1 (y'.ov x d) ((kK n.C c X x).on d).length (jV ((kK n.C c X x).on d));by_cases e:x=c
    ·subst e;have U:y'.ov x d=o d:=by rw[Y];exact V d hd
     rw[jd,U];exact XE d hd
    ·have U:y'.ov x d=y.ov x d:=by rw[Y];exact Q x d (λe'=>e e'.1)
     rw[iw _ _ e,U];exact(h.ob x d hx hd).keep hs (λk Z=>lA (.on x d) k Z (λe=>nomatch e) (λd' _ e'=>e (by injection e'))))
   (by
    intro x d hx hd;show((kK n.C c X x).on d).length<=2000;by_cases e:x=c;{subst e;rw[jd];exact hol d hd}
    ·rw[iw _ _ e];exact h.ol x d hx hd)
   (by
    intro x d hx hd;show((kK n.C c X x).e d).1<n.n/\((kK n.C c X x).e d).2<3;by_cases e:x=c;{subst e;rw[jd,B6];exact h.en x d hx hd}
    ·rw[iw _ _ e];exact h.en x d hx hd)
   (by
    intro l l' k e e';obtain Z|⟨Z,d,hd,rfl,T⟩:=hat l k e;{obtain J|⟨J,_⟩:=hat l' k e';{exact h.inj l l' k Z J};{have:=h.uh Z;omega}}
    ·obtain J|⟨J,d',lL,rfl,e4⟩:=hat l' k e';{have:=h.uh J;omega}
     ·have:d=d':=by
       obtain S|S:=dw d 1;{obtain G|G:=dw d' 1;{omega};{obtain rfl:d=0:=fC;obtain rfl:d'=1:=fC;exact absurd e4 (kf k T)}};{obtain G|G:=dw d' 1;{obtain rfl:d=1:=fC;obtain rfl:d'=0:=fC;exact absurd T (kf k e4)};{omega}}
      rw[this])
   (by
    intro k e;have U:y.ext k:=by rw[Y]at e;exact e
    rintro⟨l,Z⟩;obtain T|⟨T,_⟩:=hat l k Z;{exact h.nx k U ⟨l,T⟩}
    ·have:=h.lt (.inr U);omega)
  refine⟨⟨y',H.1,by rw[Y];exact⟨rfl,rfl,rfl,rfl,rfl,rfl,rfl,rfl⟩,H.2,λk=>by rw[Y]⟩,⟨Hy,N7,Iv,hs,λk vK hn=>hk k vK (λe=>hn (.inl ⟨.C,by rw[e];exact D⟩)) (λd _ e=>hn (.inl ⟨.on c d,e⟩))⟩⟩
def kL.box {y:Yt} {n:jQ} (h:kL w y n)(hi:i<n.n)(v:fB)(l:List wK)(hs:w.heap.size<=w'.heap.size)(Hy:w'.os=w.os)(N7:w'.tape=w.tape)(Iv:w'.output=w.output)
 (J:∀k<w.heap.size,k≠y.gI->(y.iv i).ownBlock≠μ k->w'.heap[k]? =w.heap[k]?) (Dj:sg w' y.gI 0 n.n (kK y.iv i v)) (A:Row w' 3 v l.length (rz l))
 (ku:∀k,v.ownBlock=μ k->(y.iv i).ownBlock=μ k \/w.heap.size<=k):jH w w' y {n with kA:=kK n.kA i l} n.n:=by
  obtain⟨X,vS⟩:∃X:Yt,X={y with iv:=kK y.iv i v}:=⟨_,rfl⟩
  obtain⟨y',Y⟩:∃y':Yt,y'={y with iv:=kK y.iv i v,z:=λj=>(y.z j).plus (xF w w' X)}:=⟨_,rfl⟩
  have kO:∀k,y'.own k↔X.own k:=λk=>by
   rw[Y,vS];constructor;{rintro⟨l,e⟩;exact⟨l,by cases l<;>exact e⟩};rintro⟨l,e⟩;exact⟨l,by cases l<;>exact e⟩
  have hX:xF w w' X=xF w w' y':=by
   funext k;apply propext;unfold xF;rw[<-kO k];have:X.ext=y'.ext:=by rw[vS,Y]
   rw[this]
  have hat:∀l k,y'.at l=μ k->y.at l=μ k \/(w.heap.size<=k/\l=.ib i/\v.ownBlock=μ k):=by
   intro l k e;rw[Y]at e;cases l with|N=>exact .inl e|R=>exact .inl e|I=>exact .inl e|C=>exact .inl e|on x d=>exact .inl e|ib x=>have e':(kK y.iv i v x).ownBlock=μ k:=e;by_cases hx:x=i;{subst hx;rw[jd]at e';obtain Z|Z:=ku k e';{exact .inl Z};exact .inr ⟨Z,rfl,e'⟩};{rw[iw _ _ hx]at e';exact .inl e'}
  have lZ:∀k,y'.own k->k<w'.heap.size:=by
   rintro k ⟨l,e⟩;obtain Z|⟨_,rfl,Z⟩:=hat l k e;{exact aq (h.uh Z) hs};exact A.lt k Z
  have T:∀l k,y.at l=μ k->l≠ .I->l≠ .ib i->w'.heap[k]? =w.heap[k]? :=by
   intro l k e Q h2;refine J k (h.uh e) (λZ=> ?_) (λZ=> ?_);{exact h.wB e (show y.at .I=μ y.gI from rfl) Q Z};exact h2 (h.inj _ _ k e (show y.at (.ib i)=μ k from Z))
  have H:=h.owned (y':=y') (n':={n with kA:=kK n.kA i l}) hs (λk G Q _=>J k G (λe=>Q ⟨.I,by rw[e];rfl⟩) (λe=>Q ⟨.ib i,e⟩)) (by rw[Y]) (by rw[<-hX,Y])
   (λk e=>e.elim (lZ k) (λe=>by
    have e':y.ext k:=by rw[Y]at e;exact e
    exact aq (h.lt (.inr e')) hs))
   (by
    rintro k ⟨l,e⟩;obtain Z|⟨Z,_⟩:=hat l k e;{exact .inl ⟨l,Z⟩}
    ·exact .inr Z) (λk e=>.inl (by rw[Y]at e;exact e)) rfl rfl rfl h.c9 (by rw[Y];exact h.pT.keep (T .N _ rfl (λe=>nomatch e) (λe=>nomatch e)))
   (by rw[Y];exact h.rr.keep (T .R _ rfl (λe=>nomatch e) (λe=>nomatch e))) (by rw[Y];exact Dj)
   (by
    intro U D x hx;have zv:y.gC=μ U:=by rw[Y]at D;exact D
    have:=(h.rc U zv x hx).keep (T .C U zv (λe=>nomatch e) (λe=>nomatch e));rw[Y];exact this)
   (by
    intro x hx;obtain⟨U,e⟩:=h.gc x hx;exact⟨U,by rw[Y];exact e⟩)
   (by
    intro x hx;show Row w' 3 (y'.iv x) (kK n.kA i l x).length (rz (kK n.kA i l x));have S:y'.iv x=kK y.iv i v x:=by rw[Y]
    rw[S];by_cases e:x=i;{subst e;rw[jd,jd];exact A}
    ·rw[iw _ _ e,iw _ _ e];exact(h.ib x hx).keep hs (λk Z=>T (.ib x) k Z (λe=>nomatch e) (λe'=>e (by injection e'))))
   (by
    intro x d hx hd;have:=(h.ob x d hx hd).keep hs (λk Z=>T (.on x d) k Z (λe=>nomatch e) (λe=>nomatch e));rw[Y];exact this)
   h.ol h.en
   (by
    intro l l' k e e';obtain Z|⟨Z,rfl,M⟩:=hat l k e;{obtain V|⟨V,_⟩:=hat l' k e';{exact h.inj l l' k Z V};{have:=h.uh Z;omega}}
    ·obtain V|⟨V,rfl,e4⟩:=hat l' k e';{have:=h.uh V;omega}
     ·rfl)
   (by
    intro k e;have S:y.ext k:=by rw[Y]at e;exact e
    rintro⟨l,Z⟩;obtain M|⟨M,_⟩:=hat l k Z;{exact h.nx k S ⟨l,M⟩}
    ·have:=h.lt (.inr S);omega)
  refine⟨⟨y',H.1,by rw[Y];exact⟨rfl,rfl,rfl,rfl,rfl,rfl,rfl,rfl⟩,H.2,λk=>by rw[Y]⟩,⟨Hy,N7,Iv,hs,λk G hn=>J k G (λe=>hn (.inl ⟨.I,by rw[e];rfl⟩)) (λe=>hn (.inl ⟨.ib i,e⟩))⟩⟩
def kL.beside {y:Yt} {n:jQ} (h:kL w y n)(hs:w.heap.size<=w'.heap.size)(hk:∀k<w.heap.size,¬y.ext k->w'.heap[k]? =w.heap[k]?)(X:Nat->Prop)(J:∀k,X k->w.heap.size<=k/\k<w'.heap.size):
 ∃y',kL w' y' n/\y.same y'/\(∀k,y'.all n.n k↔y.all n.n k)/\∀k,y'.ext k↔y.ext k \/X k:=by
  obtain⟨V,vS⟩:∃V:Yt,V={y with ext:=λk=>y.ext k \/X k}:=⟨_,rfl⟩
  obtain⟨y',Z⟩:∃y':Yt,y'={y with ext:=λk=>y.ext k \/X k,z:=λj=>(y.z j).plus (xF w w' V)}:=⟨_,rfl⟩
  have hat:∀l,y'.at l=y.at l:=by
   intro l;rw[Z];cases l<;>rfl
  have M:∀l,V.at l=y.at l:=by
   intro l;rw[vS];cases l<;>rfl
  have U:∀k,y'.own k↔y.own k:=λk=>by unfold Yt.own;simp only[hat]
  have kO:∀k,V.own k↔y.own k:=λk=>by unfold Yt.own;simp only[M]
  have G:xF w w' V=xF w w' y':=by
   funext k;apply propext;unfold xF;rw[U k,kO k];have:V.ext=y'.ext:=by rw[vS,Z]
   rw[this]
  have T:∀l k,y.at l=μ k->w'.heap[k]? =w.heap[k]? :=λl k e=>hk k (h.uh e) (λY=>h.nx k Y ⟨l,e⟩);have Q:∀k,y'.ext k↔y.ext k \/X k:=λk=>by rw[Z]
  have H:=h.owned (y':=y') (n':=n) hs (λk vK _ A=>hk k vK A) (by rw[Z]) (by rw[<-G,Z])
   (λk e=>by
    obtain e|e:=e;{exact aq (h.lt (.inl ((U k).1 e))) hs}
    ·obtain e|e:=(Q k).1 e;{exact aq (h.lt (.inr e)) hs}
     ·exact(J k e).2)
   (λk e=>.inl ((U k).1 e)) (λk e=>((Q k).1 e).imp_right (λe=>(J k e).1)) rfl rfl rfl h.c9 (by rw[Z];exact h.pT.keep (T .N _ rfl))
   (by rw[Z];exact h.rr.keep (T .R _ rfl)) (by rw[Z];exact h.ri.keep (T .I _ rfl))
   (by
    intro S D x hx;have zv:y.gC=μ S:=by rw[Z]at D;exact D
    have:=(h.rc S zv x hx).keep (T .C S zv);rw[Z];exact this)
   (by
    intro x hx;obtain⟨S,e⟩:=h.gc x hx;exact⟨S,by rw[Z];exact e⟩)
   (by
    intro x hx;have:=(h.ib x hx).keep hs (λk Y=>T (.ib x) k Y);rw[Z];exact this)
   (by
    intro x d hx hd;have:=(h.ob x d hx hd).keep hs (λk Y=>T (.on x d) k Y);rw[Z];exact this)
   h.ol h.en (λl l' k e e'=>h.inj l l' k ((hat l).symm.trans e) ((hat l').symm.trans e'))
   (by
    intro k e Y;obtain e|e:=(Q k).1 e;{exact h.nx k e ((U k).1 Y)}
    ·have h1:=h.lt (.inl ((U k).1 Y));have A:=(J k e).1;omega)
  refine⟨y',H.1,by rw[Z];exact⟨rfl,rfl,rfl,rfl,rfl,rfl,rfl,rfl⟩,λk=> ?_,Q⟩;unfold Yt.all;rw[U k];have:∀j,(y'.z j).qF k↔(y.z j).qF k:=λj=>by rw[Z];exact fc
  simp only[this]
def kL.below {w w':fA} {y:Yt} {n:jQ} (h:kL w y n)(Z:fP w w'):kL w' y n:=by
 refine⟨h.n1,h.n6,h.c9,h.pT.below Z,h.rr.below h.n1 Z,h.ri.below h.n1 Z,λg V c hc=>(h.rc g V c hc).below fF Z,h.gc,?_,λi hi=>(h.rt i hi).below Z,h.rn,λi hi=>(h.ib i hi).below Z,λc d hc hd=>(h.ob c d hc hd).below Z,h.ol,h.en,h.inj,h.away,h.nx,h.nM,h.z0⟩;obtain⟨E,Y,X⟩:=h.mp;exact⟨E,Y.keep (Z.block _ h.Jr),X⟩
def xw.jY(y:Yt)(n:Nat)(h:fP w w'):xw w w' y n:=⟨h.os,h.tape,h.output,h.size,λk Z _=>h.block k Z⟩
def jH.still {y:Yt} {n:jQ} (h:kL w y n)(Z:fP w w'):jH w w' y n n.n:=⟨⟨y,h.below Z,y.Jq,λ_ e=>.inl e,λ_=>fc⟩,xw.jY y n.n Z⟩
def jH.below {y:Yt} {n:jQ} (h:jH a b y n m)(X:n.n=m)(Y:fP b c):jH a c y n m:=by
 subst X;exact h.step λy' Z _=>jH.still Z Y
section
variable {P:Program}
def Eo {ops:Array Oper} {o:Oper} {a:Act} {K:Act->fA->Prop} {Q:Exit->Act->fA->Prop} {E:Prop}
 (Z:o.guard=ν) (sl x:Operand) (t u:TypeId) (S:o.op=.call {callee:=.builtin .append,args:= #[sl,x],argTypes:= #[t,u] })
 (e:TypeId) (i:TypeInfo) (z:fB) (J:P.underlying t=μ (.slice e)) (hu:P.underlying u=μ .string) (hi:P.info? e=μ i) (H:i.zero=μ z) (D:i.size=1) (A:i.bytes=1) (Y:z.cells.size=1)
 (v:fB) (n:Nat) (xs:List fB) (hs:a.eval sl=v) (G:Row w 1 v n xs) (s:ByteArray) (hx:a.eval x=.string s) (hsl:s.size<=1000000) (T:n<=1000000000)
 (h:∀v' w',Row w' 1 v' (n+s.size) (xs++jV s.data.toList)->w.grownBy w' v.ownBlock->(v'.ownBlock=v.ownBlock \/ ∃k,v'.ownBlock=μ k/\w.heap.size<=k)->K (a.put o.dst v') w'):
 if fR o (yielded ops a.tmps)=true then Oper.wp P o a w K Q else E:=by
  have hw:fR o (yielded ops a.tmps)=true:=by simp[fR,Z]
  rw[ag hw];obtain⟨v',w',M,X,V,U⟩:=yc (P:=P) w t u o.type e i z J hu hi H D A Y v n xs G s hsl T;unfold Oper.wp execOp;simp only[S,resolve,invoke,builtin,iJ,iK,fL,List.map_toArray,List.map_cons,List.map_nil,hs,hx,M];exact h v' w' X V U
end
def Row.shape {sz:Nat} {xs:List fB} (h:Row w sz v n xs):∃a c,v=σ a n c:=by
 obtain⟨e,Z⟩|⟨g',c',e,_⟩:=h.2;{exact⟨ν,0,by rw[e,Z]⟩};exact⟨_,_,e⟩
structure Vt(w w':fA)(g o d:Nat)(c:sE)(ov:Nat->fB)(v':fB):Prop where
 os:w'.os=w.os
 tape:w'.tape=w.tape
 output:w'.output=w.output
 size:w.heap.size<=w'.heap.size
 block:∀k<w.heap.size,k≠g->(ov d).ownBlock≠μ k->w'.heap[k]? =w.heap[k]?
 cell:∀j,j<o \/o+7<=j->w'.cell? ⟨g,j,ν⟩=w.cell? ⟨g,j,ν⟩
 fz:∀j,w'.frozen? ⟨g,j,ν⟩=w.frozen? ⟨g,j,ν⟩
 yY:sg w' g o 7 (Em c (kK ov d v'))
 row:Row w' 1 v' (c.on d).length (jV (c.on d))
 own:∀k,v'.ownBlock=μ k->(ov d).ownBlock=μ k \/w.heap.size<=k
def aeA(c:sE)(ov:Nat->fB)(d:Nat)(hd:d<2)(v:fB)(f:Nat->List UInt8):∀j<7,ui (Em c ov) (5+d) v j=Em {c with on:=f} (kK ov d v) j:=by
 intro j hj;have Y:d=0 \/d=1:=fC;obtain rfl|rfl:=Y;{by_cases e:j=5;{subst e;rfl};rw[kU _ _ fC];unfold Em;simp only[e,if_false];rfl};by_cases e:j=6;{subst e;rfl};rw[kU _ _ fC];unfold Em;have e6:¬j=6:=e;by_cases Z:j=5;{subst Z;rfl};have:j<5:=fC;simp only[Z,if_false];by_cases T:j=4;{simp[T]};have:j<4:=fC;by_cases U:j=3;{simp[U]};by_cases V:j=2;{simp[V]};by_cases X:j=1;{simp[X]};have:j=0:=fC;simp[this]
def XF(c:sE)(ov:Nat->fB)(d:Nat)(hd:d<2):Em c ov (5+d)=ov d:=by
 have Z:d=0 \/d=1:=fC;obtain rfl|rfl:=Z<;>rfl
def Vt.still {o:Nat} {c:sE} (hC:sg w g o 7 (Em c ov))(Y:Row w 1 (ov d) (c.on d).length (jV (c.on d)))(Z:fP w w'):Vt w w' g o d c ov (ov d):=by
 have hl:=hC.lt fF;refine⟨Z.os,Z.tape,Z.output,Z.size,λk X _ _=>Z.block k X,λj _=>ak (a:=⟨g,j,ν⟩) (Z.block g hl),λj=>by simp only[iZ,Z.block g hl],?_,Y.below Z,λk e=>.inl e⟩;rw[qv];exact hC.below fF Z
def Vt.turn {o:Nat} {c:sE} (hd:d<2)(hC:sg w g o 7 (Em c ov))(V:(ov d).ownBlock≠μ g)(v:fB)(f:Nat->List UInt8)(os:x.os=w.os)(J:x.tape=w.tape)(ou:x.output=w.output)(hs:w.heap.size<=x.heap.size)
 (U:∀k<w.heap.size,(ov d).ownBlock≠μ k->x.heap[k]? =w.heap[k]?) (M:Row x 1 v (f d).length (jV (f d))) (T:∀k,v.ownBlock=μ k->(ov d).ownBlock=μ k \/w.heap.size<=k):
 Vt w (x.setCell ⟨g,o+5+d,ν⟩ v) g o d {c with on:=f} ov v:=by
  rw[bP];have hl:=hC.lt fF;have Y:=U g hl V
  have X:v.ownBlock≠μ g:=λe=>by
   obtain Z|Z:=T g e;{exact V Z};omega
  refine⟨os,J,ou,by simpa using hs,λk H S Q=>(ax _ _ _ k S).trans (U k H Q),λj hj=> ?_,λj=> ?_,?_,?_,T⟩;{rw[br _ _ _ _ (λe=>by have:=congrArg Addr.off e;simp at this;omega)];exact ak (a:=⟨g,j,ν⟩) Y};{rw[og];simp only[iZ,Y]};{exact((hC.keep Y).set (5+d) fC v).congr (aeA c ov d hd v f)};exact M.keep gZ (λk e=>ax _ _ _ k (λZ=>X (by rw[e,Z])))
def XG(g o d:Nat)(c:sE)(ov:Nat->fB)(s:ByteArray)(w:fA)(hd:d<2)(hC:sg w g o 7 (Em c ov))(U:Row w 1 (ov d) (c.on d).length (jV (c.on d)))(hg:(ov d).ownBlock≠μ g)(hl:(c.on d).length<=2000)(hs:s.size<=1000000000):
 gb gg 161 #[π (μ ⟨g,o,ν⟩),ι κ (d:Int),.string s] w λe w'=>e=ρ (τ #[])/\∃v',Vt w w' g o d (c.put d s.data.toList) ov v':=by
  obtain⟨i0,hi,pB,oR,oe⟩:=bu Xk;have hsl:s.data.toList.length=s.size:=gZ;have c4:w.cell? ⟨g,o+4,ν⟩=μ (.bool c.jU):=hC.cell 4 fF;have h:w.cell? ⟨g,o+5+d,ν⟩=μ (ov d):=by rw[bP,hC.cell (5+d) fC,XF c ov d hd]
  have f5:w.frozen? ⟨g,o+5+d,ν⟩=false:=by rw[bP];exact hC.fz (5+d) fC
  have gl:=hC.lt fF;have lL:(d:Int)<2:=fC;have PE:(0:Int)<=(d:Int):=fC;have J:Hid _:=hC;have vh:κ.wrap (((c.on d).length:Int)+(s.size:Int))=((c.on d).length:Int)+(s.size:Int):=bg _ ⟨fC,fC⟩;clear hC;cases M:c.jU with
  |false=>
   have X:c.put d s.data.toList=c:=by unfold sE.put;rw[af (by simp[M])]
   rw[X];rw[M]at c4;have G:Hid _:=U;clear U
   go_in
   go_wp2_with fail
   go_end0
   exact⟨rfl,_,Vt.still J.out G.out (aC _ _)⟩
  |true=>
   rw[M]at c4;obtain⟨v,hv⟩:=fH (ov d);obtain⟨n,T⟩:=fH ((c.on d).length);have D:Hid _:=hv;have HN:Hid _:=T;have S:=U;rw[hv]at h;rw[T]at vh hl;rw[hv,T]at S;have G:Hid _:=U;have hsh:∃a' c',v=σ a' n c':=by
    obtain⟨e,e2⟩|⟨g',c',e,_⟩:=S.2;{exact⟨ν,0,by rw[e,e2]⟩};{exact⟨_,_,e⟩}
   obtain⟨a',c',Z⟩:=hsh;rw[Z]at h S;by_cases Z4:(n:Int)+(s.size:Int)<=2000
   ·have X:c.put d s.data.toList={c with on:=kK c.on d (c.on d++s.data.toList)}:=by
     unfold sE.put;rw[ag ⟨M,fC⟩]
    have HE:Hid _:=X;have H:Hid (fD (σ a' n c')≠μ g):=by rw[<-Z,<-hv];exact hg
    have Y:Hid _:=Z;clear U X hv T Z hg
    go_in
    go_wp2
    go_region_law ((refine Eo (by rfl) (.tmp 30) (.tmp 31) 140 9 (by rfl) 5 i0 (.int .u8 0) underlying140 underlying9 hi pB oR oe (by rfl) (σ a' n c') n (jV (c.on d)) (by rfl) (by exact S.drew) s (by rfl) fC fC ?_;intro v1 x1 mQ V kO;obtain⟨A,c1,hv1⟩:=Row.shape mQ;subst hv1;have y5:=(ak (a:=⟨g,o+5+d,ν⟩) (V.block g (by exact gl) (λe=>H.out e.symm))).trans h;have z5:=(aV (a:=⟨g,o+5+d,ν⟩) (V.block g (by exact gl) (λe=>H.out e.symm))).trans f5))
    all_goals
     go_wp2_with fail
     go_end0
     have mS:∀k,fD (σ A (n+s.size) c1)=μ k->(ov d).ownBlock=μ k \/w.heap.size<=k:=by
      intro k Q;rw[D.out,Y.out];obtain e|⟨k',e,vK⟩:=kO;{exact .inl (by rw[<-e];exact Q)};{rw[Q]at e;obtain rfl:=aL e;exact .inr vK}
     refine⟨rfl,σ A (n+s.size) c1,?_⟩;rw[HE.out];refine Vt.turn hd J.out (by rw[D.out,Y.out];exact H.out) (σ A (n+s.size) c1) _ V.os V.tape V.output V.size (λk Q h1=>V.block k Q (λe=>h1 (by rw[D.out,Y.out];exact e.symm))) ?_ mS;rw[jd,aG,nA,HN.out,hsl];exact mQ
   ·have X:c.put d s.data.toList=c:=by
     unfold sE.put;rw[af (λe=>Z4 (by have:=e.2;omega))]
    rw[X];clear U X hv T Z
    go_in
    go_wp2_with fail
    go_end0
    exact⟨rfl,_,Vt.still J.out G.out (aC _ _)⟩
def kL.k0 {y:Yt} {n:jQ} (h:kL w y n):w.cell? ⟨y.N,0,ν⟩=μ (σ (μ ⟨y.gR,0,ν⟩) n.n y.vQ):=h.pT.cell 0
def kL.k1 {y:Yt} {n:jQ} (h:kL w y n):w.cell? ⟨y.N,1,ν⟩=μ (σ (μ ⟨y.gI,0,ν⟩) n.n y.Am):=h.pT.cell 1
def kL.k2 {y:Yt} {n:jQ} (h:kL w y n):w.cell? ⟨y.N,2,ν⟩=μ (.map (μ y.bM)):=h.pT.cell 2
def kL.k3 {y:Yt} {n:jQ} (h:kL w y n):w.cell? ⟨y.N,3,ν⟩=μ (y.cv n.nc):=h.pT.cell 3
def kL.zz {y:Yt} {n:jQ} (h:kL w y n):y.N<w.heap.size:=h.pT.lt
def kL.TE {y:Yt} {n:jQ} (h:kL w y n):y.gR<w.heap.size:=h.uh (l:=.R) rfl
def kL.aaY {y:Yt} {n:jQ} (h:kL w y n):y.gI<w.heap.size:=h.uh (l:=.I) rfl
def kL.ptr {y:Yt} {n:jQ} (h:kL w y n)(hi:i<n.n):w.cell? ⟨y.gR,i,ν⟩=μ (π (μ ⟨(y.z i).R,0,ν⟩)):=by
 have:=h.rr.cell i hi
 rwa [aY]at this
def kL.XH {y:Yt} {n:jQ} (h:kL w y n)(hi:i<n.n):w.cell? ⟨y.gI,i,ν⟩=μ (y.iv i):=by
 have:=h.ri.cell i hi
 rwa [aY]at this
def kL.cvs {y:Yt} {n:jQ} (h:kL w y n):∃a cp,y.cv n.nc=σ a n.nc cp/\∀c<n.nc,∃g,y.gC=μ g/\a=μ ⟨g,0,ν⟩:=by
 unfold Yt.cv;cases X:y.gC with
 |none=>
  have Y:n.nc=0:=by
   obtain e|e:=Nat.eq_zero_or_pos n.nc;{exact e};{obtain⟨g,Z⟩:=h.gc 0 e;rw[X]at Z;simp at Z}
  exact⟨ν,0,by rw[Y],λc hc=>fC⟩
 |some g=>exact⟨_,_,rfl,λc hc=>⟨g,rfl,rfl⟩⟩
section
variable {w w':World} {y:Yt} {n:jQ} {m:Nat}
def jH.k0(h:jH w w' y n m):w'.cell? ⟨y.N,0,ν⟩=μ (σ (μ ⟨y.gR,0,ν⟩) n.n y.vQ):=by
 obtain⟨⟨y',Z,hs,_⟩,_⟩:=h;have:=Z.k0
 rwa [hs.N,hs.gR,hs.vQ]at this
def jH.k3(h:jH w w' y n m):w'.cell? ⟨y.N,3,ν⟩=μ (y.cv n.nc):=by
 obtain⟨⟨y',Z,hs,_⟩,_⟩:=h;have:=Z.k3;have e:y'.cv n.nc=y.cv n.nc:=by unfold Yt.cv;rw[hs.gC,hs.yj]
 rwa [hs.N,e]at this
def jH.lt(h:jH w w' y n m):y.N<w'.heap.size:=ai _ _ h.k0
def jH.ptr(h:jH w w' y n m) {i:Nat} (hi:i<n.n):∃R,w'.cell? ⟨y.gR,i,ν⟩=μ (π (μ ⟨R,0,ν⟩)):=by
 obtain⟨⟨y',Z,hs,_⟩,_⟩:=h;have:=Z.ptr hi;rw[hs.gR]at this;exact⟨_,this⟩
def jH.Rw(h:jH w w' y n m) {c:Nat} (hc:c<n.nc)(Y:y.gC=μ g):∃ov,sg w' g (c*7) 7 (Em (n.C c) ov):=by
 obtain⟨⟨y',Z,hs,_⟩,_⟩:=h;exact⟨_,Z.rc g (by rw[hs.gC];exact Y) c hc⟩
def jH.tab {n0:jQ} (h:jH w w' y n m)(V:kL w y n0)(M:n0.n=m)(U:kd w):kd w':=λe s S hs=>by
 subst M;refine(ak (a:=⟨0,e*10+s,ν⟩) (h.kept.block 0 U.lt (λQ=> ?_))).trans (U e s S hs);obtain X|⟨j,T,X⟩:=Q;{exact V.z0 X}
 ·have R:=V.rt j T;have h3:=(V.rn j T).1;obtain Y|Y|Y:=X;{obtain Z|Z|⟨i,hi,Z|Z⟩|Z:=Y;{exact R.sR.2.1 Z.symm};{exact(R.pt 0 R.n1).nz.1 Z.symm};{exact(R.pt i fC).nz.2.1 Z.symm};{exact(R.pt i fC).nz.2.2 Z};{exact R.Ts.1 Z}}
  {exact R.Ts.2 0 (.inl Y) rfl};{exact R.Ts.2 0 (.inr Y) rfl}
def jH.first {y:Yt} {n':jQ} (Z:fP a b)(k:jH b c y n' m):jH a c y n' m:=by
 obtain⟨⟨S,g1,X,V,U⟩,Y⟩:=k;exact⟨⟨S,g1,X,λx hx=>(V x hx).imp_right (λe=>au Z.size e),U⟩,⟨Y.os.trans Z.os,Y.tape.trans Z.tape,Y.output.trans Z.output,au Z.size Y.size,λx hx T=>(Y.block x (aq hx Z.size) T).trans (Z.block x hx)⟩⟩
end
def PF(i:Int)(n:Nat):Bool:=decide (1<=i)&&decide (i<=(n:Int))
def Ar(i:Int)(n:Nat):(PF i n=false/\(i<1 \/(n:Int)<i)) \/ ∃k:Nat,k<n/\i=(k:Int)+1:=by
 by_cases Z:1<=i
 ·by_cases Y:i<=(n:Int)
  {exact .inr ⟨(i-1).toNat,fC,fC⟩};exact .inl ⟨by simp[PF,Y],fC⟩
 exact .inl ⟨by simp[PF,Z],fC⟩
def yo(h:i<n):PF ((i:Int)+1) n=true:=by simp[PF];omega
def KN(i d:Int)(n:Nat):Bool:=hasB i n&& (decide (0<=d)&&decide (d<2))
def PG(i d:Int)(n:Nat):(KN i d n=false/\(i<0 \/(n:Int)<=i \/d<0 \/2<=d)) \/ ∃c k:Nat,c<n/\k<2/\i=(c:Int)/\d=(k:Int):=by
 by_cases Z:0<=i;{by_cases Y:i<(n:Int);{by_cases X:0<=d;{by_cases V:d<2;{exact .inr ⟨i.toNat,d.toNat,fC,fC,fC,fC⟩};exact .inl ⟨by simp[KN,V],fC⟩};exact .inl ⟨by simp[KN,X],fC⟩};exact .inl ⟨by simp[KN,hasB,Y],fC⟩};exact .inl ⟨by simp[KN,hasB,Z],fC⟩
def XI {c:Nat} (h:c<n)(hd:d<2):KN (c:Int) (d:Int) n=true:=by simp[KN,hasB];omega
def qZ(y:Yt)(n:jQ)(i:Int)(w:fA)(h:kL w y n):
 gb gg 107 #[π (μ ⟨y.N,0,ν⟩),ι κ i] w λe w'=>e=ρ (.bool (PF i n.n))/\w=w':=by
  have hl:=h.zz;have c1:=h.k0;unfold PF;by_cases Z:1<=i
  ·by_cases Y:i<=(n.n:Int)
   ·have hv:(decide (1<=i)&&decide (i<=(n.n:Int)))=true:=by simp[Z,Y]
    rw[hv];clear hv h;go_in;go_wp2;go_ret;exact⟨by first|rfl|(simp;omega),rfl⟩
   have hv:(decide (1<=i)&&decide (i<=(n.n:Int)))=false:=by simp[Y]
   rw[hv];clear hv h;go_in;go_wp2;go_ret;exact⟨by first|rfl|(simp;omega),rfl⟩
  have hv:(decide (1<=i)&&decide (i<=(n.n:Int)))=false:=by simp[Z]
  rw[hv];clear hv h;go_in;go_wp2;go_ret;exact⟨by first|rfl|(simp;omega),rfl⟩
def Br(y:Yt)(n:jQ)(i:Int)(w:fA)(h:kL w y n):
 gb gg 112 #[π (μ ⟨y.N,0,ν⟩),ι κ i] w λe w'=>e=ρ (.bool (hasB i n.nc))/\w=w':=by
  have hl:=h.zz;have c1:=h.k3;obtain⟨a,cp,Z,_⟩:=h.cvs;rw[Z]at c1;unfold hasB;by_cases Y:0<=i
  ·by_cases X:i<(n.nc:Int)
   ·have hv:(decide (0<=i)&&decide (i<(n.nc:Int)))=true:=by simp[Y,X]
    rw[hv];clear hv h Z;go_in;go_wp2;go_ret;exact⟨by first|rfl|(simp;omega),rfl⟩
   have hv:(decide (0<=i)&&decide (i<(n.nc:Int)))=false:=by simp[X]
   rw[hv];clear hv h Z;go_in;go_wp2;go_ret;exact⟨by first|rfl|(simp;omega),rfl⟩
  have hv:(decide (0<=i)&&decide (i<(n.nc:Int)))=false:=by simp[Y]
  rw[hv];clear hv h Z;go_in;go_wp2;go_ret;exact⟨by first|rfl|(simp;omega),rfl⟩
def PH(y:Yt)(n:jQ)(i d:Int)(w:fA)(h:kL w y n):
 gb gg 108 #[π (μ ⟨y.N,0,ν⟩),ι κ i,ι κ d] w λe w'=>e=ρ (.bool (KN i d n.nc))/\w=w':=by
  have hh:=Br y n i w h;unfold KN;cases Z:hasB i n.nc with
  |false=>
   rw[Z]at hh;have hv:(false&& (decide (0<=d)&&decide (d<2)))=false:=rfl;rw[hv];clear hv h Z
   go_in
   go_wp2_with fail;refine hh.mono ?_;rintro e w0 ⟨rfl,rfl⟩;clear hh
   go_wp2
   go_ret;exact⟨rfl,rfl⟩
  |true=>
   rw[Z]at hh;clear h Z;by_cases Y:0<=d
   ·by_cases X:d<2
    ·have hv:(true&& (decide (0<=d)&&decide (d<2)))=true:=by simp[Y,X]
     rw[hv];clear hv
     go_in
     go_wp2_with fail;refine hh.mono ?_;rintro e w0 ⟨rfl,rfl⟩;clear hh
     go_wp2
     go_ret;exact⟨by first|rfl|(simp;omega),rfl⟩
    ·have hv:(true&& (decide (0<=d)&&decide (d<2)))=false:=by simp[X]
     rw[hv];clear hv
     go_in
     go_wp2_with fail;refine hh.mono ?_;rintro e w0 ⟨rfl,rfl⟩;clear hh
     go_wp2
     go_ret;exact⟨by first|rfl|(simp;omega),rfl⟩
   ·have hv:(true&& (decide (0<=d)&&decide (d<2)))=false:=by simp[Y]
    rw[hv];clear hv
    go_in
    go_wp2_with fail;refine hh.mono ?_;rintro e w0 ⟨rfl,rfl⟩;clear hh
    go_wp2
    go_ret;exact⟨by first|rfl|(simp;omega),rfl⟩
def TF(d:Nat)(hd:d<2)(w:fA):gb gg 156 #[ι κ (d:Int)] w λe w'=>e=ρ (ι κ ((1-d:Nat):Int))/\w=w':=by
 have Z:((1-d:Nat):Int)=1-(d:Int):=fC;have hw:κ.wrap (1-(d:Int))=1-(d:Int):=bg _ ⟨fC,fC⟩;rw[Z];go_in;go_wp2;go_ret;exact⟨rfl,rfl⟩
def PI(y:Yt)(n:jQ)(i:Nat)(p:Int)(w:fA)(h:kL w y n)(hi:i<n.n):
 gb gg 157 #[π (μ ⟨y.N,0,ν⟩),.agg #[ι κ ((i:Int)+1),ι κ p]] w λe w'=>e=ρ (π (μ ⟨(y.z i).R,0,ν⟩))/\fP w w':=by
  have bm:=gu w (γ #[ι κ ((i:Int)+1),ι κ p] 192);have Y:j2 (w.alloc (γ #[ι κ ((i:Int)+1),ι κ p] 192)) w.heap.size #[ι κ ((i:Int)+1),ι κ p] 192:=j2.new w _ _;have Z:=h.below bm;obtain⟨Q,V⟩:=fH (w.alloc (γ #[ι κ ((i:Int)+1),ι κ p] 192));obtain⟨N,X⟩:=fH (w.heap.size);rw[V]at Y Z bm;rw[X]at Y;have e0:Q.cell? ⟨N,0,ν⟩=μ (ι κ ((i:Int)+1)):=Y.cell 0;have el:=Y.lt;have c0:=Z.k0;have cl:=Z.zz;have d0:=Z.ptr hi;have dl:=Z.TE;have n6:=h.n6
  have hw:κ.wrap ((i:Int)+1-1)=(i:Int):=by
   have:(i:Int)+1-1=i:=fC;rw[this];exact bg _ ⟨fC,fC⟩
  have mR:(i:Int)<(n.n:Int):=fC;have KB:(0:Int)<=(i:Int):=fC;have U:Hid _:=bm;have S:Hid _:=V;have T:Hid _:=X;clear h Z Y V X bm;go_in;go_wp2_with fail;rw[S.out];(try rw[T.out]);go_quiet(fail);go_wp2;go_ret;exact⟨rfl,below_drewN U.out _⟩
def PJ(y:Yt)(n:jQ)(i:Nat)(w:fA)(h:kL w y n)(hi:i<n.n):
 gb gg 40 #[π (μ ⟨y.N,0,ν⟩),ι κ ((i:Int)+1)] w λe w'=>e=ρ (τ #[π (μ ⟨(y.z i).R,0,ν⟩),η])/\w=w':=by
  have hh:=qZ y n ((i:Int)+1) w h;rw[yo hi]at hh;have c0:=h.k0;have cl:=h.zz;have d0:=h.ptr hi;have dl:=h.TE;have n6:=h.n6
  have hw:κ.wrap ((i:Int)+1-1)=(i:Int):=by
   have:(i:Int)+1-1=i:=fC;rw[this];exact bg _ ⟨fC,fC⟩
  have mR:(i:Int)<(n.n:Int):=fC;have KB:(0:Int)<=(i:Int):=fC;clear h;go_in;go_wp2_with fail;refine hh.mono ?_;rintro e w1 ⟨rfl,rfl⟩;clear hh;go_wp2;go_ret2;exact⟨rfl,rfl⟩
def MR(a:fq)(n cap:Nat)(w:fA):(binOp .eql 140 (σ (μ a) n cap) (σ ν 0 0)).run gg w=.ok (.bool false) w:=iV
def aaZ(w:fA):(binOp .eql 140 (σ ν 0 0) (σ ν 0 0)).run gg w=.ok (.bool true) w:=iV
structure Jw(w w':fA)(v:fB)(l:List UInt8):Prop where
 row:Row w' 1 v l.length (jV l)
 own:∀k,v.ownBlock=μ k->w.heap.size<=k
 below:fP w w'
def DB(a:fq)(cap:Nat)(w:fA):
 gb gg 201 #[σ (μ a) 0 cap] w λe w'=>∃(v:fB),e=ρ v/\Jw w w' v [] :=by
  have hq:=MR;go_in;go_wp2;go_ret;exact⟨_,rfl,⟨Row.made w 1 _ #[] (0,0) 0 0 [] rfl rfl (aj _) fF (.inl rfl) gZ,λj Z=>mc (aj _) Z,gu _ _⟩⟩
def PL(w:fA):
 gb gg 201 #[σ ν 0 0] w λe w'=>∃(v:fB),e=ρ v/\Jw w w' v [] :=by
  have hq:=aaZ;go_in;go_wp2;go_ret;exact⟨_,rfl,⟨Row.nil w 1,λj Z=>oL Z,aC _ _⟩⟩
def TG(l:List UInt8):∀u∈jV l,u.oneCell'=true:=by
 intro u hu;unfold jV at hu;obtain⟨b,_,rfl⟩:=bX.1 hu;rfl
def MS(b off n cap:Nat)(l:List UInt8)(w:fA)(hn:n<=1000000)(A:0<n)(hl:l.length=n)(hc:∀j u,(jV l)[j]? =μ u->w.cell? ⟨b,off+j,ν⟩=μ u):
 gb gg 201 #[σ (μ ⟨b,off,ν⟩) n cap] w λe w'=>∃(v:fB),e=ρ v/\Jw w w' v l:=by
  obtain⟨i0,hi,D,H,G⟩:=bu Xk;have hq:=MR;have T:fP w (w.alloc (γ #[] 5)):=gu _ _;have S:Row (w.alloc (γ #[] 5)) 1 (σ (μ ⟨w.heap.size,0,ν⟩) 0 0) 0 [] :=Row.made w 1 _ #[] (0,0) 0 0 [] rfl rfl (aj _) fF (.inl rfl) gZ
  have h:∀j u,(jV l)[j]? =μ u->(w.alloc (γ #[] 5)).cell? ((⟨b,off,ν⟩:fq).add j)=μ u:=λj u hu=>by
   rw[oP];have X:=hc j u hu;exact(ak (a:=⟨b,off+j,ν⟩) (T.block b (ai _ _ X))).trans X
  have Y:(jV l).length=n*1:=by rw[tq,hl,Nat.mul_one]
  go_in;go_wp2_with(at_builtin;go_must(refine jN _ rfl (.tmp 5) (.tmp 6) 140 rfl 5 i0 (.int .u8 0) 1 1 underlying140 hi D H G rfl fF (σ (μ ⟨w.heap.size,0,ν⟩) 0 0) 0 [] rfl S _ n cap (jV l) rfl Y A h (TG l) (by unfold maxLen;omega) fC ?_));intro g1 D7 w1 M U V;have Q:=nO T U (λj Z=>mc (aj _) Z);have J:=pL (B:=w.heap.size) V fC (λj Z=>mc (aj _) Z);clear U V;go_wp2;go_ret;refine⟨_,rfl,⟨?_,λj Z=>mc J Z,Q⟩⟩;rw[hl];exact M
def Row.front {a:Option fq} {cp:Nat} (h:Row w 1 (σ a l.length cp) l.length (jV l))(k:Nat)(hk:k<=l.length):
 (convert 140 9 (σ a k cp)).run gg w=.ok (.string ⟨(l.take k).toArray⟩) w:=by
  have X:(l.take k).length=k:=by rw[List.length_take];omega
  have Z:Row w 1 (σ a k cp) k (jV (l.take k)):=by
   refine⟨by rw[tq,X,Nat.mul_one],?_⟩;obtain⟨e,e0⟩|⟨g,cap,e,S,Z,V,U,T⟩:=h.2;{obtain⟨rfl,_,rfl⟩:=ch e;exact .inl ⟨by rw[show k=0 by omega],fC⟩};obtain⟨rfl,_,rfl⟩:=ch e;refine .inr ⟨g,cp,rfl,S,fC,V,λj u hu=>U j u ?_,T⟩;have Y:j<(jV (l.take k)).length:=(aT.1 hu).1;rw[tq,X]at Y;unfold jV at hu⊢;rw[cY,List.getElem?_take]at hu;rw[ag Y]at hu;rw[cY];exact hu
  exact Row.back Z 140 9 5 underlying140 underlying5 underlying9
def TH(g o d:Nat)(c:sE)(ov:Nat->fB)(many:Int)(w:fA)(hd:d<2)(hC:sg w g o 7 (Em c ov))(hR:Row w 1 (ov d) (c.on d).length (jV (c.on d)))(hg:(ov d).ownBlock≠μ g)(hl:(c.on d).length<=2000):
 gb gg 158 #[π (μ ⟨g,o,ν⟩),ι κ (d:Int),ι κ many] w λe w'=>e=ρ (.string ⟨((c.on d).take (min many.toNat (c.on d).length)).toArray⟩)/\∃v',Vt w w' g o d {c with on:=kK c.on d ((c.on d).drop (min many.toNat (c.on d).length))} ov v':=by
  have Q:w.cell? ⟨g,o+5+d,ν⟩=μ (ov d):=by rw[bP,hC.cell (5+d) fC,XF c ov d hd]
  have f5:w.frozen? ⟨g,o+5+d,ν⟩=false:=by rw[bP];exact hC.fz (5+d) fC
  have gl:=hC.lt fF;have lL:(d:Int)<2:=fC;have PE:(0:Int)<=(d:Int):=fC;have HC:Hid _:=hC;have HG:Hid _:=hg;obtain⟨k,hk⟩:=fH (min many.toNat (c.on d).length);obtain⟨a,cp,hv⟩:=Row.shape hR;have ZB:k<=(c.on d).length:=fC;have J:max (0:Int) (min many ((c.on d).length:Nat))=(k:Int):=fC;have Mv:=hR;rw[hv]at Mv Q;have x5:=Row.front Mv k ZB;have U:((c.on d).drop k).length=(c.on d).length-k:=eG;rw[hk];have HV:Hid _:=hv;have HR:Hid _:=Mv;obtain⟨l,A⟩:=fH (c.on d);rw[A]at J x5 ZB hl U Q HR⊢;have HL:Hid _:=A;obtain⟨n,hn⟩:=fH (l.length);have HN:Hid _:=hn;rw[hn]at J ZB hl U Q;clear hC hR hg hv A Mv hn
  have lz:∀(W w1:fA) (v1:fB) (L:List UInt8),fP w W->Jw W w1 v1 L->∃S T,v1=σ S L.length T/\w1.cell? ⟨g,o+5+d,ν⟩=w.cell? ⟨g,o+5+d,ν⟩/\w1.frozen? ⟨g,o+5+d,ν⟩=false/\g<w1.heap.size:=by
   intro W w1 v1 L hb hf;obtain⟨S,T,e⟩:=Row.shape hf.row;have b2:=fQ hb hf.below;exact⟨S,T,e,ak (a:=⟨g,o+5+d,ν⟩) (b2.block g gl),(aV (a:=⟨g,o+5+d,ν⟩) (b2.block g gl)).trans f5,aq gl b2.size⟩
  have G:Hid _:=lz
  have Ri:∀(W w1:fA) (v1:fB) (L:List UInt8),L=l.drop k->fP w W->Jw W w1 v1 L->Vt w (w1.setCell ⟨g,o+5+d,ν⟩ v1) g o d {c with on:=kK c.on d (l.drop k)} ov v1:=by
   intro W w1 v1 L hL hb hf;have b2:=fQ hb hf.below;refine Vt.turn hd HC.out HG.out v1 (kK c.on d (l.drop k)) b2.os b2.tape b2.output b2.size (λx hx _=>b2.block x hx) ?_ (λx hx=>.inr (au hb.size (hf.own x hx)));rw[jd,<-hL];exact hf.row
  have X:Hid _:=Ri;clear lz Ri;obtain⟨e,D⟩|⟨H,cap2,e,Q8,vt,H9,hcell,D5⟩:=HR.out.2
  ·obtain⟨rfl,_,rfl⟩:=ch e;have Q6:n=0:=by have:=HN.out;omega
   subst Q6;obtain rfl:k=0:=fC;have Z:=PL w.drew;have xR:l=[] :=aQ HN.out;have hld:([] :List UInt8)=l.drop 0:=by rw[xR];rfl
   have AQ:ja 0 l=[] :=rfl;rw[AQ]at x5⊢;have HLD:Hid _:=hld;clear e D J hld hk;by_cases hm:many<=0;{go_in;go_wp2;go_region_with(first|(go_at_call 201;refine Z.mono ?_;rintro e w1 ⟨v1,rfl,hf⟩;have V:Hid _:=X.out _ _ _ _ HLD.out (j4 w) hf;obtain⟨S,T,rfl,Y,z5,h⟩:=G.out _ _ _ _ (j4 w) hf;rw[Q]at Y));all_goals(clear Z hf Y z5;go_wp2;go_ret;exact⟨rfl,_,V.out⟩)};have xP:(0:Int)<=many:=fC;go_in;go_wp2;go_region_with(first|(go_at_call 201;refine Z.mono ?_;rintro e w1 ⟨v1,rfl,hf⟩;have V:Hid _:=X.out _ _ _ _ HLD.out (j4 w) hf;obtain⟨S,T,rfl,Y,z5,h⟩:=G.out _ _ _ _ (j4 w) hf;rw[Q]at Y));all_goals(clear Z hf Y z5;go_wp2;go_ret;exact⟨rfl,_,V.out⟩)
  obtain⟨rfl,_,rfl⟩:=ch e;have hkc:(k:Int)<=(cp:Int):=by have:=HN.out;omega
  have asy:(n:Int)<=(cp:Int):=by have:=HN.out;omega
  have IV:(0:Int)<=(k:Int):=fC;have Cj:(k:Int)<=(n:Int):=fC
  have Z:gb gg 201 #[σ (if cp=k then μ ⟨H,0,ν⟩else μ ⟨H,k,ν⟩) (n-k) (cp-k)] w.drew λe w'=>∃(v:fB),e=ρ v/\Jw w.drew w' v (l.drop k):=by
   by_cases hz:k=n;{have e1:n-k=0:=fC;have e2:l.drop k=[] :=bB (by have:=HN.out;omega);rw[e1,e2];by_cases uI:cp=k;{rw[ag uI];exact DB _ _ _};rw[af uI];exact DB _ _ _};rw[af fC];refine MS H k (n-k) (cp-k) (l.drop k) w.drew fC fC U (λj u hu=> ?_);refine hcell (k+j) u ?_;unfold jV at hu⊢;rw[cY,dU]at hu;rw[cY];exact hu
  clear e vt H9 hcell D5 hk;by_cases hm:many<=0
  ·obtain rfl:k=0:=fC;have AQ:ja 0 l=[] :=rfl;rw[AQ]at x5⊢;have D:(if cp=0 then μ (⟨H,0,ν⟩:fq)else μ ⟨H,0,ν⟩)=μ ⟨H,0,ν⟩:=by split<;>rfl
   rw[eH,eH,D]at Z;clear J hkc IV Cj D;go_in;go_wp2;go_region_with(first|(go_at_call 201;refine Z.mono ?_;rintro e w1 ⟨v1,rfl,hf⟩;have V:Hid _:=X.out _ _ _ _ rfl (j4 w) hf;obtain⟨S,T,rfl,Y,z5,h⟩:=G.out _ _ _ _ (j4 w) hf;rw[Q]at Y));all_goals(clear Z hf Y z5;go_wp2;go_ret;exact⟨rfl,_,V.out⟩)
  by_cases Q6:n=0
  ·subst Q6;obtain rfl:k=0:=fC;have AQ:ja 0 l=[] :=rfl;rw[AQ]at x5⊢;have D:(if cp=0 then μ (⟨H,0,ν⟩:fq)else μ ⟨H,0,ν⟩)=μ ⟨H,0,ν⟩:=by split<;>rfl
   rw[eH,eH,D]at Z;have xP:(0:Int)<=many:=fC;clear J hkc IV Cj D;go_in;go_wp2;go_region_with(first|(go_at_call 201;refine Z.mono ?_;rintro e w1 ⟨v1,rfl,hf⟩;have V:Hid _:=X.out _ _ _ _ rfl (j4 w) hf;obtain⟨S,T,rfl,Y,z5,h⟩:=G.out _ _ _ _ (j4 w) hf;rw[Q]at Y));all_goals(clear Z hf Y z5;go_wp2;go_ret;exact⟨rfl,_,V.out⟩)
  by_cases uI:cp=k
  ·have AX:k=n:=fC;subst AX;rw[ag uI,dx]at Z;subst uI;rw[dx]at Z;have hp0:¬(cp:Int)<=0:=fC;by_cases hmn:many<=(cp:Int)
   {obtain rfl:many=(cp:Int):=fC;clear J;go_in;go_wp2;go_region_with(first|(go_at_call 201;refine Z.mono ?_;rintro e w1 ⟨v1,rfl,hf⟩;have V:Hid _:=X.out _ _ _ _ rfl (j4 w) hf;obtain⟨S,T,rfl,Y,z5,h⟩:=G.out _ _ _ _ (j4 w) hf;rw[Q]at Y));all_goals(clear Z hf Y z5;go_wp2;go_ret;have M:=V.out);simp only[U,jb]at M;exact⟨rfl,_,M⟩};clear J;go_in;go_wp2;go_region_with(first|(go_at_call 201;refine Z.mono ?_;rintro e w1 ⟨v1,rfl,hf⟩;have V:Hid _:=X.out _ _ _ _ rfl (j4 w) hf;obtain⟨S,T,rfl,Y,z5,h⟩:=G.out _ _ _ _ (j4 w) hf;rw[Q]at Y));all_goals(clear Z hf Y z5;go_wp2;go_ret;have M:=V.out);simp only[U,jb]at M;exact⟨rfl,_,M⟩
  rw[af uI]at Z;have hp0:¬(n:Int)<=0:=fC;by_cases hmn:many<=(n:Int)
  {obtain rfl:many=(k:Int):=fC;clear J;go_in;go_wp2;go_region_with(first|(go_at_call 201;refine Z.mono ?_;rintro e w1 ⟨v1,rfl,hf⟩;have V:Hid _:=X.out _ _ _ _ rfl (j4 w) hf;obtain⟨S,T,rfl,Y,z5,h⟩:=G.out _ _ _ _ (j4 w) hf;rw[Q]at Y));all_goals(clear Z hf Y z5;go_wp2;go_ret;have M:=V.out);simp only[U]at M;exact⟨rfl,_,M⟩};obtain rfl:k=n:=fC;rw[dx]at Z;clear J;go_in;go_wp2;go_region_with(first|(go_at_call 201;refine Z.mono ?_;rintro e w1 ⟨v1,rfl,hf⟩;have V:Hid _:=X.out _ _ _ _ rfl (j4 w) hf;obtain⟨S,T,rfl,Y,z5,h⟩:=G.out _ _ _ _ (j4 w) hf;rw[Q]at Y));all_goals(clear Z hf Y z5;go_wp2;go_ret;have M:=V.out);simp only[U,jb]at M;exact⟨rfl,_,M⟩
