import Derived.Test.YtieklnlbljejdaaGreatDoorT15
import Derived.Test.YtieklnlbljejdaaGreatDoorT16
open Go.Value renaming int → ι, slice → σ, pointer → π, tuple → τ, nilIface → η
open Go.IntKind renaming i64 → κ
open Go.Ending renaming returned → ρ
open Go.Obj renaming cells → γ
open Option renaming none → ν, some → μ
open Go renaming World → dN, Calls → eM, Value → dO
open Go.Proofs.Tryz renaming prog → eN
open Go.Act renaming put → gh
open List renaming setIfInBounds_toArray → gj, set_cons_zero → gk, set_cons_succ → gp, take → gq
set_option maxRecDepth 100000
set_option maxHeartbeats 8000000
namespace Go.Proofs.YtieklnlbljejdaaGreatDoor
open Go.RowKit St
namespace Rt
theorem NH(z:Zt)(r:iy)(i:Nat)(own seq:Int)(a:Option Addr)(n cap:Nat)(es:List jv)(w:dN)(h:k8 w z r)(hi:i<r.n)(Y:iK w a n es)(V:kd a cap)(hf:ox own seq es=0):
 eM eN 190 #[π (μ ⟨z.Bb,0,ν⟩),ι κ (i:Int),.agg #[ι κ own,ι κ seq,σ a n cap]] w λe w'=>e=ρ (τ #[ι κ (newF r.K own seq es),η])/\ig w w' z {r with K:=ld r.K own seq es,O:=oN r.K r.O i own seq es} r.n/\iK w' a n es/\∀p v,w.cell? p=μ v->w'.cell? p=μ v:=by
 refine(Nm z.Bb z.fm 6 r.K r.O i own seq a n cap es w h.bs (qy (by have:=(jk hf).1;omega)) (by rw[h.bl];exact hi) Y V dP hf (λ_=>AX _ _ _ _)).mono ?_;rintro e w1 ⟨rfl,X,Z⟩;exact⟨rfl,h.base X Z,Y.two Z h.bs,λp v hc=>jc.cell Z h.bs hc⟩
def ji(r:iy)(i:Nat)(l:List UInt8):iy:=
 let q:=St.ik l
 if q.2.2.2≠0 \/(r.P i).pe.both=false then r
 else if q.1=r.id/\0<newF r.K q.1 q.2.1 q.2.2.1 then r.behind q.2.1
 else
  let r2:iy:={r with K:=ld r.K q.1 q.2.1 q.2.2.1,O:=oN r.K r.O i q.1 q.2.1 q.2.2.1}
  if 0<=newF r.K q.1 q.2.1 q.2.2.1 then r2.iE i ((r2.P i).put 65 (rM q.1 q.2.1 q.2.2.1))else r2
def S3(x:dN)(Z:Nat)(own seq:Int)(v:dO):Prop:=x.cell? ⟨Z,0,ν⟩=μ (ι κ own)/\x.cell? ⟨Z,1,ν⟩=μ (ι κ seq)/\x.cell? ⟨Z,2,ν⟩=μ v
theorem S3.below {x y:dN} {Z:Nat} {own seq:Int} {v:dO} (h:S3 x Z own seq v)(hb:dV x y):S3 y Z own seq v:=by
 have Y:=af _ _ h.1;exact⟨(ai (a:=⟨Z,0,ν⟩) (hb.block Z Y)).trans h.1,(ai (a:=⟨Z,1,ν⟩) (hb.block Z Y)).trans h.2.1,(ai (a:=⟨Z,2,ν⟩) (hb.block Z Y)).trans h.2.2⟩
theorem Db(s:ByteArray)(z:Zt)(r:iy)(i:Nat)(w:dN)(h:k8 w z r)(iC:kE r)(hi:i<r.n)(hs:s.size<=1000)(tF:(r.P i).out.length<=800000000):
 eM eN 135 #[π (μ ⟨z.R,0,ν⟩),ι κ (i:Int),.string s] w λe w'=>e=ρ (τ #[])/\ig w w' z (ji r i s.data.toList) r.n:=by
 have hp:=BD s w (by unfold maxLen;omega);have kV:(i:Int)<(r.n:Int):=dP;have Jv:(0:Int)<=(i:Int):=dP;have HR:Hid _:=h;have Q8:Hid _:=iC;clear h iC
 go_in
 go_wp2_with(fail);refine hp.mono ?_;rintro e w1 ⟨a,n,cap,f,own,seq,os,rfl,ho,hle,hR,b1,jS⟩;clear hp;have ba:=gM w1 (γ #[ι κ own,ι κ seq,σ a n cap] 40);have hA:=λj=>aj w1 #[ι κ own,ι κ seq,σ a n cap] 40 (0,0) j;by_cases hf:f=0
 ·subst hf;have e0:iP 0=η:=rfl;rw[e0];cases hb:(r.P i).pe.both with
  |false=>
   have A:ji r i s.data.toList=r:=by
    unfold ji;rw[hR];simp only;rw[ag (.inr hb)]
   have S:=HR.out.below (gD b1 ba);have HW:Hid (ig w (w1.alloc (γ #[ι κ own,ι κ seq,σ a n cap] 40)) z (ji r i s.data.toList) r.n):=by
    show ig _ _ _ _ _;rw[A];exact ig.still HR.out (gD b1 ba)
   have c1:=S.c1;have cl:=S.lt;have gl:=S.DK;have g1:=(S.pt i hi).T9;rw[hb]at g1;clear hR ho A S hA ba
   go_wp2
   first|go_end0|refine iq rfl rfl ?_
   exact⟨rfl,HW.out⟩
  |true=>
   have jX:=qz hR;have b2:=gD b1 ba;obtain⟨U,mW⟩:=fP (w1.alloc (γ #[ι κ own,ι κ seq,σ a n cap] 40));obtain⟨Z,hZ⟩:=fP (w1.heap.size);have Ue:=ho.below ba;rw[mW]at b2 Ue;have S2:S3 U Z own seq (σ a n cap):=by rw[<-mW,<-hZ];exact⟨hA 0,hA 1,hA 2⟩
   have hZw:w.heap.size<=Z:=by rw[<-hZ];exact b1.size
   have S:=HR.out.below b2;have c1:=S.c1;have cl:=S.lt;have gl:=S.DK;have g1:=(S.pt i hi).T9;rw[hb]at g1;have Hk:=qy (k:=r.id) (by have:=Q8.out.id;omega);have Kn:∀W,dV U W->eM eN 177 #[π (μ ⟨z.Bb,0,ν⟩),ι κ r.id] W λe w'=>∃b V,e=ρ (τ #[.agg #[ι κ (vz r.K r.id),ι κ (oY r.K r.id),σ b (lP r.K r.id).length V],.bool (r.K r.id).isSome])/\iK w' b (lP r.K r.id).length (lP r.K r.id)/\dV W w'/\(w'.cell? ⟨z.R,0,ν⟩=μ (ι κ r.id)/\w'.cell? ⟨z.R,2,ν⟩=μ (π (μ ⟨z.Bb,0,ν⟩))):=by
    intro W H;refine(He z.Bb z.fm 6 r.K r.O r.id W (S.below H).bs Hk).mono ?_;rintro e w3 ⟨b,V,rfl,Rc,_,_,b3⟩;have R3:=(S.below H).below b3;exact⟨b,V,rfl,Rc,b3,R3.c0,R3.c2⟩
   have QW:Hid (∀e∈lP r.K r.id,1<=e.1):=by
    obtain⟨q,hq,jX⟩:=Q8.out.own;have:=qF r.id q.2 0 (jk jX).2.2.2;unfold lP;rw[hq];exact λe he=>(this e he).1.1
   have Zj:n<=6:=by have:=(jk jX).2.2.1;rw[ho.1]at this;exact this
   have qT:Hid (∀W b V,iK W a n os->iK W b (lP r.K r.id).length (lP r.K r.id)->eM eN 189 #[.agg #[ι κ own,ι κ seq,σ a n cap],.agg #[ι κ (vz r.K r.id),ι κ (oY r.K r.id),σ b (lP r.K r.id).length V]] W λe w'=>e=ρ (ι κ (l5 seq os (oY r.K r.id) (lP r.K r.id)))/\dV W w'):=λW b V h1 h2=>Ds own seq _ _ a b n _ cap V os _ W h1 h2 dP;have XO:Hid (own=r.id->newF r.K own seq os=l5 seq os (oY r.K r.id) (lP r.K r.id)):=by
    intro e;obtain⟨q,hq,_⟩:=Q8.out.own;unfold newF oY lP;rw[e,hq];rfl
   have hsq:(1<=own/\own<=6)/\(1<=seq/\seq<=1000000):=⟨(jk jX).1,(jk jX).2.1⟩
   have E9:Hid (own=r.id->0<newF r.K own seq os->∀W,dV U W->eM eN 180 #[π (μ ⟨z.R,0,ν⟩),ι κ seq] W λe w'=>e=ρ (τ #[])/\ig w w' z (ji r i s.data.toList) r.n):=by
    intro e1 e2 W H;have A:ji r i s.data.toList=r.behind seq:=by
     unfold ji;rw[hR];simp only;rw[ae (by simp[hb]),ag ⟨e1,e2⟩]
    refine(BM z r seq W (S.below H) Q8.out dP).mono ?_;rintro e w5 ⟨rfl,I9⟩;exact⟨rfl,by rw[A];exact ig.first HR.out rfl (gD b2 H) (λ_=>I9)⟩
   obtain⟨M,rP⟩:∃M:iy,({r with K:=ld r.K own seq os,O:=oN r.K r.O i own seq os}:iy)=M:=⟨_,rfl⟩
   obtain⟨G,u⟩:=fP (newF r.K own seq os);have xH:Hid (∀W,dV U W->iK W a n os->eM eN 190 #[π (μ ⟨z.Bb,0,ν⟩),ι κ (i:Int),.agg #[ι κ own,ι κ seq,σ a n cap]] W λe w'=>e=ρ (τ #[ι κ G,η])/\ig w w' z M r.n/\iK w' a n os/\∀p v,W.cell? p=μ v->w'.cell? p=μ v):=by
    intro W H hoW;refine(NH z r i own seq a n cap os W (S.below H) hi hoW jS jX).mono ?_;rintro e w5 ⟨rfl,I9,SU,hc5⟩;rw[rP]at I9;rw[u];exact⟨rfl,ig.first HR.out rfl (gD b2 H) (λ_=>I9),SU,hc5⟩
   have hP3:M.P=r.P:=by rw[<-rP]
   have vE:M.n=r.n:=by rw[<-rP]
   have ni:Hid (¬(own=r.id/\0<G)->0<=G->∀W,ig w W z M r.n->iK W a n os->eM eN 152 #[π (μ ⟨z.g,i*71,ν⟩),.string ⟨#[65]⟩,.agg #[ι κ own,ι κ seq,σ a n cap]] W λe w'=>e=ρ (τ #[])/\ig w w' z (ji r i s.data.toList) r.n):=by
    intro e1 e2 W H hoW;have A:ji r i s.data.toList=M.iE i ((M.P i).put 65 (rM own seq os)):=by
     unfold ji;rw[hR];simp only;rw[ae (by simp[hb]),u,ae e1,ag e2,rP,hP3]
    rw[A];refine H.call (r':=M.iE i ((M.P i).put 65 (rM own seq os))) λz1 R1 hl=> ?_;rw[<-hl.g];have hi3:i<M.n:=by rw[vE];exact hi
    refine(vC ⟨#[65]⟩ 65 own seq a n cap os z1.g (i*71) (z1.B i) (z1.v i) (M.P i) W (R1.pt i hi3) rfl hoW jX (by rw[hP3];exact tF)).mono ?_;rintro e X ⟨rfl,LP⟩;have:=R1.port hi3 LP;rw[vE]at this;exact⟨rfl,this⟩
   have tG:Hid (¬(own=r.id/\0<G)->¬0<=G->∀W,ig w W z M r.n->ig w W z (ji r i s.data.toList) r.n):=by
    intro e1 e2 W H;have A:ji r i s.data.toList=M:=by
     unfold ji;rw[hR];simp only;rw[ae (by simp[hb]),u,ae e1,ae e2,rP]
    rw[A];exact H
   rw[u]at E9 XO;obtain⟨T,hT⟩:∃T:dN->Prop,(λx=>ig w x z (ji r i s.data.toList) r.n)=T:=⟨_,rfl⟩
   have Hp:∀x,ig w x z (ji r i s.data.toList) r.n=T x:=λx=>bU hT x;simp only[Hp]at E9 ni tG;have HT:Hid _:=Hp;obtain⟨T3,hT3⟩:∃T:dN->Prop,(λx=>ig w x z M r.n)=T:=⟨_,rfl⟩
   have Ur:∀x,ig w x z M r.n=T3 x:=λx=>bU hT3 x;have HR3:Hid (∀x,T3 x->x.cell? ⟨z.R,1,ν⟩=μ (σ (μ ⟨z.g,0,ν⟩) r.n z.cap)):=λx hx=>by
    rw[<-Ur]at hx;have:=hx.c1;rw[vE]at this;exact this
   simp only[Ur]at xH ni tG;have abq:Hid (∀x,T3 x->T3 x.drew):=λx hx=>by
    rw[<-Ur]at hx⊢;exact hx.below vE (iI x)
   have XP:Hid (∀W,dV U W->W.cell? ⟨z.R,0,ν⟩=μ (ι κ r.id)/\W.cell? ⟨z.R,2,ν⟩=μ (π (μ ⟨z.Bb,0,ν⟩))):=λW H=>⟨(S.below H).c0,(S.below H).c2⟩
   clear hT Hp hT3 Ur S hR Hk HR Q8 b1 ba hA ho tF hP3 vE rP u jX;go_wp2_with(fail)
   try rw[mW]
   try rw[hZ]
   clear mW hZ;generalize vz r.K r.id=ow at Kn qT;generalize oY r.K r.id=sq at Kn qT XO;generalize lP r.K r.id=es at Kn qT XO QW;generalize (r.K r.id).isSome=okb at Kn
   go_cut [8] (λv wx=>∃(Y:Nat) (b:Option Addr) (V:Nat),v=π (μ ⟨Y,0,ν⟩)/\S3 wx Y ow sq (σ b es.length V)/\iK wx b es.length es/\dV U wx)
   case first=>
    have F0:=XP.out _ (iI U);have F0:U.drew.cell? ⟨z.R,0,ν⟩=μ (ι κ r.id)/\U.drew.cell? ⟨z.R,2,ν⟩=μ (π (μ ⟨z.Bb,0,ν⟩)):=F0;have ba:dV U (U.alloc (γ #[ι κ 0,ι κ 0,σ ν 0 0] 40)).drew:=iZ (gM U _);have vE:iM (U.alloc (γ #[ι κ 0,ι κ 0,σ ν 0 0] 40)).drew U.heap.size #[ι κ 0,ι κ 0,σ ν 0 0] 40:=(iM.new U _ _).drew;have jq:z.R≠U.heap.size:=dP;clear qT XO E9 xH ni tG HR3 c1 g1 gl S2 Ue
    go_region_held3(λx=>x.cell? ⟨z.R,0,ν⟩=μ (ι κ r.id)/\x.cell? ⟨z.R,2,ν⟩=μ (π (μ ⟨z.Bb,0,ν⟩)))
     (first|assumption|exact F0|exact F1|exact nu F1|exact nu F0|exact sP F1 jq jq)
     (first
      |(go_at_call 177;refine(Kn _ (by first|exact iI U|exact ba)).mono ?_;rintro e w3 ⟨b,V,rfl,Rc,b3,F1⟩;first|(have lT:=vE.below b3;have y0:=lT.cell 0;have y1:=lT.cell 1;have y2:=lT.cell 2;have z0:=lT.frozen 0;have z1:=lT.frozen 1;have z2:=lT.frozen 2)|skip))
    all_goals
     go_wp2_with(fail)
     go_meet
     first
      |exact⟨_,b,V,rfl,⟨aj w3 _ _ (0,0) 0,aj w3 _ _ (0,0) 1,aj w3 _ _ (0,0) 2⟩,Rc.below (gM _ _),gD (gD (iI U) b3) (gM _ _)⟩
      |(have h5:=BL (a:=.int .i64 ow) (b:=.int .i64 sq) (c:=.slice b es.length V) lT rfl (Nat.le_refl _) (gD ba b3)
        have h6:=((lT.set 0 (ι κ ow)).set 1 (ι κ sq)).set 2 (σ b es.length V);exact⟨_,b,V,rfl,⟨h6.cell 0,h5.1,h5.2.1⟩,iK.not_zero Rc lT QW.out h5.2.2.2,h5.2.2.1⟩)
   case rest=>
    obtain⟨Y,b,V,rfl,SY,Rc,pj⟩:=hcut;have SZ:=S2.below pj;have hoa:=Ue.below pj;have y:=XP.out _ pj;have zl:=af _ _ SZ.1;have yl:=af _ _ SY.1;have rl:=af _ _ y.1;cases q1:(own==r.id)with
    |false=>
     have lE:¬(own=r.id/\0<G):=λe=>by simp[e.1]at q1
     obtain⟨d0,d1,d2⟩:=SZ;have d3:=y.1;clear qT XO Kn
     go_wp2
     go_quiet(fail)
     have b5:=below_drewN pj nq;obtain⟨Q,I9⟩:=fP (wc.drewN nq);rw[I9]at b5;rw[I9];clear I9 d0 d1 d2 d3 y hoa Rc SY pj zl yl rl;have D:=S2.below b5;have SU:=Ue.below b5;have R5:=XP.out _ (gD b5 (iI Q));have ht5:=xH.out _ (gD b5 (iI Q)) (SU.below (iI Q));have J:Q.drew.cell? ⟨z.R,2,ν⟩=μ (π (μ ⟨z.Bb,0,ν⟩))/\Q.drew.cell? ⟨Z,0,ν⟩=μ (ι κ own)/\Q.drew.cell? ⟨Z,1,ν⟩=μ (ι κ seq)/\Q.drew.cell? ⟨Z,2,ν⟩=μ (σ a n cap):=⟨R5.2,D⟩
     have XQ:eM eN 190 #[π (μ ⟨z.Bb,0,ν⟩),ι κ (i:Int),.agg #[ι κ own,ι κ seq,σ a n cap]] Q.drew λe w'=>e=ρ (τ #[ι κ G,η])/\T3 w'/\iK w' a n os/\(w'.cell? ⟨z.R,2,ν⟩=μ (π (μ ⟨z.Bb,0,ν⟩))/\w'.cell? ⟨Z,0,ν⟩=μ (ι κ own)/\w'.cell? ⟨Z,1,ν⟩=μ (ι κ seq)/\w'.cell? ⟨Z,2,ν⟩=μ (σ a n cap)):=by
      refine ht5.mono ?_;rintro e X ⟨rfl,h1,h2,h3⟩;exact⟨rfl,h1,h2,h3 _ _ J.1,h3 _ _ J.2.1,h3 _ _ J.2.2.1,h3 _ _ J.2.2.2⟩
     clear ht5 xH R5 D SU
     go_wp2
     go_region_held3(λx=>x.cell? ⟨z.R,2,ν⟩=μ (π (μ ⟨z.Bb,0,ν⟩))/\x.cell? ⟨Z,0,ν⟩=μ (ι κ own)/\x.cell? ⟨Z,1,ν⟩=μ (ι κ seq)/\x.cell? ⟨Z,2,ν⟩=μ (σ a n cap))
      (first|assumption|exact J|exact F6)
      (first
       |(go_at_call 190;refine XQ.mono ?_;rintro e X ⟨rfl,XR,ho6,F6⟩))
     all_goals
      have m1:=HR3.out _ XR;by_cases QE:0<=G
      ·have t:=ni.out lE QE;have E:X.drew.cell? ⟨z.R,1,ν⟩=μ (σ (μ ⟨z.g,0,ν⟩) r.n z.cap)/\X.drew.cell? ⟨Z,0,ν⟩=μ (ι κ own)/\X.drew.cell? ⟨Z,1,ν⟩=μ (ι κ seq)/\X.drew.cell? ⟨Z,2,ν⟩=μ (σ a n cap):=⟨m1,F6.2⟩
       have hp8:=t X.drew (abq.out _ XR) (ho6.below (iI X));have m1':X.drew.cell? ⟨z.R,1,ν⟩=μ (σ (μ ⟨z.g,0,ν⟩) r.n z.cap):=E.1;have m2:X.drew.cell? ⟨Z,0,ν⟩=μ (ι κ own):=E.2.1;have m3:X.drew.cell? ⟨Z,1,ν⟩=μ (ι κ seq):=E.2.2.1;have m4:X.drew.cell? ⟨Z,2,ν⟩=μ (σ a n cap):=E.2.2.2;have m5:=af _ _ m1';have m6:=af _ _ m2;clear XQ ni tG t J F6 E E9
       go_wp2
       go_region_with(go_at_call 152;refine hp8.mono ?_;rintro e w8 ⟨rfl,Us⟩)
       all_goals
        clear hp8
        go_wp2
        first|go_end0|refine iq rfl rfl ?_
        exact⟨rfl,by rw[HT.out];exact Us⟩
      ·have Us:=tG.out lE dP _ XR;clear XQ ni tG J F6 E9
       go_wp2
       first|go_end0|refine iq rfl rfl ?_
       exact⟨rfl,by rw[HT.out];exact Us⟩
    |true=>
     have HID:Hid (own=r.id):=by show own=r.id;simpa using q1
     have hns:=XO.out HID.out;obtain⟨d0,d1,d2⟩:=SZ;obtain⟨y0,y1,y2⟩:=SY;have F0:wc.drew.cell? ⟨z.R,0,ν⟩=μ (ι κ r.id)/\wc.drew.cell? ⟨Z,0,ν⟩=μ (ι κ own)/\wc.drew.cell? ⟨Z,1,ν⟩=μ (ι κ seq)/\wc.drew.cell? ⟨Z,2,ν⟩=μ (σ a n cap)/\wc.drew.cell? ⟨Y,0,ν⟩=μ (ι κ ow)/\wc.drew.cell? ⟨Y,1,ν⟩=μ (ι κ sq)/\wc.drew.cell? ⟨Y,2,ν⟩=μ (σ b es.length V):=⟨y.1,d0,d1,d2,y0,y1,y2⟩
     have oW:=qT.out wc.drew b V (hoa.below (iI wc)) (Rc.below (iI wc));rw[<-hns]at oW;clear hns;have lN:eM eN 189 #[.agg #[ι κ own,ι κ seq,σ a n cap],.agg #[ι κ ow,ι κ sq,σ b es.length V]] wc.drew λe w'=>e=ρ (ι κ G)/\dV U w'/\(w'.cell? ⟨z.R,0,ν⟩=μ (ι κ r.id)/\w'.cell? ⟨Z,0,ν⟩=μ (ι κ own)/\w'.cell? ⟨Z,1,ν⟩=μ (ι κ seq)/\w'.cell? ⟨Z,2,ν⟩=μ (σ a n cap)/\w'.cell? ⟨Y,0,ν⟩=μ (ι κ ow)/\w'.cell? ⟨Y,1,ν⟩=μ (ι κ sq)/\w'.cell? ⟨Y,2,ν⟩=μ (σ b es.length V)):=by
      refine oW.mono ?_;rintro e w5 ⟨rfl,b5⟩;have bb:=gD pj (gD (iI wc) b5);have SY5:=S3.below (x:=wc.drew) ⟨y0,y1,y2⟩ b5;exact⟨rfl,bb,(XP.out _ bb).1,(S2.below bb).1,(S2.below bb).2.1,(S2.below bb).2.2,SY5.1,SY5.2.1,SY5.2.2⟩
     clear qT XO Kn oW d0 d1 d2 y0 y1 y2 y hoa Rc
     go_wp2
     go_region_held3(λx=>x.cell? ⟨z.R,0,ν⟩=μ (ι κ r.id)/\x.cell? ⟨Z,0,ν⟩=μ (ι κ own)/\x.cell? ⟨Z,1,ν⟩=μ (ι κ seq)/\x.cell? ⟨Z,2,ν⟩=μ (σ a n cap)/\x.cell? ⟨Y,0,ν⟩=μ (ι κ ow)/\x.cell? ⟨Y,1,ν⟩=μ (ι κ sq)/\x.cell? ⟨Y,2,ν⟩=μ (σ b es.length V))
      (first|assumption|exact F0|exact F1)
      (first
       |(go_at_call 189;refine lN.mono ?_;rintro e Q ⟨rfl,b5,F1⟩))
     all_goals
      by_cases h0:0<G
      ·have hb5:=E9.out HID.out h0 _ b5;have m3:=F1.2.2.1;have m6:=af _ _ m3;clear lN xH ni tG F0 F1 E9;go_wp2_with(fail);refine hb5.mono ?_;rintro e w8 ⟨rfl,Us⟩;clear hb5
       go_wp2
       first|go_end0|refine iq rfl rfl ?_
       exact⟨rfl,by rw[HT.out];exact Us⟩
      ·have lE:¬(own=r.id/\0<G):=λe=>h0 e.2;clear lN F0 F1 pj zl yl rl;have D:=S2.below b5;have SU:=Ue.below b5;have R5:=XP.out _ (gD b5 (iI Q));have ht5:=xH.out _ (gD b5 (iI Q)) (SU.below (iI Q));have J:Q.drew.cell? ⟨z.R,2,ν⟩=μ (π (μ ⟨z.Bb,0,ν⟩))/\Q.drew.cell? ⟨Z,0,ν⟩=μ (ι κ own)/\Q.drew.cell? ⟨Z,1,ν⟩=μ (ι κ seq)/\Q.drew.cell? ⟨Z,2,ν⟩=μ (σ a n cap):=⟨R5.2,D⟩
       have XQ:eM eN 190 #[π (μ ⟨z.Bb,0,ν⟩),ι κ (i:Int),.agg #[ι κ own,ι κ seq,σ a n cap]] Q.drew λe w'=>e=ρ (τ #[ι κ G,η])/\T3 w'/\iK w' a n os/\(w'.cell? ⟨z.R,2,ν⟩=μ (π (μ ⟨z.Bb,0,ν⟩))/\w'.cell? ⟨Z,0,ν⟩=μ (ι κ own)/\w'.cell? ⟨Z,1,ν⟩=μ (ι κ seq)/\w'.cell? ⟨Z,2,ν⟩=μ (σ a n cap)):=by
        refine ht5.mono ?_;rintro e X ⟨rfl,h1,h2,h3⟩;exact⟨rfl,h1,h2,h3 _ _ J.1,h3 _ _ J.2.1,h3 _ _ J.2.2.1,h3 _ _ J.2.2.2⟩
       clear ht5 xH R5 D SU
       go_wp2
       go_region_held3(λx=>x.cell? ⟨z.R,2,ν⟩=μ (π (μ ⟨z.Bb,0,ν⟩))/\x.cell? ⟨Z,0,ν⟩=μ (ι κ own)/\x.cell? ⟨Z,1,ν⟩=μ (ι κ seq)/\x.cell? ⟨Z,2,ν⟩=μ (σ a n cap))
        (first|assumption|exact J|exact F6)
        (first
         |(go_at_call 190;refine XQ.mono ?_;rintro e X ⟨rfl,XR,ho6,F6⟩))
       all_goals
        have m1:=HR3.out _ XR;by_cases QE:0<=G
        ·have t:=ni.out lE QE;have E:X.drew.cell? ⟨z.R,1,ν⟩=μ (σ (μ ⟨z.g,0,ν⟩) r.n z.cap)/\X.drew.cell? ⟨Z,0,ν⟩=μ (ι κ own)/\X.drew.cell? ⟨Z,1,ν⟩=μ (ι κ seq)/\X.drew.cell? ⟨Z,2,ν⟩=μ (σ a n cap):=⟨m1,F6.2⟩
         have hp8:=t X.drew (abq.out _ XR) (ho6.below (iI X));have m1':X.drew.cell? ⟨z.R,1,ν⟩=μ (σ (μ ⟨z.g,0,ν⟩) r.n z.cap):=E.1;have m2:X.drew.cell? ⟨Z,0,ν⟩=μ (ι κ own):=E.2.1;have m3:X.drew.cell? ⟨Z,1,ν⟩=μ (ι κ seq):=E.2.2.1;have m4:X.drew.cell? ⟨Z,2,ν⟩=μ (σ a n cap):=E.2.2.2;have m5:=af _ _ m1';have m6:=af _ _ m2;clear XQ ni tG t J F6 E E9
         go_wp2
         go_region_with(go_at_call 152;refine hp8.mono ?_;rintro e w8 ⟨rfl,Us⟩)
         all_goals
          clear hp8
          go_wp2
          first|go_end0|refine iq rfl rfl ?_
          exact⟨rfl,by rw[HT.out];exact Us⟩
        ·have Us:=tG.out lE dP _ XR;clear XQ ni tG J F6 E9
         go_wp2
         first|go_end0|refine iq rfl rfl ?_
         exact⟨rfl,by rw[HT.out];exact Us⟩
 ·have ee:iP f=.iface 128 (ι κ (f:Int)):=by simp only[iP];rw[ae hf]
  rw[ee];have A:ji r i s.data.toList=r:=by
   unfold ji;rw[hR];simp only;rw[ag (.inl hf)]
  have HW:Hid (ig w (w1.alloc (γ #[ι κ own,ι κ seq,σ a n cap] 40)) z (ji r i s.data.toList) r.n):=by
   show ig _ _ _ _ _;rw[A];exact ig.still HR.out (gD b1 ba)
  clear hR ho hf ee A
  go_wp2
  first|go_end0|refine iq rfl rfl ?_
  exact⟨rfl,HW.out⟩
theorem NI(a c me f s:Int)(b:Bool)(w:dN):eM eN 187 #[.agg #[ι κ a,.bool b,ι κ c],ι κ me,.agg #[ι κ f,ι κ s]] w λe w'=>
 e=ρ (.agg #[.int .i64 (jP me f s).who,.bool (jP me f s).both,.int .i64 (jP me f s).left])/\dV w w':=by
 have h:=P5 a c me f s b w;have e:xe me f s=((jP me f s).who,(jP me f s).both,(jP me f s).left):=by
  unfold xe jP;split
  ·rfl
  ·simp only[Prod.mk.injEq,true_and,and_true];by_cases h:s=me
   ·simp[h]
   ·simp[h]
 rw[e]at h;exact h
theorem Dc(s:ByteArray)(z:Zt)(r:iy)(i:Nat)(w:dN)(h:k8 w z r)(iC:kE r)(hi:i<r.n):
 eM eN 134 #[π (μ ⟨z.R,0,ν⟩),ι κ (i:Int),.string s] w λe w'=>e=ρ (τ #[])/\ig w w' z (if(lL s.data.toList).2.2=0 then r.meet i (jP r.id (lL s.data.toList).1 (lL s.data.toList).2.1)else r) r.n:=by
 have V:=Jz s w;have kV:(i:Int)<(r.n:Int):=dP;have Jv:(0:Int)<=(i:Int):=dP;by_cases E:(lL s.data.toList).2.2=0
 ·rw[ag E];rw[E]at V;have hf:1<=(lL s.data.toList).1/\(lL s.data.toList).1<=6:=by
   unfold lL at E⊢;split at E
   ·rename_i hc
    rw[ag hc];have:=hc.2;simp only[tE,Bool.and_eq_true,decide_eq_true_eq]at this;simp only;omega
   ·simp at E
  have e0:iP 0=η:=rfl;rw[e0]at V;generalize (lL s.data.toList).1=f at V hf⊢;generalize (lL s.data.toList).2.1=g at V⊢;have J:∀W Z,dV w W->w.heap.size<=Z->(W.cell? ⟨Z,0,ν⟩=μ (.int .i64 f)/\W.cell? ⟨Z,1,ν⟩=μ (.int .i64 g))->eM eN 74 #[π (μ ⟨z.R,0,ν⟩),.int .i64 (i:Int),.agg #[.int .i64 (jP r.id f g).who,.bool (jP r.id f g).both,.int .i64 (jP r.id f g).left]] W λe w'=>e=ρ (τ #[])/\ig w w' z (r.meet i (jP r.id f g)) r.n/\(w'.cell? ⟨Z,0,ν⟩=μ (.int .i64 f)/\w'.cell? ⟨Z,1,ν⟩=μ (.int .i64 g)/\w'.cell? ⟨z.R,0,ν⟩=μ (.int .i64 r.id)/\w'.cell? ⟨z.R,1,ν⟩=μ (σ (μ ⟨z.g,0,ν⟩) r.n z.cap)):=by
   intro W Z t A hc;have R:=h.below t;refine(um z r i (jP r.id f g) W R iC hi (nr.Uh iC.id.1 hf)).mono ?_;rintro e w' ⟨rfl,hw⟩;have Ld:¬z.mine r.n Z:=h.rY A;have k0:=hw.c0;have k1:=hw.c1;rw[Au]at k0;rw[yG]at k1;exact⟨rfl,ig.first h rfl t (λ_=>hw),hw.cell R (p:=⟨Z,0,ν⟩) Ld hc.1,hw.cell R (p:=⟨Z,1,ν⟩) Ld hc.2,k0,k1⟩
  have M:Hid (∀W,dV w W->W.cell? ⟨z.R,0,ν⟩=μ (.int .i64 r.id)/\W.cell? ⟨z.R,1,ν⟩=μ (σ (μ ⟨z.g,0,ν⟩) r.n z.cap)/\W.cell? ⟨z.g,i*71+67,ν⟩=μ (.int .i64 (r.P i).pe.who)/\W.cell? ⟨z.g,i*71+67+1,ν⟩=μ (.bool (r.P i).pe.both)/\W.cell? ⟨z.g,i*71+67+2,ν⟩=μ (.int .i64 (r.P i).pe.left)):=by
   intro W t;have R:=h.below t;exact⟨R.c0,R.c1,(R.pt i hi).ZB,(R.pt i hi).T9,(R.pt i hi).ZC⟩
  obtain⟨T,hT⟩:∃T:dN->Prop,(λx=>ig w x z (r.meet i (jP r.id f g)) r.n)=T:=⟨_,rfl⟩
  have Hp:∀x,ig w x z (r.meet i (jP r.id f g)) r.n=T x:=λx=>bU hT x;simp only[Hp]at J⊢;have H:=NI (r.P i).pe.who (r.P i).pe.left r.id f g (r.P i).pe.both;generalize (jP r.id f g).who=q1 at J H;generalize (jP r.id f g).both=q2 at J H;generalize (jP r.id f g).left=q3 at J H;generalize (r.P i).pe.who=p1 at M H;generalize (r.P i).pe.both=p2 at M H;generalize (r.P i).pe.left=p3 at M H;generalize r.id=id at M H J;have hRl:=h.lt;have I8:=h.DK;generalize z.R=u at J M hRl⊢;generalize z.g=G at M I8 J;generalize z.cap=cp at M J;generalize r.n=n at M kV J;clear h iC hT Hp E hf
  go_in
  go_wp2_with(fail);refine V.mono ?_;rintro e w1 ⟨rfl,b1⟩;have ba:=gM w1 (γ #[ι κ f,ι κ g] 230);have hA:=λj=>aj w1 #[ι κ f,ι κ g] 230 (0,0) j;have b2:=gD b1 ba;obtain⟨Q,mW⟩:=fP (w1.alloc (γ #[ι κ f,ι κ g] 230));obtain⟨Z,A⟩:=fP (w1.heap.size);rw[mW]at b2;have z0:Q.cell? ⟨Z,0,ν⟩=μ (ι κ f):=by rw[<-mW,<-A];exact hA 0
  have z1:Q.cell? ⟨Z,1,ν⟩=μ (ι κ g):=by rw[<-mW,<-A];exact hA 1
  have b3:=gD b2 (iI Q);have U:=M.out _ b3;have y:Q.drew.cell? ⟨Z,0,ν⟩=μ (ι κ f)/\Q.drew.cell? ⟨Z,1,ν⟩=μ (ι κ g)/\Q.drew.cell? ⟨u,0,ν⟩=μ (ι κ id)/\Q.drew.cell? ⟨u,1,ν⟩=μ (σ (μ ⟨G,0,ν⟩) n cp):=⟨z0,z1,U.1,U.2.1⟩
  have m1:=U.2.2.1;have m2:=U.2.2.2.1;have m3:=U.2.2.2.2;have zl:Z<Q.drew.heap.size:=af _ _ y.1;have hZw:w.heap.size<=Z:=by rw[<-A];exact b1.size
  have gl2:G<Q.drew.heap.size:=af _ _ m1;have hh:eM eN 187 #[.agg #[ι κ p1,.bool p2,ι κ p3],ι κ id,.agg #[ι κ f,ι κ g]] Q.drew λe w'=>e=ρ (.agg #[ι κ q1,.bool q2,ι κ q3])/\dV w w'/\(w'.cell? ⟨Z,0,ν⟩=μ (ι κ f)/\w'.cell? ⟨Z,1,ν⟩=μ (ι κ g)/\w'.cell? ⟨u,0,ν⟩=μ (ι κ id)/\w'.cell? ⟨u,1,ν⟩=μ (σ (μ ⟨G,0,ν⟩) n cp)):=by
   refine(H Q.drew).mono ?_;rintro e w' ⟨rfl,b4⟩;have F4:=M.out _ (gD b3 b4);exact⟨rfl,gD b3 b4,(ai (a:=⟨Z,0,ν⟩) (b4.block Z zl)).trans y.1,(ai (a:=⟨Z,1,ν⟩) (b4.block Z zl)).trans y.2.1,F4.1,F4.2.1⟩
  clear V H hA ba b1 b2;go_wp2_with(fail)
  try rw[mW]
  try rw[A]
  clear mW A;refine bW (S:=λx=>x.cell? ⟨Z,0,ν⟩=μ (ι κ f)/\x.cell? ⟨Z,1,ν⟩=μ (ι κ g)/\x.cell? ⟨u,0,ν⟩=μ (ι κ id)/\x.cell? ⟨u,1,ν⟩=μ (σ (μ ⟨G,0,ν⟩) n cp)) gJ y (λkI=> ?_);refine iR 0 (μ 15) rfl rfl gJ gJ gJ (λ_ _ _ h=>h) (by rfl) (v:= ?_) ?_ iL ?_
  rotate_left
  ·intro X Y
   (try dsimp only at Y)
   go_simp
   try with_reducible rfl
  simp only[gh,gj,gk,gp];refine iR 1 (μ 16) rfl rfl gJ gJ gJ (λ_ _ _ h=>h) (by rfl) (v:= ?_) ?_ iL ?_
  rotate_left
  ·intro X Y
   (try dsimp only at Y)
   go_simp
   try with_reducible rfl
  simp only[gh,gj,gk,gp];refine iR 2 (μ 17) rfl rfl gJ gJ gJ (λ_ _ _ h=>h) (by rfl) (v:= ?_) ?_ iL ?_
  rotate_left
  ·intro X Y
   (try dsimp only at Y)
   go_simp
   try with_reducible rfl
  simp only[gh,gj,gk,gp];refine iR 3 (μ 18) rfl rfl gJ gJ gJ (λ_ _ _ h=>h) (by rfl) (v:= ?_) ?_ iL ?_
  rotate_left
  ·intro X Y
   (try dsimp only at Y)
   go_simp
   try with_reducible rfl
  simp only[gh,gj,gk,gp];refine iR 4 (μ 19) rfl rfl gJ gJ gJ (λ_ _ _ h=>h) (by rfl) (v:= ?_) ?_ iL ?_
  rotate_left
  ·intro X Y
   (try dsimp only at Y)
   go_simp
   try with_reducible rfl
  simp only[gh,gj,gk,gp];refine iR 5 (μ 20) rfl rfl gJ gJ gJ (λ_ _ _ h=>h) (by rfl) (v:= ?_) ?_ iL ?_
  rotate_left
  ·intro X Y
   (try dsimp only at Y)
   go_simp
   try with_reducible rfl
  simp only[gh,gj,gk,gp];refine iR 6 (μ 21) rfl rfl gJ gJ gJ (λ_ _ _ h=>h) (by rfl) (v:= ?_) ?_ iL ?_
  rotate_left
  ·intro X Y
   (try dsimp only at Y)
   go_simp
   try with_reducible rfl
  simp only[gh,gj,gk,gp];refine iR 7 (μ 22) rfl rfl gJ gJ gJ (λ_ _ _ h=>h) (by rfl) (v:= ?_) ?_ iL ?_
  rotate_left
  ·intro X Y
   (try dsimp only at Y)
   go_simp
   try with_reducible rfl
  simp only[gh,gj,gk,gp];refine iR 8 (μ 23) rfl rfl gJ gJ gJ (λ_ _ _ h=>h) (by rfl) (v:= ?_) ?_ iL ?_
  rotate_left
  ·intro X Y
   (try dsimp only at Y)
   go_simp
   try with_reducible rfl
  simp only[gh,gj,gk,gp];refine iR 10 (μ 25) rfl rfl gJ gJ gJ (λ_ _ _ h=>h) (by rfl) (v:= ?_) ?_ iL ?_
  rotate_left
  ·intro X Y
   (try dsimp only at Y)
   go_simp
   try with_reducible rfl
  simp only[gh,gj,gk,gp];refine iR 11 (μ 26) rfl rfl gJ gJ gJ (λ_ _ _ h=>h) (by rfl) (v:= ?_) ?_ iL ?_
  rotate_left
  ·intro X Y
   (try dsimp only at Y)
   go_simp
   try with_reducible rfl
  simp only[gh,gj,gk,gp];refine iR 12 (μ 27) rfl rfl gJ gJ gJ (λ_ _ _ h=>h) (by rfl) (v:= ?_) ?_ iL ?_
  rotate_left
  ·intro X Y
   (try dsimp only at Y)
   go_simp
   try with_reducible rfl
  simp only[gh,gj,gk,gp];refine iR 13 (μ 28) rfl rfl gJ gJ gJ (λ_ _ _ h=>h) (by rfl) (v:= ?_) ?_ iL ?_
  rotate_left
  ·intro X Y
   (try dsimp only at Y)
   go_simp
   try with_reducible rfl
  simp only[gh,gj,gk,gp];refine iR 14 (μ 29) rfl rfl gJ gJ gJ (λ_ _ _ h=>h) (by rfl) (v:= ?_) ?_ iL ?_
  rotate_left
  ·intro X Y
   (try dsimp only at Y)
   go_simp
   try with_reducible rfl
  simp only[gh,gj,gk,gp];refine aN (rs:=[9]) gJ gN ?_;refine aB (o:=_) rfl (λK D=> ?_) aJ
  go_simp
  refine D.out _ _ ?_ (λkI=> ?_)
  ·exact y
  clear D K;refine aN (rs:=[15]) gJ gN ?_;refine aB (o:=_) rfl (λK D=> ?_) aJ
  go_simp
  refine hh.mono ?_;rintro e w4 ⟨rfl,b4,F1⟩
  (try go_wp2_with(fail))
  refine D.out _ _ ?_ (λkI=> ?_)
  ·exact F1
  clear D K;refine aN (rs:=[16]) gJ gN ?_;refine aB (o:=_) rfl (λK D=> ?_) aJ
  go_simp
  refine(J _ Z b4 hZw ⟨F1.1,F1.2.1⟩).mono ?_;rintro e w5 ⟨rfl,t,F2⟩
  (try go_wp2_with(fail))
  refine D.out _ _ ?_ (λkI=> ?_)
  ·exact F2
  clear D K;refine cD gJ ?_ _
  all_goals
   clear J hh y F1 F2 M
   go_wp2
   first|go_end0|refine iq rfl rfl ?_
   exact⟨rfl,t⟩
 ·rw[ae E];have ee:iP (lL s.data.toList).2.2=.iface 128 (ι κ ((lL s.data.toList).2.2:Int)):=by simp only[iP];rw[ae E]
  rw[ee]at V;generalize (lL s.data.toList).1=f at V;generalize (lL s.data.toList).2.1=g at V;generalize (lL s.data.toList).2.2=k at V;have HR:Hid _:=h;clear h iC ee E
  go_in
  go_wp2_with(fail);refine V.mono ?_;rintro e w1 ⟨rfl,b1⟩;have HW:Hid _:=ig.still HR.out (gD b1 (gM w1 (γ #[ι κ f,ι κ g] 230)));clear V
  go_wp2
  first|go_end0|refine iq rfl rfl ?_
  exact⟨rfl,HW.out⟩
theorem Hq(a:Addr)(n cap:Nat)(w:dN):(binOp .eql 140 (σ (μ a) n cap) (σ ν 0 0)).run eN w=.ok (.bool false) w:=gJ
theorem Ut(w:dN):(binOp .eql 140 (σ ν 0 0) (σ ν 0 0)).run eN w=.ok (.bool true) w:=gJ
structure DU(w w':dN)(v:dO)(l:List UInt8):Prop where
 row:Row w' 1 v l.length (iz l)
 own:∀k,v.ownBlock=μ k->w.heap.size<=k
 below:dV w w'
theorem zx(a:Addr)(cap:Nat)(w:dN):
 eM eN 201 #[σ (μ a) 0 cap] w λe w'=>∃(v:dO),e=ρ v/\DU w w' v [] :=by
 have hq:=Hq
 go_in
 go_wp2
 go_ret;exact⟨_,rfl,⟨Row.made w 1 _ #[] (0,0) 0 0 [] rfl rfl (Nat.le_refl _) dS (.inl rfl) gN,λj Z=>j7 (Nat.le_refl _) Z,gM _ _⟩⟩
theorem Ko(w:dN):
 eM eN 201 #[σ ν 0 0] w λe w'=>∃(v:dO),e=ρ v/\DU w w' v [] :=by
 have hq:=Ut
 go_in
 go_wp2
 go_ret;exact⟨_,rfl,⟨Row.nil w 1,λj Z=>mB Z,aq _ _⟩⟩
theorem NJ(l:List UInt8):∀u∈iz l,u.oneCell'=true:=by
 intro u Z;unfold iz at Z;obtain⟨b,_,rfl⟩:=bD.1 Z;rfl
theorem Hr(b off n cap:Nat)(l:List UInt8)(w:dN)(hn:n<=1000000)(y:0<n)(hl:l.length=n)(hc:∀j u,(iz l)[j]? =μ u->w.cell? ⟨b,off+j,ν⟩=μ u):
 eM eN 201 #[σ (μ ⟨b,off,ν⟩) n cap] w λe w'=>∃(v:dO),e=ρ v/\DU w w' v l:=by
 obtain⟨Q,hi,A,G,D⟩:=aT QJ;have hq:=Hq;have T:dV w (w.alloc (γ #[] 5)):=gM _ _;have M:Row (w.alloc (γ #[] 5)) 1 (σ (μ ⟨w.heap.size,0,ν⟩) 0 0) 0 [] :=Row.made w 1 _ #[] (0,0) 0 0 [] rfl rfl (Nat.le_refl _) dS (.inl rfl) gN;have t:∀j u,(iz l)[j]? =μ u->(w.alloc (γ #[] 5)).cell? ((⟨b,off,ν⟩:Addr).add j)=μ u:=λj u S=>by
  rw[lW];have X:=hc j u S;exact(ai (a:=⟨b,off+j,ν⟩) (T.block b (af _ _ X))).trans X
 have Y:(iz l).length=n*1:=by rw[pE,hl,Nat.mul_one]
 go_in
 go_wp2_with(at_builtin;go_must(refine iu _ rfl (.tmp 5) (.tmp 6) 140 rfl 5 Q (.int .u8 0) 1 1 bF hi A G D rfl dS (σ (μ ⟨w.heap.size,0,ν⟩) 0 0) 0 [] rfl M _ n cap (iz l) rfl Y y t (NJ l) (by unfold maxLen;omega) dP ?_));intro g1 zQ w1 H V U;have J:=kS T V (λj Z=>j7 (Nat.le_refl _) Z);have E:=mT (B:=w.heap.size) U dP (λj Z=>j7 (Nat.le_refl _) Z);clear V U
 go_wp2
 go_ret;refine⟨_,rfl,⟨?_,λj Z=>j7 E Z,J⟩⟩;rw[hl];exact H
theorem Row.front {w:dN} {a:Option Addr} {cp:Nat} {l:List UInt8} (h:Row w 1 (σ a l.length cp) l.length (iz l))(k:Nat)(hk:k<=l.length):
 (convert 140 9 (σ a k cp)).run eN w=.ok (.string ⟨(l.take k).toArray⟩) w:=by
 have V:(l.take k).length=k:=by rw[List.length_take];omega
 have Y:Row w 1 (σ a k cp) k (iz (l.take k)):=by
  refine⟨by rw[pE,V,Nat.mul_one],?_⟩;rcases h.2 with⟨e,e0⟩|⟨g,cap,e,Q,Y,U,T,S⟩
  ·obtain⟨rfl,_,rfl⟩:=bC e;exact .inl ⟨by rw[show k=0 by omega],dP⟩
  ·obtain⟨rfl,_,rfl⟩:=bC e;refine .inr ⟨g,cp,rfl,Q,dP,U,λj u Z=>T j u ?_,S⟩;have X:j<(iz (l.take k)).length:=(aG.1 Z).1;rw[pE,V]at X;unfold iz at Z⊢;rw[ct,List.getElem?_take]at Z;rw[ag X]at Z;rw[ct];exact Z
 exact Row.back Y 140 9 5 bF du bT
theorem NK(g o d:Nat)(c:pz)(ov:Nat->dO)(many:Int)(w:dN)(hd:d<2)(hC:oV w g o 7 (zZ c ov))(hR:Row w 1 (ov d) (c.on d).length (iz (c.on d)))(hg:(ov d).ownBlock≠μ g)(hl:(c.on d).length<=2000):
 eM eN 158 #[π (μ ⟨g,o,ν⟩),ι κ (d:Int),ι κ many] w λe w'=>e=ρ (.string ⟨((c.on d).take (min many.toNat (c.on d).length)).toArray⟩)/\∃v',O5 w w' g o d {c with on:=jy c.on d ((c.on d).drop (min many.toNat (c.on d).length))} ov v':=by
 have S:w.cell? ⟨g,o+5+d,ν⟩=μ (ov d):=by rw[Nat.add_assoc,hC.cell (5+d) dP,Rf c ov d hd]
 have f5:w.frozen? ⟨g,o+5+d,ν⟩=false:=by rw[Nat.add_assoc];exact hC.fz (5+d) dP
 have gl:=hC.lt dS;have kP:(d:Int)<2:=dP;have hd0:(0:Int)<=(d:Int):=dP;have HC:Hid _:=hC;have HG:Hid _:=hg;obtain⟨k,hk⟩:=fP (min many.toNat (c.on d).length);obtain⟨a,cp,hv⟩:=Row.shape hR;have JF:k<=(c.on d).length:=dP;have M:max (0:Int) (min many ((c.on d).length:Nat))=(k:Int):=dP;have G7:=hR;rw[hv]at G7 S;have tU:=Row.front G7 k JF;have E:((c.on d).drop k).length=(c.on d).length-k:=dw;rw[hk];have HV:Hid _:=hv;have HR:Hid _:=G7;obtain⟨l,A⟩:=fP (c.on d);rw[A]at M tU JF hl E S HR⊢;have HL:Hid _:=A;obtain⟨n,hn⟩:=fP (l.length);have HN:Hid _:=hn;rw[hn]at M JF hl E S;clear hC hR hg hv A G7 hn;have jX:∀(W X:dN) (v1:dO) (L:List UInt8),dV w W->DU W X v1 L->∃T U,v1=σ T L.length U/\X.cell? ⟨g,o+5+d,ν⟩=w.cell? ⟨g,o+5+d,ν⟩/\X.frozen? ⟨g,o+5+d,ν⟩=false/\g<X.heap.size:=by
  intro W X v1 L hb hf;obtain⟨T,U,e⟩:=Row.shape hf.row;have b2:=gD hb hf.below;exact⟨T,U,e,ai (a:=⟨g,o+5+d,ν⟩) (b2.block g gl),(aH (a:=⟨g,o+5+d,ν⟩) (b2.block g gl)).trans f5,Nat.lt_of_lt_of_le gl b2.size⟩
 have H:Hid _:=jX;have Ll:∀(W X:dN) (v1:dO) (L:List UInt8),L=l.drop k->dV w W->DU W X v1 L->O5 w (X.setCell ⟨g,o+5+d,ν⟩ v1) g o d {c with on:=jy c.on d (l.drop k)} ov v1:=by
  intro W X v1 L hL hb hf;have b2:=gD hb hf.below;refine O5.turn hd HC.out HG.out v1 (jy c.on d (l.drop k)) b2.os b2.tape b2.output b2.size (λx hx _=>b2.block x hx) ?_ (λx hx=>.inr (Nat.le_trans hb.size (hf.own x hx)));rw[ij,<-hL];exact hf.row
 have G:Hid _:=Ll;clear jX Ll;rcases HR.out.2 with⟨e,D⟩|⟨J,cap2,e,I8,rJ,Jh,hcell,Ji⟩
 ·obtain⟨rfl,_,rfl⟩:=bC e;have QE:n=0:=by have:=HN.out;omega
  subst QE;obtain rfl:k=0:=dP;have Z:=Ko w.drew;have vv:l=[] :=aE HN.out;have hld:([] :List UInt8)=l.drop 0:=by rw[vv];rfl
  have xH:gq 0 l=[] :=rfl;rw[xH]at tU⊢;have h:Hid _:=hld;clear e D M hld hk;by_cases hm:many<=0
  ·go_in
   go_wp2
   go_region_with(first|(go_at_call 201;refine Z.mono ?_;rintro e X ⟨v1,rfl,hf⟩;have V:Hid _:=G.out _ _ _ _ h.out (iI w) hf;obtain⟨T,U,rfl,Y,z5,y⟩:=H.out _ _ _ _ (iI w) hf;rw[S]at Y))
   all_goals
    clear Z hf Y z5
    go_wp2
    go_ret;exact⟨rfl,_,V.out⟩
  ·have wO:(0:Int)<=many:=dP
   go_in
   go_wp2
   go_region_with(first|(go_at_call 201;refine Z.mono ?_;rintro e X ⟨v1,rfl,hf⟩;have V:Hid _:=G.out _ _ _ _ h.out (iI w) hf;obtain⟨T,U,rfl,Y,z5,y⟩:=H.out _ _ _ _ (iI w) hf;rw[S]at Y))
   all_goals
    clear Z hf Y z5
    go_wp2
    go_ret;exact⟨rfl,_,V.out⟩
 ·obtain⟨rfl,_,rfl⟩:=bC e;have hkc:(k:Int)<=(cp:Int):=by have:=HN.out;omega
  have akB:(n:Int)<=(cp:Int):=by have:=HN.out;omega
  have FO:(0:Int)<=(k:Int):=dP;have Gs:(k:Int)<=(n:Int):=dP;have Z:eM eN 201 #[σ (if cp=k then μ ⟨J,0,ν⟩else μ ⟨J,k,ν⟩) (n-k) (cp-k)] w.drew λe w'=>∃(v:dO),e=ρ v/\DU w.drew w' v (l.drop k):=by
   by_cases hz:k=n
   ·have e1:n-k=0:=dP;have e2:l.drop k=[] :=aU (by have:=HN.out;omega);rw[e1,e2];by_cases t:cp=k
    ·rw[ag t];exact zx _ _ _
    ·rw[ae t];exact zx _ _ _
   ·rw[ae dP];refine Hr J k (n-k) (cp-k) (l.drop k) w.drew dP dP E (λj u hu=> ?_);refine hcell (k+j) u ?_;unfold iz at hu⊢;rw[ct,db]at hu;rw[ct];exact hu
  clear e rJ Jh hcell Ji hk;by_cases hm:many<=0
  ·obtain rfl:k=0:=dP;have xH:gq 0 l=[] :=rfl;rw[xH]at tU⊢;have D:(if cp=0 then μ (⟨J,0,ν⟩:Addr)else μ ⟨J,0,ν⟩)=μ ⟨J,0,ν⟩:=by split<;>rfl
   rw[Nat.sub_zero,Nat.sub_zero,D]at Z;clear M hkc FO Gs D
   go_in
   go_wp2
   go_region_with(first|(go_at_call 201;refine Z.mono ?_;rintro e X ⟨v1,rfl,hf⟩;have V:Hid _:=G.out _ _ _ _ rfl (iI w) hf;obtain⟨T,U,rfl,Y,z5,y⟩:=H.out _ _ _ _ (iI w) hf;rw[S]at Y))
   all_goals
    clear Z hf Y z5
    go_wp2
    go_ret;exact⟨rfl,_,V.out⟩
  ·by_cases QE:n=0
   ·subst QE;obtain rfl:k=0:=dP;have xH:gq 0 l=[] :=rfl;rw[xH]at tU⊢;have D:(if cp=0 then μ (⟨J,0,ν⟩:Addr)else μ ⟨J,0,ν⟩)=μ ⟨J,0,ν⟩:=by split<;>rfl
    rw[Nat.sub_zero,Nat.sub_zero,D]at Z;have wO:(0:Int)<=many:=dP;clear M hkc FO Gs D
    go_in
    go_wp2
    go_region_with(first|(go_at_call 201;refine Z.mono ?_;rintro e X ⟨v1,rfl,hf⟩;have V:Hid _:=G.out _ _ _ _ rfl (iI w) hf;obtain⟨T,U,rfl,Y,z5,y⟩:=H.out _ _ _ _ (iI w) hf;rw[S]at Y))
    all_goals
     clear Z hf Y z5
     go_wp2
     go_ret;exact⟨rfl,_,V.out⟩
   by_cases t:cp=k
   ·have wX:k=n:=dP;subst wX;rw[ag t,Nat.sub_self]at Z;subst t;rw[Nat.sub_self]at Z;have hp0:¬(cp:Int)<=0:=dP;by_cases hmn:many<=(cp:Int)
    ·obtain rfl:many=(cp:Int):=dP;clear M
     go_in
     go_wp2
     go_region_with(first|(go_at_call 201;refine Z.mono ?_;rintro e X ⟨v1,rfl,hf⟩;have V:Hid _:=G.out _ _ _ _ rfl (iI w) hf;obtain⟨T,U,rfl,Y,z5,y⟩:=H.out _ _ _ _ (iI w) hf;rw[S]at Y))
     all_goals
      clear Z hf Y z5
      go_wp2
      go_ret;have Q:=V.out
     simp only[E,Nat.sub_self]at Q;exact⟨rfl,_,Q⟩
    ·clear M
     go_in
     go_wp2
     go_region_with(first|(go_at_call 201;refine Z.mono ?_;rintro e X ⟨v1,rfl,hf⟩;have V:Hid _:=G.out _ _ _ _ rfl (iI w) hf;obtain⟨T,U,rfl,Y,z5,y⟩:=H.out _ _ _ _ (iI w) hf;rw[S]at Y))
     all_goals
      clear Z hf Y z5
      go_wp2
      go_ret;have Q:=V.out
     simp only[E,Nat.sub_self]at Q;exact⟨rfl,_,Q⟩
   ·rw[ae t]at Z;have hp0:¬(n:Int)<=0:=dP;by_cases hmn:many<=(n:Int)
    ·obtain rfl:many=(k:Int):=dP;clear M
     go_in
     go_wp2
     go_region_with(first|(go_at_call 201;refine Z.mono ?_;rintro e X ⟨v1,rfl,hf⟩;have V:Hid _:=G.out _ _ _ _ rfl (iI w) hf;obtain⟨T,U,rfl,Y,z5,y⟩:=H.out _ _ _ _ (iI w) hf;rw[S]at Y))
     all_goals
      clear Z hf Y z5
      go_wp2
      go_ret;have Q:=V.out
     simp only[E]at Q;exact⟨rfl,_,Q⟩
    ·obtain rfl:k=n:=dP;rw[Nat.sub_self]at Z;clear M
     go_in
     go_wp2
     go_region_with(first|(go_at_call 201;refine Z.mono ?_;rintro e X ⟨v1,rfl,hf⟩;have V:Hid _:=G.out _ _ _ _ rfl (iI w) hf;obtain⟨T,U,rfl,Y,z5,y⟩:=H.out _ _ _ _ (iI w) hf;rw[S]at Y))
     all_goals
      clear Z hf Y z5
      go_wp2
      go_ret;have Q:=V.out
     simp only[E,Nat.sub_self]at Q;exact⟨rfl,_,Q⟩
