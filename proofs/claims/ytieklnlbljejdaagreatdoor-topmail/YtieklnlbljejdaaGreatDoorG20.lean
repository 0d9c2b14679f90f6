import Derived.Test.YtieklnlbljejdaaGreatDoorG18
import Derived.Test.YtieklnlbljejdaaGreatDoorG19
open Go.Value renaming int → ι, slice → σ, pointer → π, tuple → τ, nilIface → η
open Go.IntKind renaming i64 → κ
open Go.Ending renaming returned → ρ
open Go.Obj renaming cells → γ
open Option renaming none → ν, some → μ
open Go renaming World → eB, Calls → fj, Value → eD
open Go.Proofs.Tryz renaming prog → fk
open Go.Act renaming put → gW
open List renaming setIfInBounds_toArray → gX, set_cons_zero → gY, set_cons_succ → gZ, take → ia
set_option maxRecDepth 100000
set_option maxHeartbeats 8000000
namespace Go.Proofs.YtieklnlbljejdaaGreatDoor
open Go.RowKit St
namespace Rt
theorem OD(z:Zt)(r:iY)(i:Nat)(own seq:Int)(a:Option Addr)(n cap:Nat)(es:List j2)(w:eB)(h:lW w z r)(hi:i<r.n)(ho:jm w a n es)(kj:kM a cap)(hf:pj own seq es=0):
 fj fk 190 #[π (μ ⟨z.Bb,0,ν⟩),ι κ (i:Int),.agg #[ι κ own,ι κ seq,σ a n cap]] w λe w'=>e=ρ (τ #[ι κ (newF r.K own seq es),η])/\iU w w' z {r with K:=lR r.K own seq es,O:=oW r.K r.O i own seq es} r.n/\jm w' a n es/\∀p v,w.cell? p=μ v->w'.cell? p=μ v:=by
 refine(Oi z.Bb z.fm 6 r.K r.O i own seq a n cap es w h.bs (qY (by have:=(jT hf).1;omega)) (by rw[h.bl];exact hi) ho kj eE hf (λ_=>BJ _ _ _ _)).mono ?_;rintro e w1 ⟨rfl,hB,hk⟩;exact⟨rfl,h.base hB hk,ho.two hk h.bs,λp v hc=>jN.cell hk h.bs hc⟩
def jK(r:iY)(i:Nat)(l:List UInt8):iY:=
 let q:=St.iT l
 if q.2.2.2≠0 \/(r.P i).pe.both=false then r
 else if q.1=r.id/\0<newF r.K q.1 q.2.1 q.2.2.1 then r.behind q.2.1
 else
  let r2:iY:={r with K:=lR r.K q.1 q.2.1 q.2.2.1,O:=oW r.K r.O i q.1 q.2.1 q.2.2.1}
  if 0<=newF r.K q.1 q.2.1 q.2.2.1 then r2.jd i ((r2.P i).put 65 (sj q.1 q.2.1 q.2.2.1))else r2
def S3(x:eB)(Z:Nat)(own seq:Int)(v:eD):Prop:=x.cell? ⟨Z,0,ν⟩=μ (ι κ own)/\x.cell? ⟨Z,1,ν⟩=μ (ι κ seq)/\x.cell? ⟨Z,2,ν⟩=μ v
theorem S3.below {x y:eB} {Z:Nat} {own seq:Int} {v:eD} (h:S3 x Z own seq v)(hb:eN x y):S3 y Z own seq v:=by
 have zl:=af _ _ h.1;exact⟨(ai (a:=⟨Z,0,ν⟩) (hb.block Z zl)).trans h.1,(ai (a:=⟨Z,1,ν⟩) (hb.block Z zl)).trans h.2.1,(ai (a:=⟨Z,2,ν⟩) (hb.block Z zl)).trans h.2.2⟩
theorem D4(s:ByteArray)(z:Zt)(r:iY)(i:Nat)(w:eB)(h:lW w z r)(jb:lp r)(hi:i<r.n)(hs:s.size<=1000)(uq:(r.P i).out.length<=800000000):
 fj fk 135 #[π (μ ⟨z.R,0,ν⟩),ι κ (i:Int),.string s] w λe w'=>e=ρ (τ #[])/\iU w w' z (jK r i s.data.toList) r.n:=by
 have hp:=Ci s w (by unfold maxLen;omega);have lO:(i:Int)<(r.n:Int):=eE;have NR:(0:Int)<=(i:Int):=eE;have HR:Hid _:=h;have Sg:Hid _:=jb;clear h jb
 go_in
 go_wp2_with(fail);refine hp.mono ?_;rintro e w1 ⟨a,n,cap,f,own,seq,os,rfl,ho,hle,hR,b1,kj⟩;clear hp;have ba:=iB w1 (γ #[ι κ own,ι κ seq,σ a n cap] 40);have hA:=λj=>aq w1 #[ι κ own,ι κ seq,σ a n cap] 40 (0,0) j;by_cases hf:f=0
 ·subst hf;have e0:jy 0=η:=rfl;rw[e0];cases hb:(r.P i).pe.both with
  |false=>
   have hE:jK r i s.data.toList=r:=by
    unfold jK;rw[hR];simp only;rw[ag (.inr hb)]
   have R2:=HR.out.below (iA b1 ba);have HW:Hid (iU w (w1.alloc (γ #[ι κ own,ι κ seq,σ a n cap] 40)) z (jK r i s.data.toList) r.n):=by
    show iU _ _ _ _ _;rw[hE];exact iU.still HR.out (iA b1 ba)
   have c1:=R2.c1;have cl:=R2.lt;have gl:=R2.G6;have g1:=(R2.pt i hi).Xa;rw[hb]at g1;clear hR ho hE R2 hA ba
   go_wp2
   first|go_end0|refine aj (ar rfl _ _ _) rfl ?_
   exact⟨rfl,HW.out⟩
  |true=>
   have kD:=qZ hR;have b2:=iA b1 ba;obtain⟨W2,nH⟩:=gH (w1.alloc (γ #[ι κ own,ι κ seq,σ a n cap] 40));obtain⟨Z,hZ⟩:=gH (w1.heap.size);have Va:=ho.below ba;rw[nH]at b2 Va;have S2:S3 W2 Z own seq (σ a n cap):=by rw[<-nH,<-hZ];exact⟨hA 0,hA 1,hA 2⟩
   have hZw:w.heap.size<=Z:=by rw[<-hZ];exact b1.size
   have R2:=HR.out.below b2;have c1:=R2.c1;have cl:=R2.lt;have gl:=R2.G6;have g1:=(R2.pt i hi).Xa;rw[hb]at g1;have IQ:=qY (k:=r.id) (by have:=Sg.out.id;omega);have Lf:∀W,eN W2 W->fj fk 177 #[π (μ ⟨z.Bb,0,ν⟩),ι κ r.id] W λe w'=>∃b cb,e=ρ (τ #[.agg #[ι κ (wC r.K r.id),ι κ (pQ r.K r.id),σ b (mK r.K r.id).length cb],.bool (r.K r.id).isSome])/\jm w' b (mK r.K r.id).length (mK r.K r.id)/\eN W w'/\(w'.cell? ⟨z.R,0,ν⟩=μ (ι κ r.id)/\w'.cell? ⟨z.R,2,ν⟩=μ (π (μ ⟨z.Bb,0,ν⟩))):=by
    intro W hW;refine(IC z.Bb z.fm 6 r.K r.O r.id W (R2.below hW).bs IQ).mono ?_;rintro e w3 ⟨b,cb,rfl,Sk,_,_,b3⟩;have R3:=(R2.below hW).below b3;exact⟨b,cb,rfl,Sk,b3,R3.c0,R3.c2⟩
   have R8:Hid (∀e∈mK r.K r.id,1<=e.1):=by
    obtain⟨q,hq,kD⟩:=Sg.out.own;have:=ru r.id q.2 0 (jT kD).2.2.2;unfold mK;rw[hq];exact λe he=>(this e he).1.1
   have hn6:n<=6:=by have:=(jT kD).2.2.1;rw[ho.1]at this;exact this
   have rM:Hid (∀W b cb,jm W a n os->jm W b (mK r.K r.id).length (mK r.K r.id)->fj fk 189 #[.agg #[ι κ own,ι κ seq,σ a n cap],.agg #[ι κ (wC r.K r.id),ι κ (pQ r.K r.id),σ b (mK r.K r.id).length cb]] W λe w'=>e=ρ (ι κ (mU seq os (pQ r.K r.id) (mK r.K r.id)))/\eN W w'):=λW b cb h1 h2=>En own seq _ _ a b n _ cap cb os _ W h1 h2 eE;have Y1:Hid (own=r.id->newF r.K own seq os=mU seq os (pQ r.K r.id) (mK r.K r.id)):=by
    intro e;obtain⟨q,hq,_⟩:=Sg.out.own;unfold newF pQ mK;rw[e,hq];rfl
   have hsq:(1<=own/\own<=6)/\(1<=seq/\seq<=1000000):=⟨(jT kD).1,(jT kD).2.1⟩
   have Gg:Hid (own=r.id->0<newF r.K own seq os->∀W,eN W2 W->fj fk 180 #[π (μ ⟨z.R,0,ν⟩),ι κ seq] W λe w'=>e=ρ (τ #[])/\iU w w' z (jK r i s.data.toList) r.n):=by
    intro e1 e2 W hW;have hE:jK r i s.data.toList=r.behind seq:=by
     unfold jK;rw[hR];simp only;rw[ae (by simp[hb]),ag ⟨e1,e2⟩]
    refine(CA z r seq W (R2.below hW) Sg.out eE).mono ?_;rintro e w5 ⟨rfl,JY⟩;exact⟨rfl,by rw[hE];exact iU.first HR.out rfl (iA b2 hW) (λ_=>JY)⟩
   obtain⟨r3,sM⟩:∃r3:iY,({r with K:=lR r.K own seq os,O:=oW r.K r.O i own seq os}:iY)=r3:=⟨_,rfl⟩
   obtain⟨nf,hnf⟩:=gH (newF r.K own seq os);have yf:Hid (∀W,eN W2 W->jm W a n os->fj fk 190 #[π (μ ⟨z.Bb,0,ν⟩),ι κ (i:Int),.agg #[ι κ own,ι κ seq,σ a n cap]] W λe w'=>e=ρ (τ #[ι κ nf,η])/\iU w w' z r3 r.n/\jm w' a n os/\∀p v,W.cell? p=μ v->w'.cell? p=μ v):=by
    intro W hW hoW;refine(OD z r i own seq a n cap os W (R2.below hW) hi hoW kj kD).mono ?_;rintro e w5 ⟨rfl,JY,Ud,hc5⟩;rw[sM]at JY;rw[hnf];exact⟨rfl,iU.first HR.out rfl (iA b2 hW) (λ_=>JY),Ud,hc5⟩
   have hP3:r3.P=r.P:=by rw[<-sM]
   have wF:r3.n=r.n:=by rw[<-sM]
   have nQ:Hid (¬(own=r.id/\0<nf)->0<=nf->∀W,iU w W z r3 r.n->jm W a n os->fj fk 152 #[π (μ ⟨z.g,i*71,ν⟩),.string ⟨#[65]⟩,.agg #[ι κ own,ι κ seq,σ a n cap]] W λe w'=>e=ρ (τ #[])/\iU w w' z (jK r i s.data.toList) r.n):=by
    intro e1 e2 W hW hoW;have hE:jK r i s.data.toList=r3.jd i ((r3.P i).put 65 (sj own seq os)):=by
     unfold jK;rw[hR];simp only;rw[ae (by simp[hb]),hnf,ae e1,ag e2,sM,hP3]
    rw[hE];refine hW.call (r':=r3.jd i ((r3.P i).put 65 (sj own seq os))) λz1 R1 hl=> ?_;rw[<-hl.g];have hi3:i<r3.n:=by rw[wF];exact hi
    refine(wE ⟨#[65]⟩ 65 own seq a n cap os z1.g (i*71) (z1.B i) (z1.v i) (r3.P i) W (R1.pt i hi3) rfl hoW kD (by rw[hP3];exact uq)).mono ?_;rintro e w6 ⟨rfl,Oz⟩;have:=R1.port hi3 Oz;rw[wF]at this;exact⟨rfl,this⟩
   have sD:Hid (¬(own=r.id/\0<nf)->¬0<=nf->∀W,iU w W z r3 r.n->iU w W z (jK r i s.data.toList) r.n):=by
    intro e1 e2 W hW;have hE:jK r i s.data.toList=r3:=by
     unfold jK;rw[hR];simp only;rw[ae (by simp[hb]),hnf,ae e1,ae e2,sM]
    rw[hE];exact hW
   rw[hnf]at Gg Y1;obtain⟨T,hT⟩:∃T:eB->Prop,(λx=>iU w x z (jK r i s.data.toList) r.n)=T:=⟨_,rfl⟩
   have IW:∀x,iU w x z (jK r i s.data.toList) r.n=T x:=λx=>ch hT x;simp only[IW]at Gg nQ sD;have HT:Hid _:=IW;obtain⟨T3,hT3⟩:∃T:eB->Prop,(λx=>iU w x z r3 r.n)=T:=⟨_,rfl⟩
   have Vu:∀x,iU w x z r3 r.n=T3 x:=λx=>ch hT3 x;have HR3:Hid (∀x,T3 x->x.cell? ⟨z.R,1,ν⟩=μ (σ (μ ⟨z.g,0,ν⟩) r.n z.cap)):=λx hx=>by
    rw[<-Vu]at hx;have:=hx.c1;rw[wF]at this;exact this
   simp only[Vu]at yf nQ sD;have aca:Hid (∀x,T3 x->T3 x.drew):=λx hx=>by
    rw[<-Vu]at hx⊢;exact hx.below wF (jk x)
   have Y2:Hid (∀W,eN W2 W->W.cell? ⟨z.R,0,ν⟩=μ (ι κ r.id)/\W.cell? ⟨z.R,2,ν⟩=μ (π (μ ⟨z.Bb,0,ν⟩))):=λW hW=>⟨(R2.below hW).c0,(R2.below hW).c2⟩
   clear hT IW hT3 Vu R2 hR IQ HR Sg b1 ba hA ho uq hP3 wF sM hnf kD;go_wp2_with(fail)
   try rw[nH]
   try rw[hZ]
   clear nH hZ;generalize wC r.K r.id=ow at Lf rM;generalize pQ r.K r.id=sq at Lf rM Y1;generalize mK r.K r.id=es at Lf rM Y1 R8;generalize (r.K r.id).isSome=okb at Lf
   go_cut [8] (λv wx=>∃(Y:Nat) (b:Option Addr) (cb:Nat),v=π (μ ⟨Y,0,ν⟩)/\S3 wx Y ow sq (σ b es.length cb)/\jm wx b es.length es/\eN W2 wx)
   case first=>
    have F0:=Y2.out _ (jk W2);have F0:W2.drew.cell? ⟨z.R,0,ν⟩=μ (ι κ r.id)/\W2.drew.cell? ⟨z.R,2,ν⟩=μ (π (μ ⟨z.Bb,0,ν⟩)):=F0;have ba:eN W2 (W2.alloc (γ #[ι κ 0,ι κ 0,σ ν 0 0] 40)).drew:=jO (iB W2 _);have wF:jr (W2.alloc (γ #[ι κ 0,ι κ 0,σ ν 0 0] 40)).drew W2.heap.size #[ι κ 0,ι κ 0,σ ν 0 0] 40:=(jr.new W2 _ _).drew;have jV:z.R≠W2.heap.size:=eE;clear rM Y1 Gg yf nQ sD HR3 c1 g1 gl S2 Va
    go_region_held3(λx=>x.cell? ⟨z.R,0,ν⟩=μ (ι κ r.id)/\x.cell? ⟨z.R,2,ν⟩=μ (π (μ ⟨z.Bb,0,ν⟩)))
     (first|assumption|exact F0|exact F1|exact nW F1|exact nW F0|exact tW F1 jV jV)
     (first
      |(go_at_call 177;refine(Lf _ (by first|exact jk W2|exact ba)).mono ?_;rintro e w3 ⟨b,cb,rfl,Sk,b3,F1⟩;first|(have mM:=wF.below b3;have y0:=mM.cell 0;have y1:=mM.cell 1;have y2:=mM.cell 2;have z0:=mM.frozen 0;have z1:=mM.frozen 1;have z2:=mM.frozen 2)|skip))
    all_goals
     go_wp2_with(fail)
     go_meet
     first
      |exact⟨_,b,cb,rfl,⟨aq w3 _ _ (0,0) 0,aq w3 _ _ (0,0) 1,aq w3 _ _ (0,0) 2⟩,Sk.below (iB _ _),iA (iA (jk W2) b3) (iB _ _)⟩
      |(have h5:=Gb (a:=.int .i64 ow) (b:=.int .i64 sq) (c:=.slice b es.length cb) mM rfl (Nat.le_refl _) (iA ba b3)
        have h6:=((mM.set 0 (ι κ ow)).set 1 (ι κ sq)).set 2 (σ b es.length cb);exact⟨_,b,cb,rfl,⟨h6.cell 0,h5.1,h5.2.1⟩,jm.not_zero Sk mM R8.out h5.2.2.2,h5.2.2.1⟩)
   case rest=>
    obtain⟨Y,b,cb,rfl,SY,Sk,qC⟩:=hcut;have SZ:=S2.below qC;have hoa:=Va.below qC;have hR0:=Y2.out _ qC;have zl:=af _ _ SZ.1;have yl:=af _ _ SY.1;have rl:=af _ _ hR0.1;cases q1:(own==r.id)with
    |false=>
     have mr:¬(own=r.id/\0<nf):=λe=>by simp[e.1]at q1
     obtain⟨d0,d1,d2⟩:=SZ;have d3:=hR0.1;clear rM Y1 Lf
     go_wp2
     go_quiet(fail)
     have b5:=below_drewN qC nq;obtain⟨W5,JY⟩:=gH (wc.drewN nq);rw[JY]at b5;rw[JY];clear JY d0 d1 d2 d3 hR0 hoa Sk SY qC zl yl rl;have SZ5:=S2.below b5;have Ud:=Va.below b5;have R5:=Y2.out _ (iA b5 (jk W5));have ht5:=yf.out _ (iA b5 (jk W5)) (Ud.below (jk W5));have F5:W5.drew.cell? ⟨z.R,2,ν⟩=μ (π (μ ⟨z.Bb,0,ν⟩))/\W5.drew.cell? ⟨Z,0,ν⟩=μ (ι κ own)/\W5.drew.cell? ⟨Z,1,ν⟩=μ (ι κ seq)/\W5.drew.cell? ⟨Z,2,ν⟩=μ (σ a n cap):=⟨R5.2,SZ5⟩
     have Y3:fj fk 190 #[π (μ ⟨z.Bb,0,ν⟩),ι κ (i:Int),.agg #[ι κ own,ι κ seq,σ a n cap]] W5.drew λe w'=>e=ρ (τ #[ι κ nf,η])/\T3 w'/\jm w' a n os/\(w'.cell? ⟨z.R,2,ν⟩=μ (π (μ ⟨z.Bb,0,ν⟩))/\w'.cell? ⟨Z,0,ν⟩=μ (ι κ own)/\w'.cell? ⟨Z,1,ν⟩=μ (ι κ seq)/\w'.cell? ⟨Z,2,ν⟩=μ (σ a n cap)):=by
      refine ht5.mono ?_;rintro e w6 ⟨rfl,h1,h2,h3⟩;exact⟨rfl,h1,h2,h3 _ _ F5.1,h3 _ _ F5.2.1,h3 _ _ F5.2.2.1,h3 _ _ F5.2.2.2⟩
     clear ht5 yf R5 SZ5 Ud
     go_wp2
     go_region_held3(λx=>x.cell? ⟨z.R,2,ν⟩=μ (π (μ ⟨z.Bb,0,ν⟩))/\x.cell? ⟨Z,0,ν⟩=μ (ι κ own)/\x.cell? ⟨Z,1,ν⟩=μ (ι κ seq)/\x.cell? ⟨Z,2,ν⟩=μ (σ a n cap))
      (first|assumption|exact F5|exact F6)
      (first
       |(go_at_call 190;refine Y3.mono ?_;rintro e w6 ⟨rfl,Y4,ho6,F6⟩))
     all_goals
      have m1:=HR3.out _ Y4;by_cases RC:0<=nf
      ·have hp7:=nQ.out mr RC;have F7:w6.drew.cell? ⟨z.R,1,ν⟩=μ (σ (μ ⟨z.g,0,ν⟩) r.n z.cap)/\w6.drew.cell? ⟨Z,0,ν⟩=μ (ι κ own)/\w6.drew.cell? ⟨Z,1,ν⟩=μ (ι κ seq)/\w6.drew.cell? ⟨Z,2,ν⟩=μ (σ a n cap):=⟨m1,F6.2⟩
       have hp8:=hp7 w6.drew (aca.out _ Y4) (ho6.below (jk w6));have m1':w6.drew.cell? ⟨z.R,1,ν⟩=μ (σ (μ ⟨z.g,0,ν⟩) r.n z.cap):=F7.1;have m2:w6.drew.cell? ⟨Z,0,ν⟩=μ (ι κ own):=F7.2.1;have m3:w6.drew.cell? ⟨Z,1,ν⟩=μ (ι κ seq):=F7.2.2.1;have m4:w6.drew.cell? ⟨Z,2,ν⟩=μ (σ a n cap):=F7.2.2.2;have m5:=af _ _ m1';have m6:=af _ _ m2;clear Y3 nQ sD hp7 F5 F6 F7 Gg
       go_wp2
       go_region_with(go_at_call 152;refine hp8.mono ?_;rintro e w8 ⟨rfl,Vv⟩)
       all_goals
        clear hp8
        go_wp2
        first|go_end0|refine aj (ar rfl _ _ _) rfl ?_
        exact⟨rfl,by rw[HT.out];exact Vv⟩
      ·have Vv:=sD.out mr eE _ Y4;clear Y3 nQ sD F5 F6 Gg
       go_wp2
       first|go_end0|refine aj (ar rfl _ _ _) rfl ?_
       exact⟨rfl,by rw[HT.out];exact Vv⟩
    |true=>
     have HID:Hid (own=r.id):=by show own=r.id;simpa using q1
     have hns:=Y1.out HID.out;obtain⟨d0,d1,d2⟩:=SZ;obtain⟨y0,y1,y2⟩:=SY;have F0:wc.drew.cell? ⟨z.R,0,ν⟩=μ (ι κ r.id)/\wc.drew.cell? ⟨Z,0,ν⟩=μ (ι κ own)/\wc.drew.cell? ⟨Z,1,ν⟩=μ (ι κ seq)/\wc.drew.cell? ⟨Z,2,ν⟩=μ (σ a n cap)/\wc.drew.cell? ⟨Y,0,ν⟩=μ (ι κ ow)/\wc.drew.cell? ⟨Y,1,ν⟩=μ (ι κ sq)/\wc.drew.cell? ⟨Y,2,ν⟩=μ (σ b es.length cb):=⟨hR0.1,d0,d1,d2,y0,y1,y2⟩
     have pN:=rM.out wc.drew b cb (hoa.below (jk wc)) (Sk.below (jk wc));rw[<-hns]at pN;clear hns;have l7:fj fk 189 #[.agg #[ι κ own,ι κ seq,σ a n cap],.agg #[ι κ ow,ι κ sq,σ b es.length cb]] wc.drew λe w'=>e=ρ (ι κ nf)/\eN W2 w'/\(w'.cell? ⟨z.R,0,ν⟩=μ (ι κ r.id)/\w'.cell? ⟨Z,0,ν⟩=μ (ι κ own)/\w'.cell? ⟨Z,1,ν⟩=μ (ι κ seq)/\w'.cell? ⟨Z,2,ν⟩=μ (σ a n cap)/\w'.cell? ⟨Y,0,ν⟩=μ (ι κ ow)/\w'.cell? ⟨Y,1,ν⟩=μ (ι κ sq)/\w'.cell? ⟨Y,2,ν⟩=μ (σ b es.length cb)):=by
      refine pN.mono ?_;rintro e w5 ⟨rfl,b5⟩;have bb:=iA qC (iA (jk wc) b5);have SY5:=S3.below (x:=wc.drew) ⟨y0,y1,y2⟩ b5;exact⟨rfl,bb,(Y2.out _ bb).1,(S2.below bb).1,(S2.below bb).2.1,(S2.below bb).2.2,SY5.1,SY5.2.1,SY5.2.2⟩
     clear rM Y1 Lf pN d0 d1 d2 y0 y1 y2 hR0 hoa Sk
     go_wp2
     go_region_held3(λx=>x.cell? ⟨z.R,0,ν⟩=μ (ι κ r.id)/\x.cell? ⟨Z,0,ν⟩=μ (ι κ own)/\x.cell? ⟨Z,1,ν⟩=μ (ι κ seq)/\x.cell? ⟨Z,2,ν⟩=μ (σ a n cap)/\x.cell? ⟨Y,0,ν⟩=μ (ι κ ow)/\x.cell? ⟨Y,1,ν⟩=μ (ι κ sq)/\x.cell? ⟨Y,2,ν⟩=μ (σ b es.length cb))
      (first|assumption|exact F0|exact F1)
      (first
       |(go_at_call 189;refine l7.mono ?_;rintro e W5 ⟨rfl,b5,F1⟩))
     all_goals
      by_cases h0:0<nf
      ·have hb5:=Gg.out HID.out h0 _ b5;have m3:=F1.2.2.1;have m6:=af _ _ m3;clear l7 yf nQ sD F0 F1 Gg;go_wp2_with(fail);refine hb5.mono ?_;rintro e w8 ⟨rfl,Vv⟩;clear hb5
       go_wp2
       first|go_end0|refine aj (ar rfl _ _ _) rfl ?_
       exact⟨rfl,by rw[HT.out];exact Vv⟩
      ·have mr:¬(own=r.id/\0<nf):=λe=>h0 e.2;clear l7 F0 F1 qC zl yl rl;have SZ5:=S2.below b5;have Ud:=Va.below b5;have R5:=Y2.out _ (iA b5 (jk W5));have ht5:=yf.out _ (iA b5 (jk W5)) (Ud.below (jk W5));have F5:W5.drew.cell? ⟨z.R,2,ν⟩=μ (π (μ ⟨z.Bb,0,ν⟩))/\W5.drew.cell? ⟨Z,0,ν⟩=μ (ι κ own)/\W5.drew.cell? ⟨Z,1,ν⟩=μ (ι κ seq)/\W5.drew.cell? ⟨Z,2,ν⟩=μ (σ a n cap):=⟨R5.2,SZ5⟩
       have Y3:fj fk 190 #[π (μ ⟨z.Bb,0,ν⟩),ι κ (i:Int),.agg #[ι κ own,ι κ seq,σ a n cap]] W5.drew λe w'=>e=ρ (τ #[ι κ nf,η])/\T3 w'/\jm w' a n os/\(w'.cell? ⟨z.R,2,ν⟩=μ (π (μ ⟨z.Bb,0,ν⟩))/\w'.cell? ⟨Z,0,ν⟩=μ (ι κ own)/\w'.cell? ⟨Z,1,ν⟩=μ (ι κ seq)/\w'.cell? ⟨Z,2,ν⟩=μ (σ a n cap)):=by
        refine ht5.mono ?_;rintro e w6 ⟨rfl,h1,h2,h3⟩;exact⟨rfl,h1,h2,h3 _ _ F5.1,h3 _ _ F5.2.1,h3 _ _ F5.2.2.1,h3 _ _ F5.2.2.2⟩
       clear ht5 yf R5 SZ5 Ud
       go_wp2
       go_region_held3(λx=>x.cell? ⟨z.R,2,ν⟩=μ (π (μ ⟨z.Bb,0,ν⟩))/\x.cell? ⟨Z,0,ν⟩=μ (ι κ own)/\x.cell? ⟨Z,1,ν⟩=μ (ι κ seq)/\x.cell? ⟨Z,2,ν⟩=μ (σ a n cap))
        (first|assumption|exact F5|exact F6)
        (first
         |(go_at_call 190;refine Y3.mono ?_;rintro e w6 ⟨rfl,Y4,ho6,F6⟩))
       all_goals
        have m1:=HR3.out _ Y4;by_cases RC:0<=nf
        ·have hp7:=nQ.out mr RC;have F7:w6.drew.cell? ⟨z.R,1,ν⟩=μ (σ (μ ⟨z.g,0,ν⟩) r.n z.cap)/\w6.drew.cell? ⟨Z,0,ν⟩=μ (ι κ own)/\w6.drew.cell? ⟨Z,1,ν⟩=μ (ι κ seq)/\w6.drew.cell? ⟨Z,2,ν⟩=μ (σ a n cap):=⟨m1,F6.2⟩
         have hp8:=hp7 w6.drew (aca.out _ Y4) (ho6.below (jk w6));have m1':w6.drew.cell? ⟨z.R,1,ν⟩=μ (σ (μ ⟨z.g,0,ν⟩) r.n z.cap):=F7.1;have m2:w6.drew.cell? ⟨Z,0,ν⟩=μ (ι κ own):=F7.2.1;have m3:w6.drew.cell? ⟨Z,1,ν⟩=μ (ι κ seq):=F7.2.2.1;have m4:w6.drew.cell? ⟨Z,2,ν⟩=μ (σ a n cap):=F7.2.2.2;have m5:=af _ _ m1';have m6:=af _ _ m2;clear Y3 nQ sD hp7 F5 F6 F7 Gg
         go_wp2
         go_region_with(go_at_call 152;refine hp8.mono ?_;rintro e w8 ⟨rfl,Vv⟩)
         all_goals
          clear hp8
          go_wp2
          first|go_end0|refine aj (ar rfl _ _ _) rfl ?_
          exact⟨rfl,by rw[HT.out];exact Vv⟩
        ·have Vv:=sD.out mr eE _ Y4;clear Y3 nQ sD F5 F6 Gg
         go_wp2
         first|go_end0|refine aj (ar rfl _ _ _) rfl ?_
         exact⟨rfl,by rw[HT.out];exact Vv⟩
 ·have ee:jy f=.iface 128 (ι κ (f:Int)):=by simp only[jy];rw[ae hf]
  rw[ee];have hE:jK r i s.data.toList=r:=by
   unfold jK;rw[hR];simp only;rw[ag (.inl hf)]
  have HW:Hid (iU w (w1.alloc (γ #[ι κ own,ι κ seq,σ a n cap] 40)) z (jK r i s.data.toList) r.n):=by
   show iU _ _ _ _ _;rw[hE];exact iU.still HR.out (iA b1 ba)
  clear hR ho hf ee hE
  go_wp2
  first|go_end0|refine aj (ar rfl _ _ _) rfl ?_
  exact⟨rfl,HW.out⟩
theorem OE(a c me f s:Int)(b:Bool)(w:eB):fj fk 187 #[.agg #[ι κ a,.bool b,ι κ c],ι κ me,.agg #[ι κ f,ι κ s]] w λe w'=>
 e=ρ (.agg #[.int .i64 (kf me f s).who,.bool (kf me f s).both,.int .i64 (kf me f s).left])/\eN w w':=by
 have h:=RE a c me f s b w;have e:xV me f s=((kf me f s).who,(kf me f s).both,(kf me f s).left):=by
  unfold xV kf;split
  ·rfl
  ·simp only[Prod.mk.injEq,true_and,and_true];by_cases h:s=me
   ·simp[h]
   ·simp[h]
 rw[e]at h;exact h
theorem D5(s:ByteArray)(z:Zt)(r:iY)(i:Nat)(w:eB)(h:lW w z r)(jb:lp r)(hi:i<r.n):
 fj fk 134 #[π (μ ⟨z.R,0,ν⟩),ι κ (i:Int),.string s] w λe w'=>e=ρ (τ #[])/\iU w w' z (if(mG s.data.toList).2.2=0 then r.meet i (kf r.id (mG s.data.toList).1 (mG s.data.toList).2.1)else r) r.n:=by
 have hp:=KJ s w;have lO:(i:Int)<(r.n:Int):=eE;have NR:(0:Int)<=(i:Int):=eE;by_cases hz:(mG s.data.toList).2.2=0
 ·rw[ag hz];rw[hz]at hp;have hf:1<=(mG s.data.toList).1/\(mG s.data.toList).1<=6:=by
   unfold mG at hz⊢;split at hz
   ·rename_i hc
    rw[ag hc];have:=hc.2;simp only[ur,Bool.and_eq_true,decide_eq_true_eq]at this;simp only;omega
   ·simp at hz
  have e0:jy 0=η:=rfl;rw[e0]at hp;generalize (mG s.data.toList).1=f at hp hf⊢;generalize (mG s.data.toList).2.1=g at hp⊢;have uY:∀W Z,eN w W->w.heap.size<=Z->(W.cell? ⟨Z,0,ν⟩=μ (.int .i64 f)/\W.cell? ⟨Z,1,ν⟩=μ (.int .i64 g))->fj fk 74 #[π (μ ⟨z.R,0,ν⟩),.int .i64 (i:Int),.agg #[.int .i64 (kf r.id f g).who,.bool (kf r.id f g).both,.int .i64 (kf r.id f g).left]] W λe w'=>e=ρ (τ #[])/\iU w w' z (r.meet i (kf r.id f g)) r.n/\(w'.cell? ⟨Z,0,ν⟩=μ (.int .i64 f)/\w'.cell? ⟨Z,1,ν⟩=μ (.int .i64 g)/\w'.cell? ⟨z.R,0,ν⟩=μ (.int .i64 r.id)/\w'.cell? ⟨z.R,1,ν⟩=μ (σ (μ ⟨z.g,0,ν⟩) r.n z.cap)):=by
   intro W Z hW hZ hc;have R:=h.below hW;refine(uV z r i (kf r.id f g) W R jb hi (nV.Vm jb.id.1 hf)).mono ?_;rintro e w' ⟨rfl,hw⟩;have Mr:¬z.mine r.n Z:=h.sY hZ;have k0:=hw.c0;have k1:=hw.c1;rw[Bj]at k0;rw[zi]at k1;exact⟨rfl,iU.first h rfl hW (λ_=>hw),hw.cell R (p:=⟨Z,0,ν⟩) Mr hc.1,hw.cell R (p:=⟨Z,1,ν⟩) Mr hc.2,k0,k1⟩
  have wm:Hid (∀W,eN w W->W.cell? ⟨z.R,0,ν⟩=μ (.int .i64 r.id)/\W.cell? ⟨z.R,1,ν⟩=μ (σ (μ ⟨z.g,0,ν⟩) r.n z.cap)/\W.cell? ⟨z.g,i*71+67,ν⟩=μ (.int .i64 (r.P i).pe.who)/\W.cell? ⟨z.g,i*71+67+1,ν⟩=μ (.bool (r.P i).pe.both)/\W.cell? ⟨z.g,i*71+67+2,ν⟩=μ (.int .i64 (r.P i).pe.left)):=by
   intro W hW;have R:=h.below hW;exact⟨R.c0,R.c1,(R.pt i hi).c67,(R.pt i hi).Xa,(R.pt i hi).c69⟩
  obtain⟨T,hT⟩:∃T:eB->Prop,(λx=>iU w x z (r.meet i (kf r.id f g)) r.n)=T:=⟨_,rfl⟩
  have IW:∀x,iU w x z (r.meet i (kf r.id f g)) r.n=T x:=λx=>ch hT x;simp only[IW]at uY⊢;have Gh:=OE (r.P i).pe.who (r.P i).pe.left r.id f g (r.P i).pe.both;generalize (kf r.id f g).who=q1 at uY Gh;generalize (kf r.id f g).both=q2 at uY Gh;generalize (kf r.id f g).left=q3 at uY Gh;generalize (r.P i).pe.who=p1 at wm Gh;generalize (r.P i).pe.both=p2 at wm Gh;generalize (r.P i).pe.left=p3 at wm Gh;generalize r.id=id at wm Gh uY;have hRl:=h.lt;have MA:=h.G6;generalize z.R=RR at uY wm hRl⊢;generalize z.g=G at wm MA uY;generalize z.cap=cp at wm uY;generalize r.n=n at wm lO uY;clear h jb hT IW hz hf
  go_in
  go_wp2_with(fail);refine hp.mono ?_;rintro e w1 ⟨rfl,b1⟩;have ba:=iB w1 (γ #[ι κ f,ι κ g] 230);have hA:=λj=>aq w1 #[ι κ f,ι κ g] 230 (0,0) j;have b2:=iA b1 ba;obtain⟨W2,nH⟩:=gH (w1.alloc (γ #[ι κ f,ι κ g] 230));obtain⟨Z,hZ⟩:=gH (w1.heap.size);rw[nH]at b2;have z0:W2.cell? ⟨Z,0,ν⟩=μ (ι κ f):=by rw[<-nH,<-hZ];exact hA 0
  have z1:W2.cell? ⟨Z,1,ν⟩=μ (ι κ g):=by rw[<-nH,<-hZ];exact hA 1
  have b3:=iA b2 (jk W2);have F00:=wm.out _ b3;have F0:W2.drew.cell? ⟨Z,0,ν⟩=μ (ι κ f)/\W2.drew.cell? ⟨Z,1,ν⟩=μ (ι κ g)/\W2.drew.cell? ⟨RR,0,ν⟩=μ (ι κ id)/\W2.drew.cell? ⟨RR,1,ν⟩=μ (σ (μ ⟨G,0,ν⟩) n cp):=⟨z0,z1,F00.1,F00.2.1⟩
  have m1:=F00.2.2.1;have m2:=F00.2.2.2.1;have m3:=F00.2.2.2.2;have zl:Z<W2.drew.heap.size:=af _ _ F0.1;have hZw:w.heap.size<=Z:=by rw[<-hZ];exact b1.size
  have gl2:G<W2.drew.heap.size:=af _ _ m1;have hh:fj fk 187 #[.agg #[ι κ p1,.bool p2,ι κ p3],ι κ id,.agg #[ι κ f,ι κ g]] W2.drew λe w'=>e=ρ (.agg #[ι κ q1,.bool q2,ι κ q3])/\eN w w'/\(w'.cell? ⟨Z,0,ν⟩=μ (ι κ f)/\w'.cell? ⟨Z,1,ν⟩=μ (ι κ g)/\w'.cell? ⟨RR,0,ν⟩=μ (ι κ id)/\w'.cell? ⟨RR,1,ν⟩=μ (σ (μ ⟨G,0,ν⟩) n cp)):=by
   refine(Gh W2.drew).mono ?_;rintro e w' ⟨rfl,b4⟩;have F4:=wm.out _ (iA b3 b4);exact⟨rfl,iA b3 b4,(ai (a:=⟨Z,0,ν⟩) (b4.block Z zl)).trans F0.1,(ai (a:=⟨Z,1,ν⟩) (b4.block Z zl)).trans F0.2.1,F4.1,F4.2.1⟩
  clear hp Gh hA ba b1 b2;go_wp2_with(fail)
  try rw[nH]
  try rw[hZ]
  clear nH hZ;refine cz (S:=λx=>x.cell? ⟨Z,0,ν⟩=μ (ι κ f)/\x.cell? ⟨Z,1,ν⟩=μ (ι κ g)/\x.cell? ⟨RR,0,ν⟩=μ (ι κ id)/\x.cell? ⟨RR,1,ν⟩=μ (σ (μ ⟨G,0,ν⟩) n cp)) gT F0 (λkY=> ?_);refine jq 0 (μ 15) rfl rfl gT gT gT (λ_ _ _ h=>h) (by rfl) (v:= ?_) ?_ jj ?_
  rotate_left
  ·intro wS kJ
   (try dsimp only at kJ)
   go_simp
   try with_reducible rfl
  simp only[gW,gX,gY,gZ];refine jq 1 (μ 16) rfl rfl gT gT gT (λ_ _ _ h=>h) (by rfl) (v:= ?_) ?_ jj ?_
  rotate_left
  ·intro wS kJ
   (try dsimp only at kJ)
   go_simp
   try with_reducible rfl
  simp only[gW,gX,gY,gZ];refine jq 2 (μ 17) rfl rfl gT gT gT (λ_ _ _ h=>h) (by rfl) (v:= ?_) ?_ jj ?_
  rotate_left
  ·intro wS kJ
   (try dsimp only at kJ)
   go_simp
   try with_reducible rfl
  simp only[gW,gX,gY,gZ];refine jq 3 (μ 18) rfl rfl gT gT gT (λ_ _ _ h=>h) (by rfl) (v:= ?_) ?_ jj ?_
  rotate_left
  ·intro wS kJ
   (try dsimp only at kJ)
   go_simp
   try with_reducible rfl
  simp only[gW,gX,gY,gZ];refine jq 4 (μ 19) rfl rfl gT gT gT (λ_ _ _ h=>h) (by rfl) (v:= ?_) ?_ jj ?_
  rotate_left
  ·intro wS kJ
   (try dsimp only at kJ)
   go_simp
   try with_reducible rfl
  simp only[gW,gX,gY,gZ];refine jq 5 (μ 20) rfl rfl gT gT gT (λ_ _ _ h=>h) (by rfl) (v:= ?_) ?_ jj ?_
  rotate_left
  ·intro wS kJ
   (try dsimp only at kJ)
   go_simp
   try with_reducible rfl
  simp only[gW,gX,gY,gZ];refine jq 6 (μ 21) rfl rfl gT gT gT (λ_ _ _ h=>h) (by rfl) (v:= ?_) ?_ jj ?_
  rotate_left
  ·intro wS kJ
   (try dsimp only at kJ)
   go_simp
   try with_reducible rfl
  simp only[gW,gX,gY,gZ];refine jq 7 (μ 22) rfl rfl gT gT gT (λ_ _ _ h=>h) (by rfl) (v:= ?_) ?_ jj ?_
  rotate_left
  ·intro wS kJ
   (try dsimp only at kJ)
   go_simp
   try with_reducible rfl
  simp only[gW,gX,gY,gZ];refine jq 8 (μ 23) rfl rfl gT gT gT (λ_ _ _ h=>h) (by rfl) (v:= ?_) ?_ jj ?_
  rotate_left
  ·intro wS kJ
   (try dsimp only at kJ)
   go_simp
   try with_reducible rfl
  simp only[gW,gX,gY,gZ];refine jq 10 (μ 25) rfl rfl gT gT gT (λ_ _ _ h=>h) (by rfl) (v:= ?_) ?_ jj ?_
  rotate_left
  ·intro wS kJ
   (try dsimp only at kJ)
   go_simp
   try with_reducible rfl
  simp only[gW,gX,gY,gZ];refine jq 11 (μ 26) rfl rfl gT gT gT (λ_ _ _ h=>h) (by rfl) (v:= ?_) ?_ jj ?_
  rotate_left
  ·intro wS kJ
   (try dsimp only at kJ)
   go_simp
   try with_reducible rfl
  simp only[gW,gX,gY,gZ];refine jq 12 (μ 27) rfl rfl gT gT gT (λ_ _ _ h=>h) (by rfl) (v:= ?_) ?_ jj ?_
  rotate_left
  ·intro wS kJ
   (try dsimp only at kJ)
   go_simp
   try with_reducible rfl
  simp only[gW,gX,gY,gZ];refine jq 13 (μ 28) rfl rfl gT gT gT (λ_ _ _ h=>h) (by rfl) (v:= ?_) ?_ jj ?_
  rotate_left
  ·intro wS kJ
   (try dsimp only at kJ)
   go_simp
   try with_reducible rfl
  simp only[gW,gX,gY,gZ];refine jq 14 (μ 29) rfl rfl gT gT gT (λ_ _ _ h=>h) (by rfl) (v:= ?_) ?_ jj ?_
  rotate_left
  ·intro wS kJ
   (try dsimp only at kJ)
   go_simp
   try with_reducible rfl
  simp only[gW,gX,gY,gZ];refine aL (rs:=[9]) gT iC ?_;refine aB (o:=_) rfl (λK hK=> ?_) aF
  go_simp
  refine hK.out _ _ ?_ (λkY=> ?_)
  ·exact F0
  clear hK K;refine aL (rs:=[15]) gT iC ?_;refine aB (o:=_) rfl (λK hK=> ?_) aF
  go_simp
  refine hh.mono ?_;rintro e w4 ⟨rfl,b4,F1⟩
  (try go_wp2_with(fail))
  refine hK.out _ _ ?_ (λkY=> ?_)
  ·exact F1
  clear hK K;refine aL (rs:=[16]) gT iC ?_;refine aB (o:=_) rfl (λK hK=> ?_) aF
  go_simp
  refine(uY _ Z b4 hZw ⟨F1.1,F1.2.1⟩).mono ?_;rintro e w5 ⟨rfl,hW,F2⟩
  (try go_wp2_with(fail))
  refine hK.out _ _ ?_ (λkY=> ?_)
  ·exact F2
  clear hK K;refine bZ gT ?_ _
  all_goals
   clear uY hh F0 F1 F2 wm
   go_wp2
   first|go_end0|refine aj (ar rfl _ _ _) rfl ?_
   exact⟨rfl,hW⟩
 ·rw[ae hz];have ee:jy (mG s.data.toList).2.2=.iface 128 (ι κ ((mG s.data.toList).2.2:Int)):=by simp only[jy];rw[ae hz]
  rw[ee]at hp;generalize (mG s.data.toList).1=f at hp;generalize (mG s.data.toList).2.1=g at hp;generalize (mG s.data.toList).2.2=k at hp;have HR:Hid _:=h;clear h jb ee hz
  go_in
  go_wp2_with(fail);refine hp.mono ?_;rintro e w1 ⟨rfl,b1⟩;have HW:Hid _:=iU.still HR.out (iA b1 (iB w1 (γ #[ι κ f,ι κ g] 230)));clear hp
  go_wp2
  first|go_end0|refine aj (ar rfl _ _ _) rfl ?_
  exact⟨rfl,HW.out⟩
theorem IX(a:Addr)(n cap:Nat)(w:eB):(binOp .eql 140 (σ (μ a) n cap) (σ ν 0 0)).run fk w=.ok (.bool false) w:=gT
theorem Vw(w:eB):(binOp .eql 140 (σ ν 0 0) (σ ν 0 0)).run fk w=.ok (.bool true) w:=gT
structure EL(w w':eB)(v:eD)(l:List UInt8):Prop where
 row:Row w' 1 v l.length (iZ l)
 own:∀k,v.ownBlock=μ k->w.heap.size<=k
 below:eN w w'
theorem Ag(a:Addr)(cap:Nat)(w:eB):
 fj fk 201 #[σ (μ a) 0 cap] w λe w'=>∃(v:eD),e=ρ v/\EL w w' v [] :=by
 have hq:=IX
 go_in
 go_wp2
 go_ret;exact⟨_,rfl,⟨Row.made w 1 _ #[] (0,0) 0 0 [] rfl rfl (Nat.le_refl _) eH (.inl rfl) iC,λj hj=>kG (Nat.le_refl _) hj,iB _ _⟩⟩
theorem Lg(w:eB):
 fj fk 201 #[σ ν 0 0] w λe w'=>∃(v:eD),e=ρ v/\EL w w' v [] :=by
 have hq:=Vw
 go_in
 go_wp2
 go_ret;exact⟨_,rfl,⟨Row.nil w 1,λj hj=>mZ hj,au _ _⟩⟩
theorem OG(l:List UInt8):∀u∈iZ l,u.oneCell'=true:=by
 intro u hu;unfold iZ at hu;obtain⟨b,_,rfl⟩:=bI.1 hu;rfl
theorem IY(b off n cap:Nat)(l:List UInt8)(w:eB)(hn:n<=1000000)(sJ:0<n)(hl:l.length=n)(hc:∀j u,(iZ l)[j]? =μ u->w.cell? ⟨b,off+j,ν⟩=μ u):
 fj fk 201 #[σ (μ ⟨b,off,ν⟩) n cap] w λe w'=>∃(v:eD),e=ρ v/\EL w w' v l:=by
 obtain⟨i0,hi,oz,mW,nT⟩:=aW RS;have hq:=IX;have pN:eN w (w.alloc (γ #[] 5)):=iB _ _;have ji:Row (w.alloc (γ #[] 5)) 1 (σ (μ ⟨w.heap.size,0,ν⟩) 0 0) 0 [] :=Row.made w 1 _ #[] (0,0) 0 0 [] rfl rfl (Nat.le_refl _) eH (.inl rfl) iC;have tN:∀j u,(iZ l)[j]? =μ u->(w.alloc (γ #[] 5)).cell? ((⟨b,off,ν⟩:Addr).add j)=μ u:=λj u hu=>by
  rw[mR];have h1:=hc j u hu;exact(ai (a:=⟨b,off+j,ν⟩) (pN.block b (af _ _ h1))).trans h1
 have agA:(iZ l).length=n*1:=by rw[qj,hl,Nat.mul_one]
 go_in
 go_wp2_with(at_builtin;go_must(refine iX _ rfl (.tmp 5) (.tmp 6) 140 rfl 5 i0 (.int .u8 0) 1 1 aQ hi oz mW nT rfl eH (σ (μ ⟨w.heap.size,0,ν⟩) 0 0) 0 [] rfl ji _ n cap (iZ l) rfl agA sJ tN (OG l) (by unfold maxLen;omega) eE ?_));intro g1 AB w1 kU ki jD;have kt:=lJ pN ki (λj hj=>kG (Nat.le_refl _) hj);have mM:=nE (B:=w.heap.size) jD eE (λj hj=>kG (Nat.le_refl _) hj);clear ki jD
 go_wp2
 go_ret;refine⟨_,rfl,⟨?_,λj hj=>kG mM hj,kt⟩⟩;rw[hl];exact kU
theorem Row.front {w:eB} {a:Option Addr} {cp:Nat} {l:List UInt8} (h:Row w 1 (σ a l.length cp) l.length (iZ l))(k:Nat)(hk:k<=l.length):
 (convert 140 9 (σ a k cp)).run fk w=.ok (.string ⟨(l.take k).toArray⟩) w:=by
 have kH:(l.take k).length=k:=by rw[List.length_take];omega
 have h1:Row w 1 (σ a k cp) k (iZ (l.take k)):=by
  refine⟨by rw[qj,kH,Nat.mul_one],?_⟩;rcases h.2 with⟨e,e0⟩|⟨g,cap,e,hg,h1,h2,h3,h4⟩
  ·obtain⟨rfl,_,rfl⟩:=bH e;exact .inl ⟨by rw[show k=0 by omega],eE⟩
  ·obtain⟨rfl,_,rfl⟩:=bH e;refine .inr ⟨g,cp,rfl,hg,eE,h2,λj u hu=>h3 j u ?_,h4⟩;have hj:j<(iZ (l.take k)).length:=(aH.1 hu).1;rw[qj,kH]at hj;unfold iZ at hu⊢;rw[cF,List.getElem?_take]at hu;rw[ag hj]at hu;rw[cF];exact hu
 exact Row.back h1 140 9 5 aQ bK a8
theorem OH(g o d:Nat)(c:pX)(ov:Nat->eD)(many:Int)(w:eB)(hd:d<2)(hC:pL w g o 7 (AO c ov))(hR:Row w 1 (ov d) (c.on d).length (iZ (c.on d)))(hg:(ov d).ownBlock≠μ g)(hl:(c.on d).length<=2000):
 fj fk 158 #[π (μ ⟨g,o,ν⟩),ι κ (d:Int),ι κ many] w λe w'=>e=ρ (.string ⟨((c.on d).take (min many.toNat (c.on d).length)).toArray⟩)/\∃v',Qd w w' g o d {c with on:=jI c.on d ((c.on d).drop (min many.toNat (c.on d).length))} ov v':=by
 have c5:w.cell? ⟨g,o+5+d,ν⟩=μ (ov d):=by rw[Nat.add_assoc,hC.cell (5+d) eE,Sl c ov d hd]
 have f5:w.frozen? ⟨g,o+5+d,ν⟩=false:=by rw[Nat.add_assoc];exact hC.fz (5+d) eE
 have gl:=hC.lt eH;have lD:(d:Int)<2:=eE;have hd0:(0:Int)<=(d:Int):=eE;have HC:Hid _:=hC;have HG:Hid _:=hg;obtain⟨k,hk⟩:=gH (min many.toNat (c.on d).length);obtain⟨a,cp,hv⟩:=Row.shape hR;have Uf:k<=(c.on d).length:=eE;have Hp:max (0:Int) (min many ((c.on d).length:Nat))=(k:Int):=eE;have Ir:=hR;rw[hv]at Ir c5;have uM:=Row.front Ir k Uf;have Y5:((c.on d).drop k).length=(c.on d).length-k:=dO;rw[hk];have HV:Hid _:=hv;have HR:Hid _:=Ir;obtain⟨l,hle⟩:=gH (c.on d);rw[hle]at Hp uM Uf hl Y5 c5 HR⊢;have HL:Hid _:=hle;obtain⟨n,hn⟩:=gH (l.length);have HN:Hid _:=hn;rw[hn]at Hp Uf hl Y5 c5;clear hC hR hg hv hle Ir hn;have kD:∀(W w1:eB) (v1:eD) (L:List UInt8),eN w W->EL W w1 v1 L->∃a1 Mi,v1=σ a1 L.length Mi/\w1.cell? ⟨g,o+5+d,ν⟩=w.cell? ⟨g,o+5+d,ν⟩/\w1.frozen? ⟨g,o+5+d,ν⟩=false/\g<w1.heap.size:=by
  intro W w1 v1 L hb hf;obtain⟨a1,Mi,e⟩:=Row.shape hf.row;have b2:=iA hb hf.below;exact⟨a1,Mi,e,ai (a:=⟨g,o+5+d,ν⟩) (b2.block g gl),(aN (a:=⟨g,o+5+d,ν⟩) (b2.block g gl)).trans f5,Nat.lt_of_lt_of_le gl b2.size⟩
 have Uk:Hid _:=kD;have Mx:∀(W w1:eB) (v1:eD) (L:List UInt8),L=l.drop k->eN w W->EL W w1 v1 L->Qd w (w1.setCell ⟨g,o+5+d,ν⟩ v1) g o d {c with on:=jI c.on d (l.drop k)} ov v1:=by
  intro W w1 v1 L hL hb hf;have b2:=iA hb hf.below;refine Qd.turn hd HC.out HG.out v1 (jI c.on d (l.drop k)) b2.os b2.tape b2.output b2.size (λx hx _=>b2.block x hx) ?_ (λx hx=>.inr (Nat.le_trans hb.size (hf.own x hx)));rw[iP,<-hL];exact hf.row
 have Xj:Hid _:=Mx;clear kD Mx;rcases HR.out.2 with⟨e,e0⟩|⟨g2,cap2,e,MA,sH,J6,hcell,J7⟩
 ·obtain⟨rfl,_,rfl⟩:=bH e;have RC:n=0:=by have:=HN.out;omega
  subst RC;obtain rfl:k=0:=eE;have tN:=Lg w.drew;have wy:l=[] :=aG HN.out;have hld:([] :List UInt8)=l.drop 0:=by rw[wy];rfl
  have yf:ia 0 l=[] :=rfl;rw[yf]at uM⊢;have HLD:Hid _:=hld;clear e e0 Hp hld hk;by_cases hm:many<=0
  ·go_in
   go_wp2
   go_region_with(first|(go_at_call 201;refine tN.mono ?_;rintro e w1 ⟨v1,rfl,hf⟩;have HF:Hid _:=Xj.out _ _ _ _ HLD.out (jk w) hf;obtain⟨a1,Mi,rfl,y5,z5,y6⟩:=Uk.out _ _ _ _ (jk w) hf;rw[c5]at y5))
   all_goals
    clear tN hf y5 z5
    go_wp2
    go_ret;exact⟨rfl,_,HF.out⟩
  ·have vY:(0:Int)<=many:=eE
   go_in
   go_wp2
   go_region_with(first|(go_at_call 201;refine tN.mono ?_;rintro e w1 ⟨v1,rfl,hf⟩;have HF:Hid _:=Xj.out _ _ _ _ HLD.out (jk w) hf;obtain⟨a1,Mi,rfl,y5,z5,y6⟩:=Uk.out _ _ _ _ (jk w) hf;rw[c5]at y5))
   all_goals
    clear tN hf y5 z5
    go_wp2
    go_ret;exact⟨rfl,_,HF.out⟩
 ·obtain⟨rfl,_,rfl⟩:=bH e;have hkc:(k:Int)<=(cp:Int):=by have:=HN.out;omega
  have alm:(n:Int)<=(cp:Int):=by have:=HN.out;omega
  have Ht:(0:Int)<=(k:Int):=eE;have FN:(k:Int)<=(n:Int):=eE;have tN:fj fk 201 #[σ (if cp=k then μ ⟨g2,0,ν⟩else μ ⟨g2,k,ν⟩) (n-k) (cp-k)] w.drew λe w'=>∃(v:eD),e=ρ v/\EL w.drew w' v (l.drop k):=by
   by_cases hz:k=n
   ·have e1:n-k=0:=eE;have e2:l.drop k=[] :=aX (by have:=HN.out;omega);rw[e1,e2];by_cases rv:cp=k
    ·rw[ag rv];exact Ag _ _ _
    ·rw[ae rv];exact Ag _ _ _
   ·rw[ae eE];refine IY g2 k (n-k) (cp-k) (l.drop k) w.drew eE eE Y5 (λj u hu=> ?_);refine hcell (k+j) u ?_;unfold iZ at hu⊢;rw[cF,dx]at hu;rw[cF];exact hu
  clear e sH J6 hcell J7 hk;by_cases hm:many<=0
  ·obtain rfl:k=0:=eE;have yf:ia 0 l=[] :=rfl;rw[yf]at uM⊢;have e0:(if cp=0 then μ (⟨g2,0,ν⟩:Addr)else μ ⟨g2,0,ν⟩)=μ ⟨g2,0,ν⟩:=by split<;>rfl
   rw[Nat.sub_zero,Nat.sub_zero,e0]at tN;clear Hp hkc Ht FN e0
   go_in
   go_wp2
   go_region_with(first|(go_at_call 201;refine tN.mono ?_;rintro e w1 ⟨v1,rfl,hf⟩;have HF:Hid _:=Xj.out _ _ _ _ rfl (jk w) hf;obtain⟨a1,Mi,rfl,y5,z5,y6⟩:=Uk.out _ _ _ _ (jk w) hf;rw[c5]at y5))
   all_goals
    clear tN hf y5 z5
    go_wp2
    go_ret;exact⟨rfl,_,HF.out⟩
  ·by_cases RC:n=0
   ·subst RC;obtain rfl:k=0:=eE;have yf:ia 0 l=[] :=rfl;rw[yf]at uM⊢;have e0:(if cp=0 then μ (⟨g2,0,ν⟩:Addr)else μ ⟨g2,0,ν⟩)=μ ⟨g2,0,ν⟩:=by split<;>rfl
    rw[Nat.sub_zero,Nat.sub_zero,e0]at tN;have vY:(0:Int)<=many:=eE;clear Hp hkc Ht FN e0
    go_in
    go_wp2
    go_region_with(first|(go_at_call 201;refine tN.mono ?_;rintro e w1 ⟨v1,rfl,hf⟩;have HF:Hid _:=Xj.out _ _ _ _ rfl (jk w) hf;obtain⟨a1,Mi,rfl,y5,z5,y6⟩:=Uk.out _ _ _ _ (jk w) hf;rw[c5]at y5))
    all_goals
     clear tN hf y5 z5
     go_wp2
     go_ret;exact⟨rfl,_,HF.out⟩
   by_cases rv:cp=k
   ·have wa:k=n:=eE;subst wa;rw[ag rv,Nat.sub_self]at tN;subst rv;rw[Nat.sub_self]at tN;have XZ:¬(cp:Int)<=0:=eE;by_cases hmn:many<=(cp:Int)
    ·obtain rfl:many=(cp:Int):=eE;clear Hp
     go_in
     go_wp2
     go_region_with(first|(go_at_call 201;refine tN.mono ?_;rintro e w1 ⟨v1,rfl,hf⟩;have HF:Hid _:=Xj.out _ _ _ _ rfl (jk w) hf;obtain⟨a1,Mi,rfl,y5,z5,y6⟩:=Uk.out _ _ _ _ (jk w) hf;rw[c5]at y5))
     all_goals
      clear tN hf y5 z5
      go_wp2
      go_ret;have h9:=HF.out
     simp only[Y5,Nat.sub_self]at h9;exact⟨rfl,_,h9⟩
    ·clear Hp
     go_in
     go_wp2
     go_region_with(first|(go_at_call 201;refine tN.mono ?_;rintro e w1 ⟨v1,rfl,hf⟩;have HF:Hid _:=Xj.out _ _ _ _ rfl (jk w) hf;obtain⟨a1,Mi,rfl,y5,z5,y6⟩:=Uk.out _ _ _ _ (jk w) hf;rw[c5]at y5))
     all_goals
      clear tN hf y5 z5
      go_wp2
      go_ret;have h9:=HF.out
     simp only[Y5,Nat.sub_self]at h9;exact⟨rfl,_,h9⟩
   ·rw[ae rv]at tN;have XZ:¬(n:Int)<=0:=eE;by_cases hmn:many<=(n:Int)
    ·obtain rfl:many=(k:Int):=eE;clear Hp
     go_in
     go_wp2
     go_region_with(first|(go_at_call 201;refine tN.mono ?_;rintro e w1 ⟨v1,rfl,hf⟩;have HF:Hid _:=Xj.out _ _ _ _ rfl (jk w) hf;obtain⟨a1,Mi,rfl,y5,z5,y6⟩:=Uk.out _ _ _ _ (jk w) hf;rw[c5]at y5))
     all_goals
      clear tN hf y5 z5
      go_wp2
      go_ret;have h9:=HF.out
     simp only[Y5]at h9;exact⟨rfl,_,h9⟩
    ·obtain rfl:k=n:=eE;rw[Nat.sub_self]at tN;clear Hp
     go_in
     go_wp2
     go_region_with(first|(go_at_call 201;refine tN.mono ?_;rintro e w1 ⟨v1,rfl,hf⟩;have HF:Hid _:=Xj.out _ _ _ _ rfl (jk w) hf;obtain⟨a1,Mi,rfl,y5,z5,y6⟩:=Uk.out _ _ _ _ (jk w) hf;rw[c5]at y5))
     all_goals
      clear tN hf y5 z5
      go_wp2
      go_ret;have h9:=HF.out
     simp only[Y5,Nat.sub_self]at h9;exact⟨rfl,_,h9⟩
end Rt
end Go.Proofs.YtieklnlbljejdaaGreatDoor
