import Derived.Test.YtieklnlbljejdaaGreatDoorQ09
open Go.Value renaming int → ι, slice → σ, pointer → π, tuple → τ, nilIface → η
open Go.IntKind renaming i64 → κ
open Go.Ending renaming returned → ρ
open Go.Obj renaming cells → γ
open Option renaming none → ν, some → μ
open Go.Value renaming ownBlock → dV, slice → fX
open Go renaming World → dR, Calls → eT, Value → dT
open Go.Proofs.Tryz renaming prog → eU
open Go.Act renaming put → gj
open List renaming setIfInBounds_toArray → gk, set_cons_zero → gp, set_cons_succ → gq
open Go.Region renaming wanted → eG
open Go.World renaming frozen? → gu
open Go.IntKind renaming i64 → fh
set_option maxRecDepth 100000
set_option maxHeartbeats 8000000
namespace Go.Proofs.YtieklnlbljejdaaGreatDoor
open Go.RowKit St
namespace Rt
variable {a b w w' x:World} {c d g i k m o:Nat} {l:Lab} {n n':iI} {ov:Nat->Value} {v:Value} {y:Yt}
theorem A8:∀(l:List (Int×PS)) (p:jl) (q:Int×PS),p.kh (l++ [q])=(p.kh l).put 83 (qC q.1 q.2.1 q.2.2)
 |[],_,_=>rfl
 |x::l,p,q=>by
  show(p.put 83 (qC x.1 x.2.1 x.2.2)).kh (l++ [q])=((p.put 83 (qC x.1 x.2.1 x.2.2)).kh l).put _ _;exact A8 l _ q
theorem xW:∀(l:List (Int×PS)) (p:jl),(p.kh l).out.length<=p.out.length+126*l.length
 |[],p=>by simp[jl.kh]
 |x::l,p=>by
  have h1:=xW l (p.put 83 (qC x.1 x.2.1 x.2.2));have h2:=wD p 83 (qC x.1 x.2.1 x.2.2);have e:p.kh (x::l)=(p.put 83 (qC x.1 x.2.1 x.2.2)).kh l:=rfl;rw[e,cH];omega
theorem qT(p:jl)(c:UInt8)(s:List UInt8):(p.put c s).pe=p.pe:=by
 unfold jl.put;split
 ·rfl
 ·split<;>rfl
theorem Ad(r:iE)(i:Nat)(p q:jl):(r.iK i p).iK i q=r.iK i q:=by
 have:kR (kR r.P i p) i q=kR r.P i q:=by
  funext x
  unfold kR;by_cases e:x=i
  ·simp[e]
  ·simp[e]
 show({r with P:=kR (kR r.P i p) i q}:iE)={r with P:=kR r.P i q}
 rw[this]
def lZ(r:iE)(i:Nat):iE:=
 let p:=(r.P i).put 72 [jO r.id,jO (r.P i).pe.who]
 r.iK i (if(r.P i).pe.both=true then p.kh (kO (r.O i))else p)
theorem iU.went {z:Zt} {r r0:iE} {n:Nat} (h:iw w w' z r n)(V:lJ w z r0) {a:Option Addr} {cap:Nat} {es:List jG} (Y:iU w a m es)(U:∀j,dV (σ a m cap)=μ j->¬z.mine n j):iU w' a m es:=by
 refine⟨Y.1,?_⟩;rcases Y.2 with Z|⟨b,off,rfl,Z⟩
 ·exact .inl Z
 ·exact .inr ⟨b,off,rfl,λj X=>⟨h.cell V (p:=⟨b,_,ν⟩) (U b rfl) (Z j X).1,h.cell V (p:=⟨b,_,ν⟩) (U b rfl) (Z j X).2⟩⟩
theorem qQ.went {w w':dR} {z:Zt} {r r0:iE} {n:Nat} (h:iw w w' z r n)(Y:lJ w z r0) {a:Option Addr} {m cap:Nat} {S:Nat->SV} {E:Nat->List jG} (hs:qQ w a m S E)(X:∀j,dV (σ a m cap)=μ j->¬z.mine n j)(U:∀i,i<m->∀j,dV (σ (S i).a (S i).n (S i).cap)=μ j->¬z.mine n j):qQ w' a m S E:=by
 refine⟨?_,λj Z=>⟨iU.went h Y (hs.opt j Z).1 (U j Z),(hs.opt j Z).2⟩⟩;rcases hs.row with V|⟨b,off,rfl,V⟩
 ·exact .inl V
 ·refine .inr ⟨b,off,rfl,λj Z=> ?_⟩;obtain⟨c1,c2,c3⟩:=V j Z;exact⟨h.cell Y (p:=⟨b,_,ν⟩) (X b rfl) c1,h.cell Y (p:=⟨b,_,ν⟩) (X b rfl) c2,h.cell Y (p:=⟨b,_,ν⟩) (X b rfl) c3⟩
theorem TE(z:Zt)(r:iE)(i:Nat)(w:dR)(h:lJ w z r)(iF:kU r)(hi:i<r.n)(uO:(r.P i).out.length<=700000000):
 eT eU 85 #[π (μ ⟨z.R,0,ν⟩),ι κ (i:Int)] w λe w'=>e=ρ (τ #[])/\iw w w' z (lZ r i) r.n:=by
 have kB:(i:Int)<(r.n:Int):=dU;have KU:(0:Int)<=(i:Int):=dU;obtain⟨p,G⟩:=fW (r.P i);rw[G]at uO;have wT:Hid (∀W,eh w W->W.cell? ⟨z.R,0,ν⟩=μ (.int .i64 r.id)/\W.cell? ⟨z.g,i*71+67,ν⟩=μ (.int .i64 p.pe.who)/\W.cell? ⟨z.g,i*71+67+1,ν⟩=μ (.bool p.pe.both)/\W.cell? ⟨z.g,i*71+67+2,ν⟩=μ (.int .i64 p.pe.left)):=by
  intro W X;have R:=h.below X;rw[<-G];exact⟨R.c0,(R.pt i hi).c67,(R.pt i hi).Wo,(R.pt i hi).c69⟩
 have oE:=iF.pe i hi;rw[G]at oE;have TF:∀W,eh w W->eT eU 149 #[.agg #[.int .i64 p.pe.who,.bool p.pe.both,.int .i64 p.pe.left],.int .i64 r.id] W λe w'=>e=ρ (.agg #[.int .i64 r.id,.int .i64 p.pe.who])/\eh w w'/\(w'.cell? ⟨z.R,0,ν⟩=μ (.int .i64 r.id)/\w'.cell? ⟨z.g,i*71+67,ν⟩=μ (.int .i64 p.pe.who)/\w'.cell? ⟨z.g,i*71+67+1,ν⟩=μ (.bool p.pe.both)/\w'.cell? ⟨z.g,i*71+67+2,ν⟩=μ (.int .i64 p.pe.left)):=by
  intro W X;refine(SJ p.pe.who p.pe.left r.id p.pe.both W).mono ?_;rintro e w1 ⟨rfl,b1⟩;exact⟨rfl,fY X b1,wT.out _ (fY X b1)⟩
 have D:∀W,eh w W->eT eU 148 #[.agg #[.int .i64 r.id,.int .i64 p.pe.who]] W λe w'=>e=ρ (τ #[.string ⟨#[u8 r.id,u8 p.pe.who]⟩,η])/\eh w w'/\(w'.cell? ⟨z.R,0,ν⟩=μ (.int .i64 r.id)/\w'.cell? ⟨z.g,i*71+67,ν⟩=μ (.int .i64 p.pe.who)/\w'.cell? ⟨z.g,i*71+67+1,ν⟩=μ (.bool p.pe.both)/\w'.cell? ⟨z.g,i*71+67+2,ν⟩=μ (.int .i64 p.pe.left)):=by
  intro W X;have h1:=iF.id;have h2:=oE.who;refine(Jq r.id p.pe.who W h1.1 h1.2 h2.1 h2.2 (by simp[tF];omega)).mono ?_;rintro e w1 ⟨rfl,b1⟩;exact⟨rfl,fY X b1,wT.out _ (fY X b1)⟩
 obtain⟨Z,BN⟩:=fW (p.put 72 [jO r.id,jO p.pe.who]);have Cn:Z.out.length<=700000126:=by
  rw[<-BN];have:=wD p 72 [jO r.id,jO p.pe.who];omega
 have Jn:Z.pe=p.pe:=by rw[<-BN];exact qT _ _ _
 obtain⟨r1,M⟩:=fW (r.iK i Z);have U:r1.n=r.n:=by rw[<-M];rfl
 have XR:r1.P i=Z:=by rw[<-M];exact jk _ _ _
 have hO1:r1.O=r.O:=by rw[<-M];rfl
 have nP:Hid (∀W,eh w W->eT eU 150 #[π (μ ⟨z.g,i*71,ν⟩),.string ⟨#[72]⟩,.string ⟨#[u8 r.id,u8 p.pe.who]⟩] W λe w'=>e=ρ (τ #[])/\iw w w' z r1 r.n):=by
  intro W X;have R:=h.below X;have A6:=R.pt i hi;rw[G]at A6;refine(Cm z.g (i*71) (z.B i) (z.v i) p ⟨#[72]⟩ ⟨#[u8 r.id,u8 p.pe.who]⟩ 72 W A6 rfl (by show 2<=1000;omega) dU).mono ?_;rintro e w1 ⟨rfl,Q⟩;have uV:ll W w1 z.g (i*71) (z.B i) (z.v i) Z:=by rw[<-BN];exact Q
  rw[<-M];exact⟨rfl,iw.first h rfl X (λ_=>R.port hi uV)⟩
 have hE:lZ r i=r.iK i (if p.pe.both=true then Z.kh (kO (r.O i))else Z):=by
  unfold lZ;rw[G];simp only[BN]
 have TG:Hid (p.pe.both=false->lZ r i=r1):=by
  intro e;rw[hE,ae (by simp[e]),M]
 have Yk:Hid (p.pe.both=true->lZ r i=r1.iK i (Z.kh (kO (r.O i)))):=by
  intro e;rw[hE,ag e,<-M];exact(Ad r i Z _).symm
 have b0:=iP w;have R0:=h.below b0;have c1:=h.c1;have cl:=h.lt;have gl0:=h.FQ;have F0:w.drew.cell? ⟨z.R,0,ν⟩=μ (.int .i64 r.id)/\w.drew.cell? ⟨z.g,i*71+67,ν⟩=μ (.int .i64 p.pe.who)/\w.drew.cell? ⟨z.g,i*71+67+1,ν⟩=μ (.bool p.pe.both)/\w.drew.cell? ⟨z.g,i*71+67+2,ν⟩=μ (.int .i64 p.pe.left):=wT.out _ b0;have HR:Hid _:=h;clear h iF oE R0 hE G
 go_in
 go_wp2
 go_region_held3(λx=>x.cell? ⟨z.R,0,ν⟩=μ (.int .i64 r.id)/\x.cell? ⟨z.g,i*71+67,ν⟩=μ (.int .i64 p.pe.who)/\x.cell? ⟨z.g,i*71+67+1,ν⟩=μ (.bool p.pe.both)/\x.cell? ⟨z.g,i*71+67+2,ν⟩=μ (.int .i64 p.pe.left))
  (first|assumption|exact F0|exact F1|exact F2)
  (first
   |(go_at_call 149;refine(TF _ b0).mono ?_;rintro e w1 ⟨rfl,b1,F1⟩)
   |(go_at_call 148;refine(D _ b1).mono ?_;rintro e w2 ⟨rfl,b2,F2⟩))
 all_goals
  have A6:=nP.out _ b2;clear TF D nP wT F0 F1 F2 c1 cl gl0;go_wp2_with(fail);refine A6.mono ?_;rintro e W4 ⟨rfl,T⟩;obtain⟨v4,hv4⟩:=T.pt (i:=i) (by rw[U];exact hi);have g8:W4.cell? ⟨z.g,i*71+67+1,ν⟩=μ (.bool p.pe.both):=by
   have:=hv4.Wo;rw[XR,Jn]at this;exact this
  have gl:=T.FQ;have k2:=T.c2;have kl:=T.lt;clear A6 hv4 b1 b2;cases hb:p.pe.both with
  |false=>
   rw[hb]at g8;have HW:Hid (iw w W4 z (lZ r i) r.n):=by show iw _ _ _ _ _;rw[TG.out hb];exact T
   clear T TG Yk
   go_wp2
   first|go_end0|refine iC rfl rfl ?_
   exact⟨rfl,HW.out⟩
  |true=>
   rw[hb]at g8;have HE:=Yk.out hb;obtain⟨z4,A,V,F9,u⟩:=T.ex;have how:=TD z4.Bb z4.fm 6 r1.K r1.O i W4 A.bs (by rw[A.bl,U];exact hi);rw[V.Bb]at how;have HF:Hid (∀W,iw W4 W z4 (lZ r i) r.n->iw w W z (lZ r i) r.n):=λW Q=>T.qf A V F9 u Q;have ZJ:Hid _:=A;have HEq:Hid _:=HE;clear T HE TG Yk A F9 u;go_wp2_with(fail);refine how.mono ?_;rintro e H ⟨a,m,cap,S,E,rfl,hS,hL,h6,iZ,Ym,b5⟩;have V5:=Pz hL;rw[hO1]at V5;have R5:=ZJ.out.below b5;have xA:∀j,dV (σ a m cap)=μ j->¬z4.mine r.n j:=λj hj=>by
    have:=ZJ.out.tK (Nat.le_of_lt (iZ j hj))
    rwa [U]at this
   have BL:∀x,x<m->∀j,dV (σ (S x).a (S x).n (S x).cap)=μ j->¬z4.mine r.n j:=λx hx j hj=>by
    have:=ZJ.out.tK (Nat.le_of_lt (Ym x hx j hj))
    rwa [U]at this
   have X3:Hid (∀wr rr,iw H wr z4 rr r.n->qQ wr a m S E):=λwr rr Q=>qQ.went (cap:=cap) Q R5 hS xA BL;have ahR:Hid (∀x,x<m->oD (S x).own (S x).seq (E x)=0):=hL.ok;have ahS:Hid (∀k,k<m->(kO (r.O i)).take (k+1)=(kO (r.O i)).take k++ [((S k).own,((S k).seq,E k))]):=by
    intro k hk;have hlen:k<(kO (r.O i)).length:=by rw[V5];simpa using hk
    rw[ay hlen];congr 2;simp[V5]
   have ahT:Hid ((kO (r.O i)).length=m):=by show _=_;rw[V5];simp
   have HF5:Hid (∀W,iw H W z4 (lZ r i) r.n->iw w W z (lZ r i) r.n):=λW Q=>HF.out W (iw.first ZJ.out U b5 (λ_=>Q));have H0:Hid (iw H H z4 (r1.iK i (Z.kh ((kO (r.O i)).take 0))) r.n):=by
    show iw _ _ _ _ _;have e:r1.iK i (Z.kh ((kO (r.O i)).take 0))=r1:=by
     show r1.iK i Z=r1;rw[<-M,Ad]
    rw[e,<-U];exact iw.refl R5
   have hG4:z4.g=z.g:=V.g;have HG4:Hid _:=hG4;clear how hS hL iZ Ym V5 R5 xA BL HF hG4 b5 ZJ V k2 kl g8 gl
   go_wp2
   go_loopw [46] (λx wr=>∃k:Nat,k<=m/\x=ι κ k/\iw H wr z4 (r1.iK i (Z.kh ((kO (r.O i)).take k))) r.n) (λx _=>m-(intOf x).toNat)
   case atStart=>exact⟨0,Nat.zero_le _,rfl,H0.out⟩
   case round=>
    obtain⟨k,hk,rfl,Y⟩:=hrel;by_cases ka:k<m
    ·have m8:(k:Int)<(m:Int):=dU;have Jh:(0:Int)<=(k:Int):=dU;have SR:=X3.out _ _ Y;rcases SR.row with h0|⟨b,off,rfl,iQ⟩
     ·omega
     obtain⟨x0,x1,x2⟩:=iQ k ka;have hop:=(SR.opt k ka).1;have jY:=ahR.out k ka;have Wq:=ahS.out k ka;have xl:=af _ _ x0;have ba:=gN wr (γ #[ι κ (S k).own,ι κ (S k).seq,σ (S k).a (S k).n (S k).cap] 40);have J:=Y.below (by show r1.n=r.n;exact U) ba;obtain⟨pk,Pn⟩:=fW (Z.kh ((kO (r.O i)).take k));have oQ:pk.out.length<=800000000:=by
      rw[<-Pn];have h1:=xW ((kO (r.O i)).take k) Z;have h2:((kO (r.O i)).take k).length<=k:=b9 _ _;omega
     have tW:eT eU 152 #[π (μ ⟨z.g,i*71,ν⟩),.string ⟨#[83]⟩,.agg #[ι κ (S k).own,ι κ (S k).seq,σ (S k).a (S k).n (S k).cap]] (wr.alloc (γ #[ι κ (S k).own,ι κ (S k).seq,σ (S k).a (S k).n (S k).cap] 40)) λe w'=>e=ρ (τ #[])/\iw H w' z4 (r1.iK i (Z.kh ((kO (r.O i)).take (k+1)))) r.n:=by
      rw[Wq,A8];rw[Pn]at J⊢;refine J.call λz1 R1 hl=> ?_;have uG:i<(r1.iK i pk).n:=by show i<r1.n;rw[U];exact hi
      have adn:=R1.pt i uG;have hPk:(r1.iK i pk).P i=pk:=jk _ _ _;rw[hPk]at adn;rw[<-HG4.out,<-hl.g];refine(xf ⟨#[83]⟩ 83 (S k).own (S k).seq (S k).a (S k).n (S k).cap (E k) z1.g (i*71) (z1.B i) (z1.v i) pk _ adn rfl (hop.below ba) jY oQ).mono ?_;rintro e w6 ⟨rfl,K3⟩;have h7:=R1.port uG K3;rw[Ad]at h7;exact⟨rfl,by rw[show r.n=(r1.iK i pk).n from U.symm];exact h7⟩
     clear SR iQ hop jY Wq J Y Pn oQ ba;go_wp2_with(fail);refine tW.mono ?_;rintro e w6 ⟨rfl,K3⟩;have HW6:Hid _:=K3;clear tW K3
     go_wp2
     go_roundw
     case rel=>exact⟨k+1,dU,by go_num,HW6.out⟩
     case measure=>simp[intOf];omega
    ·have yt:¬(k:Int)<(m:Int):=dU;have HW:Hid (iw w wr z (lZ r i) r.n):=by
      show iw _ _ _ _ _;refine HF5.out _ ?_;rw[HEq.out];have e1:(kO (r.O i)).take k=kO (r.O i):=aG (by have:=ahT.out;omega);rw[e1]at Y;exact Y
     clear Y
     go_wp2
     first|go_end0|refine iC rfl rfl ?_
     exact⟨rfl,HW.out⟩
theorem PA(z:Zt)(r:iE)(i:Nat)(own seq:Int)(a:Option Addr)(n cap:Nat)(es:List jG)(w:dR)(h:lJ w z r)(hi:i<r.n)(Y:iU w a n es)(V:kt a cap)(hf:oD own seq es=0):
 eT eU 190 #[π (μ ⟨z.Bb,0,ν⟩),ι κ (i:Int),.agg #[ι κ own,ι κ seq,σ a n cap]] w λe w'=>e=ρ (τ #[ι κ (newF r.K own seq es),η])/\iw w w' z {r with K:=kY r.K own seq es,O:=oq r.K r.O i own seq es} r.n/\iU w' a n es/\∀p v,w.cell? p=μ v->w'.cell? p=μ v:=by
 refine(Pg z.Bb z.fm 6 r.K r.O i own seq a n cap es w h.bs (rD (by have:=(jw hf).1;omega)) (by rw[h.bl];exact hi) Y V dU hf (λ_=>CP _ _ _ _)).mono ?_;rintro e w1 ⟨rfl,X,Z⟩;exact⟨rfl,h.base X Z,Y.two Z h.bs,λp v hc=>jr.cell Z h.bs hc⟩
def jd(r:iE)(i:Nat)(l:List UInt8):iE:=
 let q:=St.il l
 if q.2.2.2≠0 \/(r.P i).pe.both=false then r
 else if q.1=r.id/\0<newF r.K q.1 q.2.1 q.2.2.1 then r.behind q.2.1
 else
  let r2:iE:={r with K:=kY r.K q.1 q.2.1 q.2.2.1,O:=oq r.K r.O i q.1 q.2.1 q.2.2.1}
  if 0<=newF r.K q.1 q.2.1 q.2.2.1 then r2.iK i ((r2.P i).put 65 (qC q.1 q.2.1 q.2.2.1))else r2
def S3(x:dR)(Z:Nat)(own seq:Int)(v:dT):Prop:=x.cell? ⟨Z,0,ν⟩=μ (ι κ own)/\x.cell? ⟨Z,1,ν⟩=μ (ι κ seq)/\x.cell? ⟨Z,2,ν⟩=μ v
theorem S3.below {y:dR} {Z:Nat} {own seq:Int} (h:S3 x Z own seq v)(hb:eh x y):S3 y Z own seq v:=by
 have Y:=af _ _ h.1;exact⟨(ai (a:=⟨Z,0,ν⟩) (hb.block Z Y)).trans h.1,(ai (a:=⟨Z,1,ν⟩) (hb.block Z Y)).trans h.2.1,(ai (a:=⟨Z,2,ν⟩) (hb.block Z Y)).trans h.2.2⟩
theorem E3(s:ByteArray)(z:Zt)(r:iE)(i:Nat)(w:dR)(h:lJ w z r)(iF:kU r)(hi:i<r.n)(hs:s.size<=1000)(uO:(r.P i).out.length<=800000000):
 eT eU 135 #[π (μ ⟨z.R,0,ν⟩),ι κ (i:Int),.string s] w λe w'=>e=ρ (τ #[])/\iw w w' z (jd r i s.data.toList) r.n:=by
 have hp:=DC s w (by unfold maxLen;omega);have kB:(i:Int)<(r.n:Int):=dU;have KU:(0:Int)<=(i:Int):=dU;have HR:Hid _:=h;have TB:Hid _:=iF;clear h iF
 go_in
 go_wp2_with(fail);refine hp.mono ?_;rintro e w1 ⟨a,n,cap,f,own,seq,os,rfl,ho,hle,hR,b1,j5⟩;clear hp;have ba:=gN w1 (γ #[ι κ own,ι κ seq,σ a n cap] 40);have hA:=λj=>aj w1 #[ι κ own,ι κ seq,σ a n cap] 40 (0,0) j;by_cases hf:f=0
 ·subst hf;have e0:jb 0=η:=rfl;rw[e0];cases hb:(r.P i).pe.both with
  |false=>
   have hE:jd r i s.data.toList=r:=by
    unfold jd;rw[hR];simp only;rw[ag (.inr hb)]
   have M:=HR.out.below (fY b1 ba);have HW:Hid (iw w (w1.alloc (γ #[ι κ own,ι κ seq,σ a n cap] 40)) z (jd r i s.data.toList) r.n):=by
    show iw _ _ _ _ _;rw[hE];exact iw.still HR.out (fY b1 ba)
   have c1:=M.c1;have cl:=M.lt;have gl:=M.FQ;have g1:=(M.pt i hi).Wo;rw[hb]at g1;clear hR ho hE M hA ba
   go_wp2
   first|go_end0|refine iC rfl rfl ?_
   exact⟨rfl,HW.out⟩
  |true=>
   have jY:=pv hR;have b2:=fY b1 ba;obtain⟨U,nC⟩:=fW (w1.alloc (γ #[ι κ own,ι κ seq,σ a n cap] 40));obtain⟨Z,hZ⟩:=fW (w1.heap.size);have Tg:=ho.below ba;rw[nC]at b2 Tg;have S2:S3 U Z own seq (σ a n cap):=by rw[<-nC,<-hZ];exact⟨hA 0,hA 1,hA 2⟩
   have hZw:w.heap.size<=Z:=by rw[<-hZ];exact b1.size
   have M:=HR.out.below b2;have c1:=M.c1;have cl:=M.lt;have gl:=M.FQ;have g1:=(M.pt i hi).Wo;rw[hb]at g1;have JO:=rD (k:=r.id) (by have:=TB.out.id;omega);have Mq:∀W,eh U W->eT eU 177 #[π (μ ⟨z.Bb,0,ν⟩),ι κ r.id] W λe w'=>∃b V,e=ρ (τ #[.agg #[ι κ (xd r.K r.id),ι κ (pR r.K r.id),σ b (mA r.K r.id).length V],.bool (r.K r.id).isSome])/\iU w' b (mA r.K r.id).length (mA r.K r.id)/\eh W w'/\(w'.cell? ⟨z.R,0,ν⟩=μ (ι κ r.id)/\w'.cell? ⟨z.R,2,ν⟩=μ (π (μ ⟨z.Bb,0,ν⟩))):=by
    intro W G;refine(JI z.Bb z.fm 6 r.K r.O r.id W (M.below G).bs JO).mono ?_;rintro e w3 ⟨b,V,rfl,TH,_,_,b3⟩;have R3:=(M.below G).below b3;exact⟨b,V,rfl,TH,b3,R3.c0,R3.c2⟩
   have Tt:Hid (∀e∈mA r.K r.id,1<=e.1):=by
    obtain⟨q,hq,jY⟩:=TB.out.own;have:=rJ r.id q.2 0 (jw jY).2.2.2;unfold mA;rw[hq];exact λe he=>(this e he).1.1
   have Y9:n<=6:=by have:=(jw jY).2.2.1;rw[ho.1]at this;exact this
   have rZ:Hid (∀W b V,iU W a n os->iU W b (mA r.K r.id).length (mA r.K r.id)->eT eU 189 #[.agg #[ι κ own,ι κ seq,σ a n cap],.agg #[ι κ (xd r.K r.id),ι κ (pR r.K r.id),σ b (mA r.K r.id).length V]] W λe w'=>e=ρ (ι κ (lr seq os (pR r.K r.id) (mA r.K r.id)))/\eh W w'):=λW b V h1 h2=>Fu own seq _ _ a b n _ cap V os _ W h1 h2 dU;have Z9:Hid (own=r.id->newF r.K own seq os=lr seq os (pR r.K r.id) (mA r.K r.id)):=by
    intro e;obtain⟨q,hq,_⟩:=TB.out.own;unfold newF pR mA;rw[e,hq];rfl
   have hsq:(1<=own/\own<=6)/\(1<=seq/\seq<=1000000):=⟨(jw jY).1,(jw jY).2.1⟩
   have Hr:Hid (own=r.id->0<newF r.K own seq os->∀W,eh U W->eT eU 180 #[π (μ ⟨z.R,0,ν⟩),ι κ seq] W λe w'=>e=ρ (τ #[])/\iw w w' z (jd r i s.data.toList) r.n):=by
    intro e1 e2 W G;have hE:jd r i s.data.toList=r.behind seq:=by
     unfold jd;rw[hR];simp only;rw[ae (by simp[hb]),ag ⟨e1,e2⟩]
    refine(DF z r seq W (M.below G) TB.out dU).mono ?_;rintro e w5 ⟨rfl,KZ⟩;exact⟨rfl,by rw[hE];exact iw.first HR.out rfl (fY b2 G) (λ_=>KZ)⟩
   obtain⟨J,tE⟩:∃J:iE,({r with K:=kY r.K own seq os,O:=oq r.K r.O i own seq os}:iE)=J:=⟨_,rfl⟩
   obtain⟨u,hnf⟩:=fW (newF r.K own seq os);have yo:Hid (∀W,eh U W->iU W a n os->eT eU 190 #[π (μ ⟨z.Bb,0,ν⟩),ι κ (i:Int),.agg #[ι κ own,ι κ seq,σ a n cap]] W λe w'=>e=ρ (τ #[ι κ u,η])/\iw w w' z J r.n/\iU w' a n os/\∀p v,W.cell? p=μ v->w'.cell? p=μ v):=by
    intro W G hoW;refine(PA z r i own seq a n cap os W (M.below G) hi hoW j5 jY).mono ?_;rintro e w5 ⟨rfl,KZ,Vk,hc5⟩;rw[tE]at KZ;rw[hnf];exact⟨rfl,iw.first HR.out rfl (fY b2 G) (λ_=>KZ),Vk,hc5⟩
   have hP3:J.P=r.P:=by rw[<-tE]
   have xh:J.n=r.n:=by rw[<-tE]
   have nP:Hid (¬(own=r.id/\0<u)->0<=u->∀W,iw w W z J r.n->iU W a n os->eT eU 152 #[π (μ ⟨z.g,i*71,ν⟩),.string ⟨#[65]⟩,.agg #[ι κ own,ι κ seq,σ a n cap]] W λe w'=>e=ρ (τ #[])/\iw w w' z (jd r i s.data.toList) r.n):=by
    intro e1 e2 W G hoW;have hE:jd r i s.data.toList=J.iK i ((J.P i).put 65 (qC own seq os)):=by
     unfold jd;rw[hR];simp only;rw[ae (by simp[hb]),hnf,ae e1,ag e2,tE,hP3]
    rw[hE];refine G.call (r':=J.iK i ((J.P i).put 65 (qC own seq os))) λz1 R1 hl=> ?_;rw[<-hl.g];have hi3:i<J.n:=by rw[xh];exact hi
    refine(xf ⟨#[65]⟩ 65 own seq a n cap os z1.g (i*71) (z1.B i) (z1.v i) (J.P i) W (R1.pt i hi3) rfl hoW jY (by rw[hP3];exact uO)).mono ?_;rintro e X ⟨rfl,K3⟩;have:=R1.port hi3 K3;rw[xh]at this;exact⟨rfl,this⟩
   have sW:Hid (¬(own=r.id/\0<u)->¬0<=u->∀W,iw w W z J r.n->iw w W z (jd r i s.data.toList) r.n):=by
    intro e1 e2 W G;have hE:jd r i s.data.toList=J:=by
     unfold jd;rw[hR];simp only;rw[ae (by simp[hb]),hnf,ae e1,ae e2,tE]
    rw[hE];exact G
   rw[hnf]at Hr Z9;obtain⟨T,hT⟩:∃T:dR->Prop,(λx=>iw w x z (jd r i s.data.toList) r.n)=T:=⟨_,rfl⟩
   have JU:∀x,iw w x z (jd r i s.data.toList) r.n=T x:=λx=>bY hT x;simp only[JU]at Hr nP sW;have HT:Hid _:=JU;obtain⟨T3,hT3⟩:∃T:dR->Prop,(λx=>iw w x z J r.n)=T:=⟨_,rfl⟩
   have WC:∀x,iw w x z J r.n=T3 x:=λx=>bY hT3 x;have HR3:Hid (∀x,T3 x->x.cell? ⟨z.R,1,ν⟩=μ (σ (μ ⟨z.g,0,ν⟩) r.n z.cap)):=λx hx=>by
    rw[<-WC]at hx;have:=hx.c1;rw[xh]at this;exact this
   simp only[WC]at yo nP sW;have adq:Hid (∀x,T3 x->T3 x.drew):=λx hx=>by
    rw[<-WC]at hx⊢;exact hx.below xh (iP x)
   have HR0:Hid (∀W,eh U W->W.cell? ⟨z.R,0,ν⟩=μ (ι κ r.id)/\W.cell? ⟨z.R,2,ν⟩=μ (π (μ ⟨z.Bb,0,ν⟩))):=λW G=>⟨(M.below G).c0,(M.below G).c2⟩
   clear hT JU hT3 WC M hR JO HR TB b1 ba hA ho uO hP3 xh tE hnf jY;go_wp2_with(fail)
   try rw[nC]
   try rw[hZ]
   clear nC hZ;generalize xd r.K r.id=ow at Mq rZ;generalize pR r.K r.id=sq at Mq rZ Z9;generalize mA r.K r.id=es at Mq rZ Z9 Tt;generalize (r.K r.id).isSome=okb at Mq
   go_cut [8] (λv wx=>∃(Y:Nat) (b:Option Addr) (V:Nat),v=π (μ ⟨Y,0,ν⟩)/\S3 wx Y ow sq (σ b es.length V)/\iU wx b es.length es/\eh U wx)
   case first=>
    have F0:=HR0.out _ (iP U);have F0:U.drew.cell? ⟨z.R,0,ν⟩=μ (ι κ r.id)/\U.drew.cell? ⟨z.R,2,ν⟩=μ (π (μ ⟨z.Bb,0,ν⟩)):=F0;have ba:eh U (U.alloc (γ #[ι κ 0,ι κ 0,σ ν 0 0] 40)).drew:=jt (gN U _);have xh:jc (U.alloc (γ #[ι κ 0,ι κ 0,σ ν 0 0] 40)).drew U.heap.size #[ι κ 0,ι κ 0,σ ν 0 0] 40:=(jc.new U _ _).drew;have jm:z.R≠U.heap.size:=dU;clear rZ Z9 Hr yo nP sW HR3 c1 g1 gl S2 Tg
    go_region_held3(λx=>x.cell? ⟨z.R,0,ν⟩=μ (ι κ r.id)/\x.cell? ⟨z.R,2,ν⟩=μ (π (μ ⟨z.Bb,0,ν⟩)))
     (first|assumption|exact F0|exact F1|exact nT F1|exact nT F0|exact uv F1 jm jm)
     (first
      |(go_at_call 177;refine(Mq _ (by first|exact iP U|exact ba)).mono ?_;rintro e w3 ⟨b,V,rfl,TH,b3,F1⟩;first|(have l9:=xh.below b3;have y0:=l9.cell 0;have y1:=l9.cell 1;have y2:=l9.cell 2;have z0:=l9.frozen 0;have z1:=l9.frozen 1;have z2:=l9.frozen 2)|skip))
    all_goals
     go_wp2_with(fail)
     go_meet
     first
      |exact⟨_,b,V,rfl,⟨aj w3 _ _ (0,0) 0,aj w3 _ _ (0,0) 1,aj w3 _ _ (0,0) 2⟩,TH.below (gN _ _),fY (fY (iP U) b3) (gN _ _)⟩
      |(have h5:=Hn (a:=.int .i64 ow) (b:=.int .i64 sq) (c:=.slice b es.length V) l9 rfl (Nat.le_refl _) (fY ba b3)
        have h6:=((l9.set 0 (ι κ ow)).set 1 (ι κ sq)).set 2 (σ b es.length V);exact⟨_,b,V,rfl,⟨h6.cell 0,h5.1,h5.2.1⟩,iU.not_zero TH l9 Tt.out h5.2.2.2,h5.2.2.1⟩)
   case rest=>
    obtain⟨Y,b,V,rfl,SY,TH,qp⟩:=hcut;have SZ:=S2.below qp;have hoa:=Tg.below qp;have hR0:=HR0.out _ qp;have zl:=af _ _ SZ.1;have yl:=af _ _ SY.1;have rl:=af _ _ hR0.1;cases q1:(own==r.id)with
    |false=>
     have kT:¬(own=r.id/\0<u):=λe=>by simp[e.1]at q1
     obtain⟨d0,d1,d2⟩:=SZ;have d3:=hR0.1;clear rZ Z9 Mq
     go_wp2
     go_quiet(fail)
     have b5:=below_drewN qp nq;obtain⟨Q,KZ⟩:=fW (wc.drewN nq);rw[KZ]at b5;rw[KZ];clear KZ d0 d1 d2 d3 hR0 hoa TH SY qp zl yl rl;have SZ5:=S2.below b5;have Vk:=Tg.below b5;have R5:=HR0.out _ (fY b5 (iP Q));have ht5:=yo.out _ (fY b5 (iP Q)) (Vk.below (iP Q));have D:Q.drew.cell? ⟨z.R,2,ν⟩=μ (π (μ ⟨z.Bb,0,ν⟩))/\Q.drew.cell? ⟨Z,0,ν⟩=μ (ι κ own)/\Q.drew.cell? ⟨Z,1,ν⟩=μ (ι κ seq)/\Q.drew.cell? ⟨Z,2,ν⟩=μ (σ a n cap):=⟨R5.2,SZ5⟩
     have H:eT eU 190 #[π (μ ⟨z.Bb,0,ν⟩),ι κ (i:Int),.agg #[ι κ own,ι κ seq,σ a n cap]] Q.drew λe w'=>e=ρ (τ #[ι κ u,η])/\T3 w'/\iU w' a n os/\(w'.cell? ⟨z.R,2,ν⟩=μ (π (μ ⟨z.Bb,0,ν⟩))/\w'.cell? ⟨Z,0,ν⟩=μ (ι κ own)/\w'.cell? ⟨Z,1,ν⟩=μ (ι κ seq)/\w'.cell? ⟨Z,2,ν⟩=μ (σ a n cap)):=by
      refine ht5.mono ?_;rintro e X ⟨rfl,h1,h2,h3⟩;exact⟨rfl,h1,h2,h3 _ _ D.1,h3 _ _ D.2.1,h3 _ _ D.2.2.1,h3 _ _ D.2.2.2⟩
     clear ht5 yo R5 SZ5 Vk
     go_wp2
     go_region_held3(λx=>x.cell? ⟨z.R,2,ν⟩=μ (π (μ ⟨z.Bb,0,ν⟩))/\x.cell? ⟨Z,0,ν⟩=μ (ι κ own)/\x.cell? ⟨Z,1,ν⟩=μ (ι κ seq)/\x.cell? ⟨Z,2,ν⟩=μ (σ a n cap))
      (first|assumption|exact D|exact F6)
      (first
       |(go_at_call 190;refine H.mono ?_;rintro e X ⟨rfl,A,ho6,F6⟩))
     all_goals
      have m1:=HR3.out _ A;by_cases S7:0<=u
      ·have hp7:=nP.out kT S7;have F7:X.drew.cell? ⟨z.R,1,ν⟩=μ (σ (μ ⟨z.g,0,ν⟩) r.n z.cap)/\X.drew.cell? ⟨Z,0,ν⟩=μ (ι κ own)/\X.drew.cell? ⟨Z,1,ν⟩=μ (ι κ seq)/\X.drew.cell? ⟨Z,2,ν⟩=μ (σ a n cap):=⟨m1,F6.2⟩
       have hp8:=hp7 X.drew (adq.out _ A) (ho6.below (iP X));have m1':X.drew.cell? ⟨z.R,1,ν⟩=μ (σ (μ ⟨z.g,0,ν⟩) r.n z.cap):=F7.1;have m2:X.drew.cell? ⟨Z,0,ν⟩=μ (ι κ own):=F7.2.1;have m3:X.drew.cell? ⟨Z,1,ν⟩=μ (ι κ seq):=F7.2.2.1;have m4:X.drew.cell? ⟨Z,2,ν⟩=μ (σ a n cap):=F7.2.2.2;have m5:=af _ _ m1';have m6:=af _ _ m2;clear H nP sW hp7 D F6 F7 Hr
       go_wp2
       go_region_with(go_at_call 152;refine hp8.mono ?_;rintro e w8 ⟨rfl,WD⟩)
       all_goals
        clear hp8
        go_wp2
        first|go_end0|refine iC rfl rfl ?_
        exact⟨rfl,by rw[HT.out];exact WD⟩
      ·have WD:=sW.out kT dU _ A;clear H nP sW D F6 Hr
       go_wp2
       first|go_end0|refine iC rfl rfl ?_
       exact⟨rfl,by rw[HT.out];exact WD⟩
    |true=>
     have HID:Hid (own=r.id):=by show own=r.id;simpa using q1
     have hns:=Z9.out HID.out;obtain⟨d0,d1,d2⟩:=SZ;obtain⟨y0,y1,y2⟩:=SY;have F0:wc.drew.cell? ⟨z.R,0,ν⟩=μ (ι κ r.id)/\wc.drew.cell? ⟨Z,0,ν⟩=μ (ι κ own)/\wc.drew.cell? ⟨Z,1,ν⟩=μ (ι κ seq)/\wc.drew.cell? ⟨Z,2,ν⟩=μ (σ a n cap)/\wc.drew.cell? ⟨Y,0,ν⟩=μ (ι κ ow)/\wc.drew.cell? ⟨Y,1,ν⟩=μ (ι κ sq)/\wc.drew.cell? ⟨Y,2,ν⟩=μ (σ b es.length V):=⟨hR0.1,d0,d1,d2,y0,y1,y2⟩
     have oB:=rZ.out wc.drew b V (hoa.below (iP wc)) (TH.below (iP wc));rw[<-hns]at oB;clear hns;have mb:eT eU 189 #[.agg #[ι κ own,ι κ seq,σ a n cap],.agg #[ι κ ow,ι κ sq,σ b es.length V]] wc.drew λe w'=>e=ρ (ι κ u)/\eh U w'/\(w'.cell? ⟨z.R,0,ν⟩=μ (ι κ r.id)/\w'.cell? ⟨Z,0,ν⟩=μ (ι κ own)/\w'.cell? ⟨Z,1,ν⟩=μ (ι κ seq)/\w'.cell? ⟨Z,2,ν⟩=μ (σ a n cap)/\w'.cell? ⟨Y,0,ν⟩=μ (ι κ ow)/\w'.cell? ⟨Y,1,ν⟩=μ (ι κ sq)/\w'.cell? ⟨Y,2,ν⟩=μ (σ b es.length V)):=by
      refine oB.mono ?_;rintro e w5 ⟨rfl,b5⟩;have bb:=fY qp (fY (iP wc) b5);have SY5:=S3.below (x:=wc.drew) ⟨y0,y1,y2⟩ b5;exact⟨rfl,bb,(HR0.out _ bb).1,(S2.below bb).1,(S2.below bb).2.1,(S2.below bb).2.2,SY5.1,SY5.2.1,SY5.2.2⟩
     clear rZ Z9 Mq oB d0 d1 d2 y0 y1 y2 hR0 hoa TH
     go_wp2
     go_region_held3(λx=>x.cell? ⟨z.R,0,ν⟩=μ (ι κ r.id)/\x.cell? ⟨Z,0,ν⟩=μ (ι κ own)/\x.cell? ⟨Z,1,ν⟩=μ (ι κ seq)/\x.cell? ⟨Z,2,ν⟩=μ (σ a n cap)/\x.cell? ⟨Y,0,ν⟩=μ (ι κ ow)/\x.cell? ⟨Y,1,ν⟩=μ (ι κ sq)/\x.cell? ⟨Y,2,ν⟩=μ (σ b es.length V))
      (first|assumption|exact F0|exact F1)
      (first
       |(go_at_call 189;refine mb.mono ?_;rintro e Q ⟨rfl,b5,F1⟩))
     all_goals
      by_cases h0:0<u
      ·have Ww:=Hr.out HID.out h0 _ b5;have m3:=F1.2.2.1;have m6:=af _ _ m3;clear mb yo nP sW F0 F1 Hr;go_wp2_with(fail);refine Ww.mono ?_;rintro e w8 ⟨rfl,WD⟩;clear Ww
       go_wp2
       first|go_end0|refine iC rfl rfl ?_
       exact⟨rfl,by rw[HT.out];exact WD⟩
      ·have kT:¬(own=r.id/\0<u):=λe=>h0 e.2;clear mb F0 F1 qp zl yl rl;have SZ5:=S2.below b5;have Vk:=Tg.below b5;have R5:=HR0.out _ (fY b5 (iP Q));have ht5:=yo.out _ (fY b5 (iP Q)) (Vk.below (iP Q));have D:Q.drew.cell? ⟨z.R,2,ν⟩=μ (π (μ ⟨z.Bb,0,ν⟩))/\Q.drew.cell? ⟨Z,0,ν⟩=μ (ι κ own)/\Q.drew.cell? ⟨Z,1,ν⟩=μ (ι κ seq)/\Q.drew.cell? ⟨Z,2,ν⟩=μ (σ a n cap):=⟨R5.2,SZ5⟩
       have H:eT eU 190 #[π (μ ⟨z.Bb,0,ν⟩),ι κ (i:Int),.agg #[ι κ own,ι κ seq,σ a n cap]] Q.drew λe w'=>e=ρ (τ #[ι κ u,η])/\T3 w'/\iU w' a n os/\(w'.cell? ⟨z.R,2,ν⟩=μ (π (μ ⟨z.Bb,0,ν⟩))/\w'.cell? ⟨Z,0,ν⟩=μ (ι κ own)/\w'.cell? ⟨Z,1,ν⟩=μ (ι κ seq)/\w'.cell? ⟨Z,2,ν⟩=μ (σ a n cap)):=by
        refine ht5.mono ?_;rintro e X ⟨rfl,h1,h2,h3⟩;exact⟨rfl,h1,h2,h3 _ _ D.1,h3 _ _ D.2.1,h3 _ _ D.2.2.1,h3 _ _ D.2.2.2⟩
       clear ht5 yo R5 SZ5 Vk
       go_wp2
       go_region_held3(λx=>x.cell? ⟨z.R,2,ν⟩=μ (π (μ ⟨z.Bb,0,ν⟩))/\x.cell? ⟨Z,0,ν⟩=μ (ι κ own)/\x.cell? ⟨Z,1,ν⟩=μ (ι κ seq)/\x.cell? ⟨Z,2,ν⟩=μ (σ a n cap))
        (first|assumption|exact D|exact F6)
        (first
         |(go_at_call 190;refine H.mono ?_;rintro e X ⟨rfl,A,ho6,F6⟩))
       all_goals
        have m1:=HR3.out _ A;by_cases S7:0<=u
        ·have hp7:=nP.out kT S7;have F7:X.drew.cell? ⟨z.R,1,ν⟩=μ (σ (μ ⟨z.g,0,ν⟩) r.n z.cap)/\X.drew.cell? ⟨Z,0,ν⟩=μ (ι κ own)/\X.drew.cell? ⟨Z,1,ν⟩=μ (ι κ seq)/\X.drew.cell? ⟨Z,2,ν⟩=μ (σ a n cap):=⟨m1,F6.2⟩
         have hp8:=hp7 X.drew (adq.out _ A) (ho6.below (iP X));have m1':X.drew.cell? ⟨z.R,1,ν⟩=μ (σ (μ ⟨z.g,0,ν⟩) r.n z.cap):=F7.1;have m2:X.drew.cell? ⟨Z,0,ν⟩=μ (ι κ own):=F7.2.1;have m3:X.drew.cell? ⟨Z,1,ν⟩=μ (ι κ seq):=F7.2.2.1;have m4:X.drew.cell? ⟨Z,2,ν⟩=μ (σ a n cap):=F7.2.2.2;have m5:=af _ _ m1';have m6:=af _ _ m2;clear H nP sW hp7 D F6 F7 Hr
         go_wp2
         go_region_with(go_at_call 152;refine hp8.mono ?_;rintro e w8 ⟨rfl,WD⟩)
         all_goals
          clear hp8
          go_wp2
          first|go_end0|refine iC rfl rfl ?_
          exact⟨rfl,by rw[HT.out];exact WD⟩
        ·have WD:=sW.out kT dU _ A;clear H nP sW D F6 Hr
         go_wp2
         first|go_end0|refine iC rfl rfl ?_
         exact⟨rfl,by rw[HT.out];exact WD⟩
 ·have ee:jb f=.iface 128 (ι κ (f:Int)):=by simp only[jb];rw[ae hf]
  rw[ee];have hE:jd r i s.data.toList=r:=by
   unfold jd;rw[hR];simp only;rw[ag (.inl hf)]
  have HW:Hid (iw w (w1.alloc (γ #[ι κ own,ι κ seq,σ a n cap] 40)) z (jd r i s.data.toList) r.n):=by
   show iw _ _ _ _ _;rw[hE];exact iw.still HR.out (fY b1 ba)
  clear hR ho hf ee hE
  go_wp2
  first|go_end0|refine iC rfl rfl ?_
  exact⟨rfl,HW.out⟩
theorem PB(a c me f s:Int)(b:Bool)(w:dR):eT eU 187 #[.agg #[ι κ a,.bool b,ι κ c],ι κ me,.agg #[ι κ f,ι κ s]] w λe w'=>
 e=ρ (.agg #[.int .i64 (iY me f s).who,.bool (iY me f s).both,.int .i64 (iY me f s).left])/\eh w w':=by
 have h:=SH a c me f s b w;have e:yE me f s=((iY me f s).who,(iY me f s).both,(iY me f s).left):=by
  unfold yE iY;split
  ·rfl
  ·simp only[Prod.mk.injEq,true_and,and_true];by_cases h:s=me
   ·simp[h]
   ·simp[h]
 rw[e]at h;exact h
theorem E4(s:ByteArray)(z:Zt)(r:iE)(i:Nat)(w:dR)(h:lJ w z r)(iF:kU r)(hi:i<r.n):
 eT eU 134 #[π (μ ⟨z.R,0,ν⟩),ι κ (i:Int),.string s] w λe w'=>e=ρ (τ #[])/\iw w w' z (if(kg s.data.toList).2.2=0 then r.meet i (iY r.id (kg s.data.toList).1 (kg s.data.toList).2.1)else r) r.n:=by
 have V:=LK s w;have kB:(i:Int)<(r.n:Int):=dU;have KU:(0:Int)<=(i:Int):=dU;by_cases D:(kg s.data.toList).2.2=0
 ·rw[ag D];rw[D]at V;have hf:1<=(kg s.data.toList).1/\(kg s.data.toList).1<=6:=by
   unfold kg at D⊢;split at D
   ·rename_i hc
    rw[ag hc];have:=hc.2;simp only[tF,Bool.and_eq_true,decide_eq_true_eq]at this;simp only;omega
   ·simp at D
  have e0:jb 0=η:=rfl;rw[e0]at V;generalize (kg s.data.toList).1=f at V hf⊢;generalize (kg s.data.toList).2.1=g at V⊢;have J:∀W Z,eh w W->w.heap.size<=Z->(W.cell? ⟨Z,0,ν⟩=μ (.int .i64 f)/\W.cell? ⟨Z,1,ν⟩=μ (.int .i64 g))->eT eU 74 #[π (μ ⟨z.R,0,ν⟩),.int .i64 (i:Int),.agg #[.int .i64 (iY r.id f g).who,.bool (iY r.id f g).both,.int .i64 (iY r.id f g).left]] W λe w'=>e=ρ (τ #[])/\iw w w' z (r.meet i (iY r.id f g)) r.n/\(w'.cell? ⟨Z,0,ν⟩=μ (.int .i64 f)/\w'.cell? ⟨Z,1,ν⟩=μ (.int .i64 g)/\w'.cell? ⟨z.R,0,ν⟩=μ (.int .i64 r.id)/\w'.cell? ⟨z.R,1,ν⟩=μ (σ (μ ⟨z.g,0,ν⟩) r.n z.cap)):=by
   intro W Z hW u hc;have R:=h.below hW;refine(vJ z r i (iY r.id f g) W R iF hi (nQ.Wu iF.id.1 hf)).mono ?_;rintro e w' ⟨rfl,hw⟩;have Ng:¬z.mine r.n Z:=h.tK u;have k0:=hw.c0;have k1:=hw.c1;rw[Cp]at k0;rw[Ac]at k1;exact⟨rfl,iw.first h rfl hW (λ_=>hw),hw.cell R (p:=⟨Z,0,ν⟩) Ng hc.1,hw.cell R (p:=⟨Z,1,ν⟩) Ng hc.2,k0,k1⟩
  have U:Hid (∀W,eh w W->W.cell? ⟨z.R,0,ν⟩=μ (.int .i64 r.id)/\W.cell? ⟨z.R,1,ν⟩=μ (σ (μ ⟨z.g,0,ν⟩) r.n z.cap)/\W.cell? ⟨z.g,i*71+67,ν⟩=μ (.int .i64 (r.P i).pe.who)/\W.cell? ⟨z.g,i*71+67+1,ν⟩=μ (.bool (r.P i).pe.both)/\W.cell? ⟨z.g,i*71+67+2,ν⟩=μ (.int .i64 (r.P i).pe.left)):=by
   intro W hW;have R:=h.below hW;exact⟨R.c0,R.c1,(R.pt i hi).c67,(R.pt i hi).Wo,(R.pt i hi).c69⟩
  obtain⟨T,hT⟩:∃T:dR->Prop,(λx=>iw w x z (r.meet i (iY r.id f g)) r.n)=T:=⟨_,rfl⟩
  have JU:∀x,iw w x z (r.meet i (iY r.id f g)) r.n=T x:=λx=>bY hT x;simp only[JU]at J⊢;have H:=PB (r.P i).pe.who (r.P i).pe.left r.id f g (r.P i).pe.both;generalize (iY r.id f g).who=q1 at J H;generalize (iY r.id f g).both=q2 at J H;generalize (iY r.id f g).left=q3 at J H;generalize (r.P i).pe.who=p1 at U H;generalize (r.P i).pe.both=p2 at U H;generalize (r.P i).pe.left=p3 at U H;generalize r.id=id at U H J;have hRl:=h.lt;have Jk:=h.FQ;generalize z.R=RR at J U hRl⊢;generalize z.g=G at U Jk J;generalize z.cap=cp at U J;generalize r.n=n at U kB J;clear h iF hT JU D hf
  go_in
  go_wp2_with(fail);refine V.mono ?_;rintro e w1 ⟨rfl,b1⟩;have ba:=gN w1 (γ #[ι κ f,ι κ g] 230);have hA:=λj=>aj w1 #[ι κ f,ι κ g] 230 (0,0) j;have b2:=fY b1 ba;obtain⟨M,nC⟩:=fW (w1.alloc (γ #[ι κ f,ι κ g] 230));obtain⟨Z,u⟩:=fW (w1.heap.size);rw[nC]at b2;have z0:M.cell? ⟨Z,0,ν⟩=μ (ι κ f):=by rw[<-nC,<-u];exact hA 0
  have z1:M.cell? ⟨Z,1,ν⟩=μ (ι κ g):=by rw[<-nC,<-u];exact hA 1
  have b3:=fY b2 (iP M);have Q:=U.out _ b3;have F0:M.drew.cell? ⟨Z,0,ν⟩=μ (ι κ f)/\M.drew.cell? ⟨Z,1,ν⟩=μ (ι κ g)/\M.drew.cell? ⟨RR,0,ν⟩=μ (ι κ id)/\M.drew.cell? ⟨RR,1,ν⟩=μ (σ (μ ⟨G,0,ν⟩) n cp):=⟨z0,z1,Q.1,Q.2.1⟩
  have m1:=Q.2.2.1;have m2:=Q.2.2.2.1;have m3:=Q.2.2.2.2;have zl:Z<M.drew.heap.size:=af _ _ F0.1;have hZw:w.heap.size<=Z:=by rw[<-u];exact b1.size
  have gl2:G<M.drew.heap.size:=af _ _ m1;have hh:eT eU 187 #[.agg #[ι κ p1,.bool p2,ι κ p3],ι κ id,.agg #[ι κ f,ι κ g]] M.drew λe w'=>e=ρ (.agg #[ι κ q1,.bool q2,ι κ q3])/\eh w w'/\(w'.cell? ⟨Z,0,ν⟩=μ (ι κ f)/\w'.cell? ⟨Z,1,ν⟩=μ (ι κ g)/\w'.cell? ⟨RR,0,ν⟩=μ (ι κ id)/\w'.cell? ⟨RR,1,ν⟩=μ (σ (μ ⟨G,0,ν⟩) n cp)):=by
   refine(H M.drew).mono ?_;rintro e w' ⟨rfl,b4⟩;have F4:=U.out _ (fY b3 b4);exact⟨rfl,fY b3 b4,(ai (a:=⟨Z,0,ν⟩) (b4.block Z zl)).trans F0.1,(ai (a:=⟨Z,1,ν⟩) (b4.block Z zl)).trans F0.2.1,F4.1,F4.2.1⟩
  clear V H hA ba b1 b2;go_wp2_with(fail)
  try rw[nC]
  try rw[u]
  clear nC u;refine cg (S:=λx=>x.cell? ⟨Z,0,ν⟩=μ (ι κ f)/\x.cell? ⟨Z,1,ν⟩=μ (ι κ g)/\x.cell? ⟨RR,0,ν⟩=μ (ι κ id)/\x.cell? ⟨RR,1,ν⟩=μ (σ (μ ⟨G,0,ν⟩) n cp)) gL F0 (λk8=> ?_);refine jf 0 (μ 15) rfl rfl gL gL gL (λ_ _ _ h=>h) (by rfl) (v:= ?_) ?_ iX ?_
  rotate_left
  ·intro X Y
   (try dsimp only at Y)
   go_simp
   try with_reducible rfl
  simp only[gj,gk,gp,gq];refine jf 1 (μ 16) rfl rfl gL gL gL (λ_ _ _ h=>h) (by rfl) (v:= ?_) ?_ iX ?_
  rotate_left
  ·intro X Y
   (try dsimp only at Y)
   go_simp
   try with_reducible rfl
  simp only[gj,gk,gp,gq];refine jf 2 (μ 17) rfl rfl gL gL gL (λ_ _ _ h=>h) (by rfl) (v:= ?_) ?_ iX ?_
  rotate_left
  ·intro X Y
   (try dsimp only at Y)
   go_simp
   try with_reducible rfl
  simp only[gj,gk,gp,gq];refine jf 3 (μ 18) rfl rfl gL gL gL (λ_ _ _ h=>h) (by rfl) (v:= ?_) ?_ iX ?_
  rotate_left
  ·intro X Y
   (try dsimp only at Y)
   go_simp
   try with_reducible rfl
  simp only[gj,gk,gp,gq];refine jf 4 (μ 19) rfl rfl gL gL gL (λ_ _ _ h=>h) (by rfl) (v:= ?_) ?_ iX ?_
  rotate_left
  ·intro X Y
   (try dsimp only at Y)
   go_simp
   try with_reducible rfl
  simp only[gj,gk,gp,gq];refine jf 5 (μ 20) rfl rfl gL gL gL (λ_ _ _ h=>h) (by rfl) (v:= ?_) ?_ iX ?_
  rotate_left
  ·intro X Y
   (try dsimp only at Y)
   go_simp
   try with_reducible rfl
  simp only[gj,gk,gp,gq];refine jf 6 (μ 21) rfl rfl gL gL gL (λ_ _ _ h=>h) (by rfl) (v:= ?_) ?_ iX ?_
  rotate_left
  ·intro X Y
   (try dsimp only at Y)
   go_simp
   try with_reducible rfl
  simp only[gj,gk,gp,gq];refine jf 7 (μ 22) rfl rfl gL gL gL (λ_ _ _ h=>h) (by rfl) (v:= ?_) ?_ iX ?_
  rotate_left
  ·intro X Y
   (try dsimp only at Y)
   go_simp
   try with_reducible rfl
  simp only[gj,gk,gp,gq];refine jf 8 (μ 23) rfl rfl gL gL gL (λ_ _ _ h=>h) (by rfl) (v:= ?_) ?_ iX ?_
  rotate_left
  ·intro X Y
   (try dsimp only at Y)
   go_simp
   try with_reducible rfl
  simp only[gj,gk,gp,gq];refine jf 10 (μ 25) rfl rfl gL gL gL (λ_ _ _ h=>h) (by rfl) (v:= ?_) ?_ iX ?_
  rotate_left
  ·intro X Y
   (try dsimp only at Y)
   go_simp
   try with_reducible rfl
  simp only[gj,gk,gp,gq];refine jf 11 (μ 26) rfl rfl gL gL gL (λ_ _ _ h=>h) (by rfl) (v:= ?_) ?_ iX ?_
  rotate_left
  ·intro X Y
   (try dsimp only at Y)
   go_simp
   try with_reducible rfl
  simp only[gj,gk,gp,gq];refine jf 12 (μ 27) rfl rfl gL gL gL (λ_ _ _ h=>h) (by rfl) (v:= ?_) ?_ iX ?_
  rotate_left
  ·intro X Y
   (try dsimp only at Y)
   go_simp
   try with_reducible rfl
  simp only[gj,gk,gp,gq];refine jf 13 (μ 28) rfl rfl gL gL gL (λ_ _ _ h=>h) (by rfl) (v:= ?_) ?_ iX ?_
  rotate_left
  ·intro X Y
   (try dsimp only at Y)
   go_simp
   try with_reducible rfl
  simp only[gj,gk,gp,gq];refine jf 14 (μ 29) rfl rfl gL gL gL (λ_ _ _ h=>h) (by rfl) (v:= ?_) ?_ iX ?_
  rotate_left
  ·intro X Y
   (try dsimp only at Y)
   go_simp
   try with_reducible rfl
  simp only[gj,gk,gp,gq];refine aN (rs:=[9]) gL gO ?_;refine aF (o:=_) rfl (λK A=> ?_) aM
  go_simp
  refine A.out _ _ ?_ (λk8=> ?_)
  ·exact F0
  clear A K;refine aN (rs:=[15]) gL gO ?_;refine aF (o:=_) rfl (λK A=> ?_) aM
  go_simp
  refine hh.mono ?_;rintro e w4 ⟨rfl,b4,F1⟩
  (try go_wp2_with(fail))
  refine A.out _ _ ?_ (λk8=> ?_)
  ·exact F1
  clear A K;refine aN (rs:=[16]) gL gO ?_;refine aF (o:=_) rfl (λK A=> ?_) aM
  go_simp
  refine(J _ Z b4 hZw ⟨F1.1,F1.2.1⟩).mono ?_;rintro e w5 ⟨rfl,hW,F2⟩
  (try go_wp2_with(fail))
  refine A.out _ _ ?_ (λk8=> ?_)
  ·exact F2
  clear A K;refine cK gL ?_ _
  all_goals
   clear J hh F0 F1 F2 U
   go_wp2
   first|go_end0|refine iC rfl rfl ?_
   exact⟨rfl,hW⟩
 ·rw[ae D];have ee:jb (kg s.data.toList).2.2=.iface 128 (ι κ ((kg s.data.toList).2.2:Int)):=by simp only[jb];rw[ae D]
  rw[ee]at V;generalize (kg s.data.toList).1=f at V;generalize (kg s.data.toList).2.1=g at V;generalize (kg s.data.toList).2.2=k at V;have HR:Hid _:=h;clear h iF ee D
  go_in
  go_wp2_with(fail);refine V.mono ?_;rintro e w1 ⟨rfl,b1⟩;have HW:Hid _:=iw.still HR.out (fY b1 (gN w1 (γ #[ι κ f,ι κ g] 230)));clear V
  go_wp2
  first|go_end0|refine iC rfl rfl ?_
  exact⟨rfl,HW.out⟩
def yV(w w':dR)(y':Yt):Nat->Prop:=λk=>w.heap.size<=k/\k<w'.heap.size/\(y'.own k \/y'.ext k)
theorem ju.owned {y':Yt} (h:ju w y n)(hs:w.heap.size<=w'.heap.size)(u:∀k,k<w.heap.size->¬y.own k->¬y.ext k->w'.heap[k]? =w.heap[k]?)
 (T:y'.bM=y.bM) (U:y'.z=λj=>(y.z j).plus (yV w w' y')) (G:∀k,y'.own k \/y'.ext k->k<w'.heap.size)
 (V:∀k,y'.own k->y.own k \/w.heap.size<=k) (D:∀k,y'.ext k->y.ext k \/w.heap.size<=k) (X:n'.n=n.n) (Yn:n'.ms=n.ms) (A:n'.R=n.R)
 (c9:n'.nc<=9)
 (nN:jc w' y'.N #[σ (μ ⟨y'.gR,0,ν⟩) n'.n y'.sT,σ (μ ⟨y'.gI,0,ν⟩) n'.n y'.xT,.map (μ y'.bM),y'.cv n'.nc] 190)
 (rr:pP w' y'.gR 0 n'.n (λi=>π (μ ⟨(y.z i).R,0,ν⟩))) (ri:pP w' y'.gI 0 n'.n y'.iv) (rc:∀g,y'.gC=μ g->∀c,c<n'.nc->pP w' g (c*7) 7 (BS (n'.C c) (y'.ov c))) (gc:∀c,c<n'.nc->∃g,y'.gC=μ g)
 (ib:∀i,i<n'.n->Row w' 3 (y'.iv i) (n'.jZ i).length (qS (n'.jZ i))) (ob:∀c d,c<n'.nc->d<2->Row w' 1 (y'.ov c d) ((n'.C c).on d).length (iH ((n'.C c).on d))) (ol:∀c d,c<n'.nc->d<2->((n'.C c).on d).length<=2000)
 (en:∀c d,c<n'.nc->d<2->((n'.C c).e d).1<n'.n/\((n'.C c).e d).2<3) (inj:∀l l' k,y'.at l=μ k->y'.at l'=μ k->l=l') (nx:∀k,y'.ext k->¬y'.own k):
 ju w' y' n'/\∀k,y'.all n.n k->y.all n.n k \/w.heap.size<=k:=by
 have M:∀j k,(y'.z j).oJ k↔(y.z j).oJ k:=λj k=>by rw[U];exact dP
 have XM:=h.FX;refine⟨⟨by rw[X];exact h.n1,by rw[X];exact h.n6,c9,nN,?_,ri,rc,gc,?_,λi hi=> ?_,λi hi=> ?_,ib,ob,ol,en,inj,λi hi k Y=> ?_,nx,⟨λe=> ?_,λe=> ?_,λi hi e=> ?_⟩,λe=> ?_⟩,λk J=> ?_⟩
 ·refine rr.congr λj _=> ?_;rw[U];rfl
 ·obtain⟨E,h1,h2⟩:=h.mp;refine⟨E,?_,by rw[X,Yn];exact h2⟩;rw[T];exact h1.keep (u _ XM h.nM.1 h.nM.2.1)
 ·rw[X]at hi;rw[U,A];refine(h.rt i hi).besides hs (λk J hc=>u k J (λe=> ?_) (λe=> ?_)) _ (λk e=>⟨e.1,e.2.1⟩)
  ·have Y:=h.away i hi k (.inl e);rcases hc with hc|hc
   ·exact hc Y.1
   ·rw[(h.rn i hi).1]at hc;exact Y.2 hc
  ·have Y:=h.away i hi k (.inr (.inl e));rcases hc with hc|hc
   ·exact hc Y.1
   ·rw[(h.rn i hi).1]at hc;exact Y.2 hc
 ·rw[X]at hi;rw[A];exact h.rn i hi
 ·rw[X]at hi Y;rw[U];show((y.z i).fm.no k \/yV w w' y' k)/\¬(y.z i).mine 3 k;have H:w.heap.size<=k->¬(y.z i).mine 3 k:=λe Z=>by
   have:=h.xV hi (.inl Z);omega
  rcases Y with e|e|⟨j,Q,jm,e⟩
  ·rcases V k e with Z|Z
   ·have Y:=h.away i hi k (.inl Z);exact⟨.inl Y.1,Y.2⟩
   ·exact⟨.inr ⟨Z,G k (.inl e),.inl e⟩,H Z⟩
  ·rcases D k e with Z|Z
   ·have Y:=h.away i hi k (.inr (.inl Z));exact⟨.inl Y.1,Y.2⟩
   ·exact⟨.inr ⟨Z,G k (.inr e),.inr e⟩,H Z⟩
  ·have Y:=h.away i hi k (.inr (.inr ⟨j,Q,jm,(M j k).1 e⟩));exact⟨.inl Y.1,Y.2⟩
 ·rw[T]at e;rcases V _ e with Z|Z
  ·exact h.nM.1 Z
  ·omega
 ·rw[T]at e;rcases D _ e with Z|Z
  ·exact h.nM.2.1 Z
  ·omega
 ·rw[X]at hi;rw[T]at e;exact h.nM.2.2 i hi ((M i _).1 e)
 ·rcases V 0 e with Z|Z
  ·exact h.z0 Z
  ·have:=h.FX;omega
 ·rcases J with e|⟨j,Q,e⟩
  ·exact(V k e).imp_left .inl
  ·exact .inl (.inr ⟨j,Q,(M j k).1 e⟩)
theorem ju.tL(h:ju w y n)(e:y.at l=μ k):k<w.heap.size:=h.lt (.inl ⟨l,e⟩)
theorem ju.vL(h:ju w y n) {l':Lab} {k':Nat} (e:y.at l=μ k)(e':y.at l'=μ k')(Z:l≠l'):k≠k':=λx=>Z (h.inj l l' k e (by rw[e',x]))
theorem ju.NQ(h:ju w y n)(hc:c<n.nc)(D:y.gC=μ g)(X:pT)(o:Nat->dT)(hs:w.heap.size<=w'.heap.size)(Ff:w'.os=w.os)(NI:w'.tape=w.tape)(KY:w'.output=w.output)
 (hk:∀k,k<w.heap.size->k≠g->(∀d,d<2->(y.ov c d).ownBlock≠μ k)->w'.heap[k]? =w.heap[k]?)
 (hcell:∀j,j<c*7 \/c*7+7<=j->w'.cell? ⟨g,j,ν⟩=w.cell? ⟨g,j,ν⟩) (QZ:∀j,w'.frozen? ⟨g,j,ν⟩=w.frozen? ⟨g,j,ν⟩) (uj:pP w' g (c*7) 7 (BS X o))
 (TH:∀d,d<2->Row w' 1 (o d) (X.on d).length (iH (X.on d))) (V5:∀d,d<2->(X.on d).length<=2000) (zC:X.e=(n.C c).e)
 (ji:∀d k,d<2->(o d).ownBlock=μ k->(y.ov c d).ownBlock=μ k \/w.heap.size<=k) (jm:∀k,(o 0).ownBlock=μ k->(o 1).ownBlock≠μ k):iy w w' y (n.kX c X) n.n:=by
 obtain⟨ov,hov⟩:∃ov:Nat->Nat->dT,ov=λx d=>if x=c/\d<2 then o d else y.ov x d:=⟨_,rfl⟩
 have V:∀d,d<2->ov c d=o d:=λd hd=>by rw[hov];simp[hd]
 have M:∀x d,¬(x=c/\d<2)->ov x d=y.ov x d:=λx d hx=>by rw[hov];simp only[if_neg hx]
 obtain⟨J,Ba⟩:∃J:Yt,J={y with ov:=ov}:=⟨_,rfl⟩
 obtain⟨y',Y⟩:∃y':Yt,y'={y with ov:=ov,z:=λj=>(y.z j).plus (yV w w' J)}:=⟨_,rfl⟩
 have jv:∀k,y'.own k↔J.own k:=λk=>by
  rw[Y,Ba];constructor
  ·rintro⟨l,e⟩;exact⟨l,by cases l<;>exact e⟩
  ·rintro⟨l,e⟩;exact⟨l,by cases l<;>exact e⟩
 have hX:yV w w' J=yV w w' y':=by
  funext k
  apply propext;unfold yV;rw[<-jv k];have:J.ext=y'.ext:=by rw[Ba,Y]
  rw[this]
 have hat:∀l k,y'.at l=μ k->y.at l=μ k \/(w.heap.size<=k/\∃d,d<2/\l=.on c d/\(o d).ownBlock=μ k):=by
  intro l k e;rw[Y]at e;cases l with
  |N=>exact .inl e
  |R=>exact .inl e
  |I=>exact .inl e
  |C=>exact .inl e
  |ib i=>exact .inl e
  |on x d=>
   have e':(ov x d).ownBlock=μ k:=e;by_cases hx:x=c/\d<2
   ·obtain⟨rfl,hd⟩:=hx;rw[V d hd]at e';rcases ji d k hd e' with Z|Z
    ·exact .inl Z
    ·exact .inr ⟨Z,d,hd,rfl,e'⟩
   ·rw[M x d hx]at e';exact .inl e'
 have ka:∀k,y'.own k->k<w'.heap.size:=by
  rintro k ⟨l,e⟩;rcases hat l k e with Z|⟨_,d,hd,rfl,Z⟩
  ·exact Nat.lt_of_lt_of_le (h.tL Z) hs
  ·exact(TH d hd).lt k Z
 have A:∀l k,y.at l=μ k->l≠ .C->(∀d,d<2->l≠ .on c d)->w'.heap[k]? =w.heap[k]? :=by
  intro l k e Q G;refine hk k (h.tL e) (λZ=> ?_) (λd hd Z=> ?_)
  ·exact h.vL e (show y.at .C=μ g from D) Q Z
  ·exact G d hd (h.inj _ _ k e (show y.at (.on c d)=μ k from Z))
 have H:=h.owned (y':=y') (n':=n.kX c X) hs (λk uk Q _=>hk k uk (λe=>Q ⟨.C,by rw[e];exact D⟩) (λd _ e=>Q ⟨.on c d,e⟩)) (by rw[Y]) (by rw[<-hX,Y])
  (λk e=>e.elim (ka k) (λe=>by
   have e':y.ext k:=by rw[Y]at e;exact e
   exact Nat.lt_of_lt_of_le (h.lt (.inr e')) hs))
  (by
   rintro k ⟨l,e⟩;rcases hat l k e with Z|⟨Z,_⟩
   ·exact .inl ⟨l,Z⟩
   ·exact .inr Z) (λk e=>.inl (by rw[Y]at e;exact e)) rfl rfl rfl h.c9 (by rw[Y];exact h.nN.keep (A .N _ rfl (λe=>nomatch e) (λ_ _ e=>nomatch e)))
  (by rw[Y];exact h.rr.keep (A .R _ rfl (λe=>nomatch e) (λ_ _ e=>nomatch e))) (by rw[Y];exact h.ri.keep (A .I _ rfl (λe=>nomatch e) (λ_ _ e=>nomatch e)))
  (by
   intro g' CI x hx;have AH:y.gC=μ g':=by rw[Y]at CI;exact CI
   obtain rfl:g=g':=by rw[D]at AH;exact Option.some.inj AH
   have uQ:x<n.nc:=hx;show pP w' g (x*7) 7 (BS (jK n.C c X x) (y'.ov x));by_cases e:x=c
   ·subst e;rw[iu];refine uj.congr λj _=> ?_;have T:y'.ov x 0=o 0:=by rw[Y];exact V 0 dX
    have Z:y'.ov x 1=o 1:=by rw[Y];exact V 1 dX
    unfold BS;rw[T,Z]
   ·rw[iq _ _ e];have hb:=h.rc g D x uQ;have U:∀d,y'.ov x d=y.ov x d:=λd=>by rw[Y];exact M x d (λe'=>e e'.1)
    intro j hj;have hr:x*7+j<c*7 \/c*7+7<=x*7+j:=by
     rcases Nat.lt_or_gt_of_ne e with Q|Q
     ·exact .inl dU
     ·exact .inr dU
    refine⟨(hcell _ hr).trans ?_,(QZ _).trans (hb.fz j hj)⟩;rw[hb.cell j hj];unfold BS;rw[U 0,U 1])
  (by
   intro x hx;obtain⟨g',e⟩:=h.gc x hx;exact⟨g',by rw[Y];exact e⟩)
  (by
   intro i hi;have:=(h.ib i hi).keep hs (λk e=>A (.ib i) k e (λe=>nomatch e) (λ_ _ e=>nomatch e));rw[Y];exact this)
  (by
   intro x d hx hd;show Row w' 1 (y'.ov x d) ((jK n.C c X x).on d).length (iH ((jK n.C c X x).on d));by_cases e:x=c
   ·subst e;have T:y'.ov x d=o d:=by rw[Y];exact V d hd
    rw[iu,T];exact TH d hd
   ·have T:y'.ov x d=y.ov x d:=by rw[Y];exact M x d (λe'=>e e'.1)
    rw[iq _ _ e,T];exact(h.ob x d hx hd).keep hs (λk Z=>A (.on x d) k Z (λe=>nomatch e) (λd' _ e'=>e (by injection e'))))
  (by
   intro x d hx hd;show((jK n.C c X x).on d).length<=2000;by_cases e:x=c
   ·subst e;rw[iu];exact V5 d hd
   ·rw[iq _ _ e];exact h.ol x d hx hd)
  (by
   intro x d hx hd;show((jK n.C c X x).e d).1<n.n/\((jK n.C c X x).e d).2<3;by_cases e:x=c
   ·subst e;rw[iu,zC];exact h.en x d hx hd
   ·rw[iq _ _ e];exact h.en x d hx hd)
  (by
   intro l l' k e e';rcases hat l k e with Z|⟨Z,d,hd,rfl,U⟩
   ·rcases hat l' k e' with u|⟨u,_⟩
    ·exact h.inj l l' k Z u
    ·have:=h.tL Z;omega
   ·rcases hat l' k e' with u|⟨u,d',j3,rfl,e4⟩
    ·have:=h.tL u;omega
    ·have:d=d':=by
      rcases Nat.lt_or_ge d 1 with Q|Q
      ·rcases Nat.lt_or_ge d' 1 with G|G
       ·omega
       ·obtain rfl:d=0:=dU;obtain rfl:d'=1:=dU;exact absurd e4 (jm k U)
      ·rcases Nat.lt_or_ge d' 1 with G|G
       ·obtain rfl:d=1:=dU;obtain rfl:d'=0:=dU;exact absurd U (jm k e4)
       ·omega
     rw[this])
  (by
   intro k e;have T:y.ext k:=by rw[Y]at e;exact e
   rintro⟨l,Z⟩;rcases hat l k Z with U|⟨U,_⟩
   ·exact h.nx k T ⟨l,U⟩
   ·have:=h.lt (.inr T);omega)
 refine⟨⟨y',H.1,by rw[Y];exact⟨rfl,rfl,rfl,rfl,rfl,rfl,rfl,rfl⟩,H.2,λk=>by rw[Y]⟩,⟨Ff,NI,KY,hs,λk uk hn=>hk k uk (λe=>hn (.inl ⟨.C,by rw[e];exact D⟩)) (λd _ e=>hn (.inl ⟨.on c d,e⟩))⟩⟩
theorem ju.box(h:ju w y n)(hi:i<n.n)(v:dT)(l:List yn)(hs:w.heap.size<=w'.heap.size)(Ff:w'.os=w.os)(NI:w'.tape=w.tape)(KY:w'.output=w.output)
 (G:∀k,k<w.heap.size->k≠y.gI->(y.iv i).ownBlock≠μ k->w'.heap[k]? =w.heap[k]?) (EV:pP w' y.gI 0 n.n (jK y.iv i v)) (Mb:Row w' 3 v l.length (qS l))
 (ji:∀k,v.ownBlock=μ k->(y.iv i).ownBlock=μ k \/w.heap.size<=k):iy w w' y {n with jZ:=jK n.jZ i l} n.n:=by
 obtain⟨X,Ba⟩:∃X:Yt,X={y with iv:=jK y.iv i v}:=⟨_,rfl⟩
 obtain⟨y',Y⟩:∃y':Yt,y'={y with iv:=jK y.iv i v,z:=λj=>(y.z j).plus (yV w w' X)}:=⟨_,rfl⟩
 have jv:∀k,y'.own k↔X.own k:=λk=>by
  rw[Y,Ba];constructor
  ·rintro⟨l,e⟩;exact⟨l,by cases l<;>exact e⟩
  ·rintro⟨l,e⟩;exact⟨l,by cases l<;>exact e⟩
 have hX:yV w w' X=yV w w' y':=by
  funext k
  apply propext;unfold yV;rw[<-jv k];have:X.ext=y'.ext:=by rw[Ba,Y]
  rw[this]
 have hat:∀l k,y'.at l=μ k->y.at l=μ k \/(w.heap.size<=k/\l=.ib i/\v.ownBlock=μ k):=by
  intro l k e;rw[Y]at e;cases l with
  |N=>exact .inl e
  |R=>exact .inl e
  |I=>exact .inl e
  |C=>exact .inl e
  |on x d=>exact .inl e
  |ib x=>
   have e':(jK y.iv i v x).ownBlock=μ k:=e;by_cases hx:x=i
   ·subst hx;rw[iu]at e';rcases ji k e' with Z|Z
    ·exact .inl Z
    ·exact .inr ⟨Z,rfl,e'⟩
   ·rw[iq _ _ hx]at e';exact .inl e'
 have ka:∀k,y'.own k->k<w'.heap.size:=by
  rintro k ⟨l,e⟩;rcases hat l k e with Z|⟨_,rfl,Z⟩
  ·exact Nat.lt_of_lt_of_le (h.tL Z) hs
  ·exact Mb.lt k Z
 have V:∀l k,y.at l=μ k->l≠ .I->l≠ .ib i->w'.heap[k]? =w.heap[k]? :=by
  intro l k e M h2;refine G k (h.tL e) (λZ=> ?_) (λZ=> ?_)
  ·exact h.vL e (show y.at .I=μ y.gI from rfl) M Z
  ·exact h2 (h.inj _ _ k e (show y.at (.ib i)=μ k from Z))
 have H:=h.owned (y':=y') (n':={n with jZ:=jK n.jZ i l}) hs (λk D M _=>G k D (λe=>M ⟨.I,by rw[e];rfl⟩) (λe=>M ⟨.ib i,e⟩)) (by rw[Y]) (by rw[<-hX,Y])
  (λk e=>e.elim (ka k) (λe=>by
   have e':y.ext k:=by rw[Y]at e;exact e
   exact Nat.lt_of_lt_of_le (h.lt (.inr e')) hs))
  (by
   rintro k ⟨l,e⟩;rcases hat l k e with Z|⟨Z,_⟩
   ·exact .inl ⟨l,Z⟩
   ·exact .inr Z) (λk e=>.inl (by rw[Y]at e;exact e)) rfl rfl rfl h.c9 (by rw[Y];exact h.nN.keep (V .N _ rfl (λe=>nomatch e) (λe=>nomatch e)))
  (by rw[Y];exact h.rr.keep (V .R _ rfl (λe=>nomatch e) (λe=>nomatch e))) (by rw[Y];exact EV)
  (by
   intro U u x hx;have A:y.gC=μ U:=by rw[Y]at u;exact u
   have:=(h.rc U A x hx).keep (V .C U A (λe=>nomatch e) (λe=>nomatch e));rw[Y];exact this)
  (by
   intro x hx;obtain⟨U,e⟩:=h.gc x hx;exact⟨U,by rw[Y];exact e⟩)
  (by
   intro x hx;show Row w' 3 (y'.iv x) (jK n.jZ i l x).length (qS (jK n.jZ i l x));have Q:y'.iv x=jK y.iv i v x:=by rw[Y]
   rw[Q];by_cases e:x=i
   ·subst e;rw[iu,iu];exact Mb
   ·rw[iq _ _ e,iq _ _ e];exact(h.ib x hx).keep hs (λk Z=>V (.ib x) k Z (λe=>nomatch e) (λe'=>e (by injection e'))))
  (by
   intro x d hx hd;have:=(h.ob x d hx hd).keep hs (λk Z=>V (.on x d) k Z (λe=>nomatch e) (λe=>nomatch e));rw[Y];exact this)
  h.ol h.en
  (by
   intro l l' k e e';rcases hat l k e with Z|⟨Z,rfl,J⟩
   ·rcases hat l' k e' with T|⟨T,_⟩
    ·exact h.inj l l' k Z T
    ·have:=h.tL Z;omega
   ·rcases hat l' k e' with T|⟨T,rfl,e4⟩
    ·have:=h.tL T;omega
    ·rfl)
  (by
   intro k e;have Q:y.ext k:=by rw[Y]at e;exact e
   rintro⟨l,Z⟩;rcases hat l k Z with J|⟨J,_⟩
   ·exact h.nx k Q ⟨l,J⟩
   ·have:=h.lt (.inr Q);omega)
 refine⟨⟨y',H.1,by rw[Y];exact⟨rfl,rfl,rfl,rfl,rfl,rfl,rfl,rfl⟩,H.2,λk=>by rw[Y]⟩,⟨Ff,NI,KY,hs,λk D hn=>G k D (λe=>hn (.inl ⟨.I,by rw[e];rfl⟩)) (λe=>hn (.inl ⟨.ib i,e⟩))⟩⟩
theorem ju.beside(h:ju w y n)(hs:w.heap.size<=w'.heap.size)(hk:∀k,k<w.heap.size->¬y.ext k->w'.heap[k]? =w.heap[k]?)(X:Nat->Prop)(D:∀k,X k->w.heap.size<=k/\k<w'.heap.size):
 ∃y',ju w' y' n/\y.same y'/\(∀k,y'.all n.n k↔y.all n.n k)/\∀k,y'.ext k↔y.ext k \/X k:=by
 obtain⟨V,Ba⟩:∃V:Yt,V={y with ext:=λk=>y.ext k \/X k}:=⟨_,rfl⟩
 obtain⟨y',Z⟩:∃y':Yt,y'={y with ext:=λk=>y.ext k \/X k,z:=λj=>(y.z j).plus (yV w w' V)}:=⟨_,rfl⟩
 have hat:∀l,y'.at l=y.at l:=by
  intro l;rw[Z];cases l<;>rfl
 have G:∀l,V.at l=y.at l:=by
  intro l;rw[Ba];cases l<;>rfl
 have U:∀k,y'.own k↔y.own k:=λk=>by unfold Yt.own;simp only[hat]
 have jv:∀k,V.own k↔y.own k:=λk=>by unfold Yt.own;simp only[G]
 have J:yV w w' V=yV w w' y':=by
  funext k
  apply propext;unfold yV;rw[U k,jv k];have:V.ext=y'.ext:=by rw[Ba,Z]
  rw[this]
 have T:∀l k,y.at l=μ k->w'.heap[k]? =w.heap[k]? :=λl k e=>hk k (h.tL e) (λY=>h.nx k Y ⟨l,e⟩);have M:∀k,y'.ext k↔y.ext k \/X k:=λk=>by rw[Z]
 have H:=h.owned (y':=y') (n':=n) hs (λk uk _ A=>hk k uk A) (by rw[Z]) (by rw[<-J,Z])
  (λk e=>by
   rcases e with e|e
   ·exact Nat.lt_of_lt_of_le (h.lt (.inl ((U k).1 e))) hs
   ·rcases(M k).1 e with e|e
    ·exact Nat.lt_of_lt_of_le (h.lt (.inr e)) hs
    ·exact(D k e).2)
  (λk e=>.inl ((U k).1 e)) (λk e=>((M k).1 e).imp_right (λe=>(D k e).1)) rfl rfl rfl h.c9 (by rw[Z];exact h.nN.keep (T .N _ rfl))
  (by rw[Z];exact h.rr.keep (T .R _ rfl)) (by rw[Z];exact h.ri.keep (T .I _ rfl))
  (by
   intro Q CI x hx;have u:y.gC=μ Q:=by rw[Z]at CI;exact CI
   have:=(h.rc Q u x hx).keep (T .C Q u);rw[Z];exact this)
  (by
   intro x hx;obtain⟨Q,e⟩:=h.gc x hx;exact⟨Q,by rw[Z];exact e⟩)
  (by
   intro x hx;have:=(h.ib x hx).keep hs (λk Y=>T (.ib x) k Y);rw[Z];exact this)
  (by
   intro x d hx hd;have:=(h.ob x d hx hd).keep hs (λk Y=>T (.on x d) k Y);rw[Z];exact this)
  h.ol h.en (λl l' k e e'=>h.inj l l' k ((hat l).symm.trans e) ((hat l').symm.trans e'))
  (by
   intro k e Y;rcases(M k).1 e with e|e
   ·exact h.nx k e ((U k).1 Y)
   ·have h1:=h.lt (.inl ((U k).1 Y));have A:=(D k e).1;omega)
 refine⟨y',H.1,by rw[Z];exact⟨rfl,rfl,rfl,rfl,rfl,rfl,rfl,rfl⟩,λk=> ?_,M⟩;unfold Yt.all;rw[U k];have:∀j,(y'.z j).oJ k↔(y.z j).oJ k:=λj=>by rw[Z];exact dP
 simp only[this]
theorem ju.below {w w':dR} {y:Yt} {n:iI} (h:ju w y n)(hb:eh w w'):ju w' y n:=by
 refine⟨h.n1,h.n6,h.c9,h.nN.below hb,h.rr.below h.n1 hb,h.ri.below h.n1 hb,λg X c hc=>(h.rc g X c hc).below dX hb,h.gc,?_,λi hi=>(h.rt i hi).below hb,h.rn,λi hi=>(h.ib i hi).below hb,λc d hc hd=>(h.ob c d hc hd).below hb,h.ol,h.en,h.inj,h.away,h.nx,h.nM,h.z0⟩;obtain⟨E,Y,Z⟩:=h.mp;exact⟨E,Y.keep (hb.block _ h.FX),Z⟩
theorem xk.iJ(y:Yt)(n:Nat)(h:eh w w'):xk w w' y n:=⟨h.os,h.tape,h.output,h.size,λk Z _=>h.block k Z⟩
theorem iy.still(h:ju w y n)(hb:eh w w'):iy w w' y n n.n:=⟨⟨y,h.below hb,y.FV,λ_ e=>.inl e,λ_=>dP⟩,xk.iJ y n.n hb⟩
theorem iy.below {c:dR} (h:iy a b y n m)(Y:n.n=m)(hb:eh b c):iy a c y n m:=by
 subst Y;exact h.step λy' Z _=>iy.still Z hb
section
variable {P:Program}
theorem BV {ops:Array Oper} {o:Oper} {a:Act} {K:Act->dR->Prop} {Q:Exit->Act->dR->Prop} {E:Prop}
 (D:o.guard=ν) (sl x:Operand) (t u:TypeId) (U:o.op=.call {callee:=.builtin .append,args:= #[sl,x],argTypes:= #[t,u] })
 (e:TypeId) (i:TypeInfo) (z:dT) (ht:P.underlying t=μ (.slice e)) (A:P.underlying u=μ .string) (hi:P.info? e=μ i) (j:i.zero=μ z) (V:i.size=1) (X:i.bytes=1) (T:z.cells.size=1)
 (v:dT) (n:Nat) (xs:List dT) (hs:a.eval sl=v) (J:Row w 1 v n xs) (s:ByteArray) (hx:a.eval x=.string s) (hsl:s.size<=1000000) (hn:n<=1000000000)
 (h:∀v' w',Row w' 1 v' (n+s.size) (xs++iH s.data.toList)->w.grownBy w' v.ownBlock->(v'.ownBlock=v.ownBlock \/ ∃k,v'.ownBlock=μ k/\w.heap.size<=k)->K (a.put o.dst v') w'):
 if eG o (yielded ops a.tmps)=true then Oper.wp P o a w K Q else E:=by
 have G:eG o (yielded ops a.tmps)=true:=by simp[eG,D]
 rw[ag G];obtain⟨v',w',Y,Z,H,M⟩:=vh (P:=P) w t u o.type e i z ht A hi j V X T v n xs J s hsl hn;unfold Oper.wp execOp;simp only[U,resolve,invoke,builtin,Sem.run_bind,Sem.run_pure,Result.andThen_ok,List.map_toArray,List.map_cons,List.map_nil,hs,hx,Y];exact h v' w' Z H M
end
theorem Row.shape {sz:Nat} {n:Nat} {xs:List dT} (h:Row w sz v n xs):∃a c,v=fX a n c:=by
 rcases h.2 with⟨e,Z⟩|⟨g',c',e,_⟩
 ·exact⟨ν,0,by rw[e,Z]⟩
 ·exact⟨_,_,e⟩
structure Rc(w w':dR)(g o d:Nat)(c:pT)(ov:Nat->dT)(v':dT):Prop where
 os:w'.os=w.os
 tape:w'.tape=w.tape
 output:w'.output=w.output
 size:w.heap.size<=w'.heap.size
 block:∀k,k<w.heap.size->k≠g->(ov d).ownBlock≠μ k->w'.heap[k]? =w.heap[k]?
 cell:∀j,j<o \/o+7<=j->w'.cell? ⟨g,j,ν⟩=w.cell? ⟨g,j,ν⟩
 fz:∀j,w'.frozen? ⟨g,j,ν⟩=w.frozen? ⟨g,j,ν⟩
 wC:pP w' g o 7 (BS c (jK ov d v'))
 row:Row w' 1 v' (c.on d).length (iH (c.on d))
 own:∀k,v'.ownBlock=μ k->(ov d).ownBlock=μ k \/w.heap.size<=k
theorem aaf(c:pT)(ov:Nat->dT)(d:Nat)(hd:d<2)(v:dT)(f:Nat->List UInt8):∀j,j<7->r9 (BS c ov) (5+d) v j=BS {c with on:=f} (jK ov d v) j:=by
 intro j hj;have U:d=0 \/d=1:=dU;rcases U with rfl|rfl
 ·by_cases e:j=5
  ·subst e;rfl
  ·rw[jz _ _ dU];unfold BS;simp only[e,if_false];rfl
 ·by_cases e:j=6
  ·subst e;rfl
  ·rw[jz _ _ dU];unfold BS;have e6:¬j=6:=e;by_cases Z:j=5
   ·subst Z;rfl
   ·have:j<5:=dU;simp only[Z,if_false];by_cases X:j=4
    ·simp[X]
    ·have:j<4:=dU;by_cases V:j=3
     ·simp[V]
     ·by_cases T:j=2
      ·simp[T]
      ·by_cases Y:j=1
       ·simp[Y]
       ·have:j=0:=dU;simp[this]
theorem Ms(c:pT)(ov:Nat->dT)(d:Nat)(hd:d<2):BS c ov (5+d)=ov d:=by
 have Z:d=0 \/d=1:=dU;rcases Z with rfl|rfl<;>rfl
theorem Rc.still {c:pT} (hC:pP w g o 7 (BS c ov))(Y:Row w 1 (ov d) (c.on d).length (iH (c.on d)))(hb:eh w w'):Rc w w' g o d c ov (ov d):=by
 have hl:=hC.lt dX;refine⟨hb.os,hb.tape,hb.output,hb.size,λk Z _ _=>hb.block k Z,λj _=>ai (a:=⟨g,j,ν⟩) (hb.block g hl),λj=>by simp only[gu,hb.block g hl],?_,Y.below hb,λk e=>.inl e⟩;rw[vG];exact hC.below dX hb
theorem Rc.turn {c:pT} (hd:d<2)(hC:pP w g o 7 (BS c ov))(U:(ov d).ownBlock≠μ g)(v:dT)(f:Nat->List UInt8)(os:x.os=w.os)(H:x.tape=w.tape)(ou:x.output=w.output)(hs:w.heap.size<=x.heap.size)
 (T:∀k,k<w.heap.size->(ov d).ownBlock≠μ k->x.heap[k]? =w.heap[k]?) (M:Row x 1 v (f d).length (iH (f d))) (V:∀k,v.ownBlock=μ k->(ov d).ownBlock=μ k \/w.heap.size<=k):
 Rc w (x.setCell ⟨g,o+5+d,ν⟩ v) g o d {c with on:=f} ov v:=by
 rw[Nat.add_assoc];have hl:=hC.lt dX;have Z:=T g hl U;have X:v.ownBlock≠μ g:=λe=>by
  rcases V g e with Y|Y
  ·exact U Y
  ·omega
 refine⟨os,H,ou,by simpa using hs,λk G J Q=>(aq _ _ _ k J).trans (T k G Q),λj hj=> ?_,λj=> ?_,?_,?_,V⟩
 ·rw[aU _ _ _ _ (λe=>by have:=congrArg Addr.off e;simp at this;omega)];exact ai (a:=⟨g,j,ν⟩) Z
 ·rw[lS];simp only[gu,Z]
 ·exact((hC.keep Z).set (5+d) dU v).congr (aaf c ov d hd v f)
 ·exact M.keep gO (λk e=>aq _ _ _ k (λY=>X (by rw[e,Y])))
theorem TI(g o d:Nat)(c:pT)(ov:Nat->dT)(s:ByteArray)(w:dR)(hd:d<2)(hC:pP w g o 7 (BS c ov))(U:Row w 1 (ov d) (c.on d).length (iH (c.on d)))(hg:(ov d).ownBlock≠μ g)(hl:(c.on d).length<=2000)(hs:s.size<=1000000000):
 eT eU 161 #[π (μ ⟨g,o,ν⟩),ι κ (d:Int),.string s] w λe w'=>e=ρ (τ #[])/\∃v',Rc w w' g o d (c.put d s.data.toList) ov v':=by
 obtain⟨i0,hi,od,mK,mL⟩:=aY Td;have hsl:s.data.toList.length=s.size:=gO;have c4:w.cell? ⟨g,o+4,ν⟩=μ (.bool c.iR):=hC.cell 4 dX;have G:w.cell? ⟨g,o+5+d,ν⟩=μ (ov d):=by rw[Nat.add_assoc,hC.cell (5+d) dU,Ms c ov d hd]
 have f5:w.frozen? ⟨g,o+5+d,ν⟩=false:=by rw[Nat.add_assoc];exact hC.fz (5+d) dU
 have gl:=hC.lt dX;have j3:(d:Int)<2:=dU;have hd0:(0:Int)<=(d:Int):=dU;have H:Hid _:=hC;have rZ:fh.wrap (((c.on d).length:Int)+(s.size:Int))=((c.on d).length:Int)+(s.size:Int):=aP _ ⟨dU,dU⟩;clear hC;cases Q:c.iR with
 |false=>
  have V:c.put d s.data.toList=c:=by unfold pT.put;rw[ae (by simp[Q])]
  rw[V];rw[Q]at c4;have A:Hid _:=U;clear U
  go_in
  go_wp2
  first|go_end0|refine iC rfl rfl ?_
  exact⟨rfl,_,Rc.still H.out A.out (au _ _)⟩
 |true=>
  rw[Q]at c4;obtain⟨v,hv⟩:=fW (ov d);obtain⟨n,T⟩:=fW ((c.on d).length);have D:Hid _:=hv;have HN:Hid _:=T;have J:=U;rw[hv]at G;rw[T]at rZ hl;rw[hv,T]at J;have A:Hid _:=U;have Wp:∃a' c',v=fX a' n c':=by
   rcases J.2 with⟨e,e2⟩|⟨g',c',e,_⟩
   ·exact⟨ν,0,by rw[e,e2]⟩
   ·exact⟨_,_,e⟩
  obtain⟨a',c',Z⟩:=Wp;rw[Z]at G J;by_cases VD:(n:Int)+(s.size:Int)<=2000
  ·have V:c.put d s.data.toList={c with on:=jK c.on d (c.on d++s.data.toList)}:=by
    unfold pT.put;rw[ag ⟨Q,dU⟩]
   have HE:Hid _:=V;have u:Hid (dV (σ a' n c')≠μ g):=by rw[<-Z,<-hv];exact hg
   have X:Hid _:=Z;clear U V hv T Z hg
   go_in
   go_wp2
   go_region_law ((refine BV (by rfl) (.tmp 30) (.tmp 31) 140 9 (by rfl) 5 i0 (.int .u8 0) Tryz.underlying140 Tryz.underlying9 hi od mK mL (by rfl) (σ a' n c') n (iH (c.on d)) (by rfl) (by exact J.drew) s (by rfl) dU dU ?_;intro v1 x1 kQ Y jv;obtain⟨h,c1,j⟩:=Row.shape kQ;subst j;have y5:=(ai (a:=⟨g,o+5+d,ν⟩) (Y.block g (by exact gl) (λe=>u.out e.symm))).trans G;have z5:=(aJ (a:=⟨g,o+5+d,ν⟩) (Y.block g (by exact gl) (λe=>u.out e.symm))).trans f5))
   all_goals
    go_wp2
    first|go_end0|refine iC rfl rfl ?_
    have kI:∀k,dV (σ h (n+s.size) c1)=μ k->(ov d).ownBlock=μ k \/w.heap.size<=k:=by
     intro k M;rw[D.out,X.out];rcases jv with e|⟨k',e,uk⟩
     ·exact .inl (by rw[<-e];exact M)
     ·rw[M]at e;obtain rfl:=Option.some.inj e;exact .inr uk
    refine⟨rfl,σ h (n+s.size) c1,?_⟩;rw[HE.out];refine Rc.turn hd H.out (by rw[D.out,X.out];exact u.out) (σ h (n+s.size) c1) _ Y.os Y.tape Y.output Y.size (λk M h1=>Y.block k M (λe=>h1 (by rw[D.out,X.out];exact e.symm))) ?_ kI;rw[iu,az,la,HN.out,hsl];exact kQ
  ·have V:c.put d s.data.toList=c:=by
    unfold pT.put;rw[ae (λe=>VD (by have:=e.2;omega))]
   rw[V];clear U V hv T Z
   go_in
   go_wp2
   first|go_end0|refine iC rfl rfl ?_
   exact⟨rfl,_,Rc.still H.out A.out (au _ _)⟩
theorem ju.k0(h:ju w y n):w.cell? ⟨y.N,0,ν⟩=μ (σ (μ ⟨y.gR,0,ν⟩) n.n y.sT):=h.nN.cell 0
theorem ju.k1(h:ju w y n):w.cell? ⟨y.N,1,ν⟩=μ (σ (μ ⟨y.gI,0,ν⟩) n.n y.xT):=h.nN.cell 1
theorem ju.k2(h:ju w y n):w.cell? ⟨y.N,2,ν⟩=μ (.map (μ y.bM)):=h.nN.cell 2
theorem ju.k3(h:ju w y n):w.cell? ⟨y.N,3,ν⟩=μ (y.cv n.nc):=h.nN.cell 3
theorem ju.wU(h:ju w y n):y.N<w.heap.size:=h.nN.lt
theorem ju.PD(h:ju w y n):y.gR<w.heap.size:=h.tL (l:=.R) rfl
theorem ju.aai(h:ju w y n):y.gI<w.heap.size:=h.tL (l:=.I) rfl
theorem ju.ptr(h:ju w y n)(hi:i<n.n):w.cell? ⟨y.gR,i,ν⟩=μ (π (μ ⟨(y.z i).R,0,ν⟩)):=by
 have:=h.rr.cell i hi
 rwa [Nat.zero_add]at this
theorem ju.WG(h:ju w y n)(hi:i<n.n):w.cell? ⟨y.gI,i,ν⟩=μ (y.iv i):=by
 have:=h.ri.cell i hi
 rwa [Nat.zero_add]at this
theorem ju.Yo(h:ju w y n):∃a cp,y.cv n.nc=σ a n.nc cp/\∀c,c<n.nc->∃g,y.gC=μ g/\a=μ ⟨g,0,ν⟩:=by
 unfold Yt.cv;cases X:y.gC with
 |none=>
  have Y:n.nc=0:=by
   rcases Nat.eq_zero_or_pos n.nc with e|e
   ·exact e
   ·obtain⟨g,Z⟩:=h.gc 0 e;rw[X]at Z;simp at Z
  exact⟨ν,0,by rw[Y],λc hc=>dU⟩
 |some g=>exact⟨_,_,rfl,λc hc=>⟨g,rfl,rfl⟩⟩
section
variable {w w':World} {y:Yt} {n:iI} {m:Nat}
theorem iy.k0(h:iy w w' y n m):w'.cell? ⟨y.N,0,ν⟩=μ (σ (μ ⟨y.gR,0,ν⟩) n.n y.sT):=by
 obtain⟨⟨y',Z,hs,_⟩,_⟩:=h;have:=Z.k0
 rwa [hs.N,hs.gR,hs.sT]at this
theorem iy.k3(h:iy w w' y n m):w'.cell? ⟨y.N,3,ν⟩=μ (y.cv n.nc):=by
 obtain⟨⟨y',Z,hs,_⟩,_⟩:=h;have:=Z.k3;have e:y'.cv n.nc=y.cv n.nc:=by unfold Yt.cv;rw[hs.gC,hs.vH]
 rwa [hs.N,e]at this
theorem iy.lt(h:iy w w' y n m):y.N<w'.heap.size:=af _ _ h.k0
theorem iy.ptr(h:iy w w' y n m) {i:Nat} (hi:i<n.n):∃R,w'.cell? ⟨y.gR,i,ν⟩=μ (π (μ ⟨R,0,ν⟩)):=by
 obtain⟨⟨y',Z,hs,_⟩,_⟩:=h;have:=Z.ptr hi;rw[hs.gR]at this;exact⟨_,this⟩
theorem iy.NR(h:iy w w' y n m)(hc:c<n.nc)(Y:y.gC=μ g):∃ov,pP w' g (c*7) 7 (BS (n.C c) ov):=by
 obtain⟨⟨y',Z,hs,_⟩,_⟩:=h;exact⟨_,Z.rc g (by rw[hs.gC];exact Y) c hc⟩
theorem iy.tab {n0:iI} (h:iy w w' y n m)(V:ju w y n0)(M:n0.n=m)(T:iV w):iV w':=λe s Q hs=>by
 subst M;refine(ai (a:=⟨0,e*10+s,ν⟩) (h.kept.block 0 T.lt (λJ=> ?_))).trans (T e s Q hs);rcases J with X|⟨j,U,X⟩
 ·exact V.z0 X
 ·have R:=V.rt j U;have h3:=(V.rn j U).1;rcases X with Y|Y|Y
  ·rcases Y with Z|Z|⟨i,hi,Z|Z⟩|Z
   ·exact R.sR.2.1 Z.symm
   ·exact(R.pt 0 R.n1).nz.1 Z.symm
   ·exact(R.pt i dU).nz.2.1 Z.symm
   ·exact(R.pt i dU).nz.2.2 Z
   ·exact R.Pq.1 Z
  ·exact R.Pq.2 0 (.inl Y) rfl
  ·exact R.Pq.2 0 (.inr Y) rfl
theorem iy.first {c:dR} (hb:eh a b)(k:iy b c y n' m):iy a c y n' m:=by
 obtain⟨⟨T,g1,X,V,U⟩,Z⟩:=k;exact⟨⟨T,g1,X,λx hx=>(V x hx).imp_right (λe=>Nat.le_trans hb.size e),U⟩,⟨Z.os.trans hb.os,Z.tape.trans hb.tape,Z.output.trans hb.output,Nat.le_trans hb.size Z.size,λx hx Y=>(Z.block x (Nat.lt_of_lt_of_le hx hb.size) Y).trans (hb.block x hx)⟩⟩
end
def Mt(i:Int)(n:Nat):Bool:=decide (1<=i)&&decide (i<=(n:Int))
theorem xX(i:Int)(n:Nat):(Mt i n=false/\(i<1 \/(n:Int)<i)) \/ ∃k:Nat,k<n/\i=(k:Int)+1:=by
 by_cases Z:1<=i
 ·by_cases Y:i<=(n:Int)
  ·exact .inr ⟨(i-1).toNat,dU,dU⟩
  ·exact .inl ⟨by simp[Mt,Y],dU⟩
 ·exact .inl ⟨by simp[Mt,Z],dU⟩
theorem yW {n:Nat} (h:i<n):Mt ((i:Int)+1) n=true:=by simp[Mt];omega
def Ht(i d:Int)(n:Nat):Bool:=hasB i n&& (decide (0<=d)&&decide (d<2))
theorem Mu(i d:Int)(n:Nat):(Ht i d n=false/\(i<0 \/(n:Int)<=i \/d<0 \/2<=d)) \/ ∃c k:Nat,c<n/\k<2/\i=(c:Int)/\d=(k:Int):=by
 by_cases Y:0<=i
 ·by_cases X:i<(n:Int)
  ·by_cases Z:0<=d
   ·by_cases V:d<2
    ·exact .inr ⟨i.toNat,d.toNat,dU,dU,dU,dU⟩
    ·exact .inl ⟨by simp[Ht,V],dU⟩
   ·exact .inl ⟨by simp[Ht,Z],dU⟩
  ·exact .inl ⟨by simp[Ht,hasB,X],dU⟩
 ·exact .inl ⟨by simp[Ht,hasB,Y],dU⟩
theorem JV {n:Nat} (h:c<n)(hd:d<2):Ht (c:Int) (d:Int) n=true:=by simp[Ht,hasB];omega
theorem qu(y:Yt)(n:iI)(i:Int)(w:dR)(h:ju w y n):
 eT eU 107 #[π (μ ⟨y.N,0,ν⟩),ι κ i] w λe w'=>e=ρ (.bool (Mt i n.n))/\w=w':=by
 have hl:=h.wU;have c1:=h.k0;unfold Mt;by_cases Z:1<=i
 ·by_cases Y:i<=(n.n:Int)
  ·have hv:(decide (1<=i)&&decide (i<=(n.n:Int)))=true:=by simp[Z,Y]
   rw[hv];clear hv h
   go_in
   go_wp2
   go_ret;exact⟨by first|rfl|(simp;omega),rfl⟩
  ·have hv:(decide (1<=i)&&decide (i<=(n.n:Int)))=false:=by simp[Y]
   rw[hv];clear hv h
   go_in
   go_wp2
   go_ret;exact⟨by first|rfl|(simp;omega),rfl⟩
 ·have hv:(decide (1<=i)&&decide (i<=(n.n:Int)))=false:=by simp[Z]
  rw[hv];clear hv h
  go_in
  go_wp2
  go_ret;exact⟨by first|rfl|(simp;omega),rfl⟩
theorem yX(y:Yt)(n:iI)(i:Int)(w:dR)(h:ju w y n):
 eT eU 112 #[π (μ ⟨y.N,0,ν⟩),ι κ i] w λe w'=>e=ρ (.bool (hasB i n.nc))/\w=w':=by
 have hl:=h.wU;have c1:=h.k3;obtain⟨a,cp,Z,_⟩:=h.Yo;rw[Z]at c1;unfold hasB;by_cases Y:0<=i
 ·by_cases X:i<(n.nc:Int)
  ·have hv:(decide (0<=i)&&decide (i<(n.nc:Int)))=true:=by simp[Y,X]
   rw[hv];clear hv h Z
   go_in
   go_wp2
   go_ret;exact⟨by first|rfl|(simp;omega),rfl⟩
  ·have hv:(decide (0<=i)&&decide (i<(n.nc:Int)))=false:=by simp[X]
   rw[hv];clear hv h Z
   go_in
   go_wp2
   go_ret;exact⟨by first|rfl|(simp;omega),rfl⟩
 ·have hv:(decide (0<=i)&&decide (i<(n.nc:Int)))=false:=by simp[Y]
  rw[hv];clear hv h Z
  go_in
  go_wp2
  go_ret;exact⟨by first|rfl|(simp;omega),rfl⟩
theorem DI(y:Yt)(n:iI)(i d:Int)(w:dR)(h:ju w y n):
 eT eU 108 #[π (μ ⟨y.N,0,ν⟩),ι κ i,ι κ d] w λe w'=>e=ρ (.bool (Ht i d n.nc))/\w=w':=by
 have hh:=yX y n i w h;unfold Ht;cases hb:hasB i n.nc with
 |false=>
  rw[hb]at hh;have hv:(false&& (decide (0<=d)&&decide (d<2)))=false:=rfl;rw[hv];clear hv h hb
  go_in
  go_wp2_with(fail);refine hh.mono ?_;rintro e w0 ⟨rfl,rfl⟩;clear hh
  go_wp2
  go_ret;exact⟨rfl,rfl⟩
 |true=>
  rw[hb]at hh;clear h hb;by_cases Z:0<=d
  ·by_cases Y:d<2
   ·have hv:(true&& (decide (0<=d)&&decide (d<2)))=true:=by simp[Z,Y]
    rw[hv];clear hv
    go_in
    go_wp2_with(fail);refine hh.mono ?_;rintro e w0 ⟨rfl,rfl⟩;clear hh
    go_wp2
    go_ret;exact⟨by first|rfl|(simp;omega),rfl⟩
   ·have hv:(true&& (decide (0<=d)&&decide (d<2)))=false:=by simp[Y]
    rw[hv];clear hv
    go_in
    go_wp2_with(fail);refine hh.mono ?_;rintro e w0 ⟨rfl,rfl⟩;clear hh
    go_wp2
    go_ret;exact⟨by first|rfl|(simp;omega),rfl⟩
  ·have hv:(true&& (decide (0<=d)&&decide (d<2)))=false:=by simp[Z]
   rw[hv];clear hv
   go_in
   go_wp2_with(fail);refine hh.mono ?_;rintro e w0 ⟨rfl,rfl⟩;clear hh
   go_wp2
   go_ret;exact⟨by first|rfl|(simp;omega),rfl⟩
theorem PE(d:Nat)(hd:d<2)(w:dR):eT eU 156 #[ι κ (d:Int)] w λe w'=>e=ρ (ι κ ((1-d:Nat):Int))/\w=w':=by
 have Z:((1-d:Nat):Int)=1-(d:Int):=dU;have hw:fh.wrap (1-(d:Int))=1-(d:Int):=aP _ ⟨dU,dU⟩;rw[Z]
 go_in
 go_wp2
 go_ret;exact⟨rfl,rfl⟩
theorem Mv(y:Yt)(n:iI)(i:Nat)(p:Int)(w:dR)(h:ju w y n)(hi:i<n.n):
 eT eU 157 #[π (μ ⟨y.N,0,ν⟩),.agg #[ι κ ((i:Int)+1),ι κ p]] w λe w'=>e=ρ (π (μ ⟨(y.z i).R,0,ν⟩))/\eh w w':=by
 have bm:=gN w (γ #[ι κ ((i:Int)+1),ι κ p] 192);have Y:jc (w.alloc (γ #[ι κ ((i:Int)+1),ι κ p] 192)) w.heap.size #[ι κ ((i:Int)+1),ι κ p] 192:=jc.new w _ _;have Z:=h.below bm;obtain⟨W0,X⟩:=fW (w.alloc (γ #[ι κ ((i:Int)+1),ι κ p] 192));obtain⟨N,V⟩:=fW (w.heap.size);rw[X]at Y Z bm;rw[V]at Y;have e0:W0.cell? ⟨N,0,ν⟩=μ (ι κ ((i:Int)+1)):=Y.cell 0;have el:=Y.lt;have c0:=Z.k0;have cl:=Z.wU;have d0:=Z.ptr hi;have dl:=Z.PD;have n6:=h.n6;have hw:fh.wrap ((i:Int)+1-1)=(i:Int):=by
  have:(i:Int)+1-1=i:=dU;rw[this];exact aP _ ⟨dU,dU⟩
 have kB:(i:Int)<(n.n:Int):=dU;have KU:(0:Int)<=(i:Int):=dU;have Q:Hid _:=bm;have T:Hid _:=X;have U:Hid _:=V;clear h Z Y X V bm
 go_in
 go_wp2_with(fail);rw[T.out]
 try rw[U.out]
 go_quiet(fail)
 go_wp2
 go_ret;exact⟨rfl,below_drewN Q.out _⟩
theorem xY(y:Yt)(n:iI)(i:Nat)(w:dR)(h:ju w y n)(hi:i<n.n):
 eT eU 40 #[π (μ ⟨y.N,0,ν⟩),ι κ ((i:Int)+1)] w λe w'=>e=ρ (τ #[π (μ ⟨(y.z i).R,0,ν⟩),η])/\w=w':=by
 have hh:=qu y n ((i:Int)+1) w h;rw[yW hi]at hh;have c0:=h.k0;have cl:=h.wU;have d0:=h.ptr hi;have dl:=h.PD;have n6:=h.n6;have hw:fh.wrap ((i:Int)+1-1)=(i:Int):=by
  have:(i:Int)+1-1=i:=dU;rw[this];exact aP _ ⟨dU,dU⟩
 have kB:(i:Int)<(n.n:Int):=dU;have KU:(0:Int)<=(i:Int):=dU;clear h
 go_in
 go_wp2_with(fail);refine hh.mono ?_;rintro e w1 ⟨rfl,rfl⟩;clear hh
 go_wp2
 go_ret2
 exact⟨rfl,rfl⟩
theorem ju.onc(h:ju w y n)(hc:c<n.nc)(hd:d<2)(Y:y.gC=μ g):∃a cp,y.ov c d=σ a ((n.C c).on d).length cp/\w.cell? ⟨g,c*7+5+d,ν⟩=μ (σ a ((n.C c).on d).length cp):=by
 have Z:=(h.rc g Y c hc).cell (5+d) dU;rw[Ms _ _ d hd,<-Nat.add_assoc]at Z;obtain⟨a,cp,e⟩:=Row.shape (h.ob c d hc hd);exact⟨a,cp,e,by rw[Z,e]⟩
theorem aaj(y:Yt)(n:iI)(c d:Nat)(w:dR)(h:ju w y n)(hc:c<n.nc)(hd:d<2):
 eT eU 41 #[π (μ ⟨y.N,0,ν⟩),ι κ (c:Int),ι κ (d:Int)] w λe w'=>e=ρ (τ #[ι κ (((n.C c).on d).length:Nat),η])/\w=w':=by
 have hh:=DI y n c d w h;rw[JV hc hd]at hh;have c3:=h.k3;obtain⟨a,cp,Y,X⟩:=h.Yo;obtain⟨g,Z,rfl⟩:=X c hc;rw[Y]at c3;have cl:=h.wU;obtain⟨a2,cp2,_,V⟩:=h.onc hc hd Z;have dl:=h.tL (l:=.C) Z;have c9:=h.c9;have jN:(c:Int)<(n.nc:Int):=dU;have qD:(0:Int)<=(c:Int):=dU;have j3:(d:Int)<2:=dU;have hd0:(0:Int)<=(d:Int):=dU;generalize ((n.C c).on d).length=L at V⊢;clear h Y X Z
 go_in
 go_wp2_with(fail);refine hh.mono ?_;rintro e w1 ⟨rfl,rfl⟩;clear hh
 go_wp2
 go_ret2
 exact⟨rfl,rfl⟩
