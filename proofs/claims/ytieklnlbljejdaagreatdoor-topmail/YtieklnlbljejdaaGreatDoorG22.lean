import Derived.Test.YtieklnlbljejdaaGreatDoorG21
open Go.Value renaming int → ι, slice → σ, pointer → π, tuple → τ, nilIface → η
open Go.IntKind renaming i64 → κ
open Go.Ending renaming returned → ρ
open Option renaming none → ν, some → μ
open Go renaming World → eB, Calls → fj
open Go.Proofs.Tryz renaming prog → fk
open Go.RowKit renaming intOf → ft
open ByteArray renaming ext → ie
set_option maxRecDepth 100000
set_option maxHeartbeats 2000000
namespace Go.Proofs.YtieklnlbljejdaaGreatDoor
open Go.RowKit St
namespace Rt
variable {B g i k o:Nat} {p:jF} {r:iY} {v:Value} {w w':World}
def jY(r:iY)(i:Nat)(c:UInt8)(s:List UInt8):iY:=if c=76 then r.jd i ((r.P i).packet s)else r
def mJ(r1:iY)(i:Nat)(c:UInt8)(s:List UInt8):iY:=
 if c=72 then(if(mG s).2.2=0 then r1.meet i (kf r1.id (mG s).1 (mG s).2.1)else r1)
 else if c=83 then jK r1 i s
 else if c=65 then kO r1 i s
 else if c=77 then qw r1 s
 else r1
theorem lF(r:iY)(i:Nat)(c:UInt8)(s:List UInt8):r.take i c s=if((jY r i c s).P i).L.st≠9 then(jY r i c s).meet i nobody else mJ (jY r i c s) i c s:=rfl
theorem Ss(T s:ByteArray)(c:UInt8)(z:Zt)(r:iY)(i k:Nat)(w:eB)(h:lW w z r)(hT:T=⟨#[c]⟩)(CG:jo w)(jb:lp r)(hf:Fit r k)(hk:k<=99999)(hi:i<r.n)(hs:s.size<=1000):
 fj fk 79 #[π (μ ⟨z.R,0,ν⟩),ι κ (i:Int),.string T,.string s] w λe w'=>e=ρ (τ #[])/\iU w w' z (r.take i c s.data.toList) r.n:=by
 have lO:(i:Int)<(r.n:Int):=eE;have NR:(0:Int)<=(i:Int):=eE;have c1:=h.c1;have cl:=h.lt;have gl:=h.G6;have HEq:=lF r i c s.data.toList;obtain⟨r1,kU⟩:=gH (jY r i c s.data.toList);rw[kU]at HEq;have mM:r1.n=r.n:=by rw[<-kU];unfold jY;split<;>rfl
 have kN:lp r1:=by
  rw[<-kU];unfold jY;split
  ·exact jb.jd i _ (tf _ _).1 (λhi=>by rw[(tf _ _).2];exact jb.pe i hi)
  ·exact jb
 have Um:Fit r1 (k+1):=by
  rw[<-kU];unfold jY;split
  ·exact hf.grow i _ (Nat.le_trans (CD _ _) eE)
  ·exact hf.mono (Nat.le_succ k)
 have uD:i<r1.n:=by rw[mM];exact hi
 have hop:Hid (∀W,iU w W z r1 r.n->fj fk 83 #[π (μ ⟨z.g,i*71,ν⟩)] W λe w'=>e=ρ (.bool ((r1.P i).L.st==9))/\W=w'):=by
  intro W hW;obtain⟨v,hv⟩:=hW.pt uD;exact w9 z.g (i*71) (z.B i) v (r1.P i) W hv
 have qN:Hid (c=76->fj fk 133 #[π (μ ⟨z.g,i*71,ν⟩),.string s] w λe w'=>e=ρ (τ #[])/\iU w w' z r1 r.n):=by
  intro e;refine(IK s z.g (i*71) (z.B i) (z.v i) (r.P i) w (h.pt i hi) CG hs (by have:=hf.out i hi;omega)).mono ?_;rintro e1 w1 ⟨rfl,hw⟩;refine⟨rfl,?_⟩;rw[<-kU];unfold jY;rw[ag e];exact h.port hi hw
 have Un:Hid (c≠76->iU w w z r1 r.n):=by
  intro e;rw[<-kU];unfold jY;rw[ae e];exact iU.refl h
 have Gd:Hid ((r1.P i).L.st≠9->∀W,iU w W z r1 r.n->fj fk 74 #[π (μ ⟨z.R,0,ν⟩),ι κ (i:Int),.agg #[ι κ 0,.bool false,ι κ 0]] W λe w'=>e=ρ (τ #[])/\iU w w' z (r.take i c s.data.toList) r.n):=by
  intro e W hW;rw[HEq,ag e];refine hW.call λz1 R1 hl=> ?_;rw[<-hl.R,<-mM];exact uV z1 r1 i nobody W R1 kN uD (nV.nobody kN.id.1)
 have Qe:Hid ((r1.P i).L.st=9->c=72->∀W,iU w W z r1 r.n->fj fk 134 #[π (μ ⟨z.R,0,ν⟩),ι κ (i:Int),.string s] W λe w'=>e=ρ (τ #[])/\iU w w' z (r.take i c s.data.toList) r.n):=by
  intro e e2 W hW;rw[HEq,ae (by simp[e])];unfold mJ;rw[ag e2];refine hW.call λz1 R1 hl=> ?_;rw[<-hl.R,<-mM];exact D5 s z1 r1 i W R1 kN uD
 have kD:Hid ((r1.P i).L.st=9->c=83->∀W,iU w W z r1 r.n->fj fk 135 #[π (μ ⟨z.R,0,ν⟩),ι κ (i:Int),.string s] W λe w'=>e=ρ (τ #[])/\iU w w' z (r.take i c s.data.toList) r.n):=by
  intro e e2 W hW;rw[HEq,ae (by simp[e])];unfold mJ;rw[ae (by rw[e2];decide),ag e2];refine hW.call λz1 R1 hl=> ?_;rw[<-hl.R,<-mM];exact D4 s z1 r1 i W R1 kN uD hs (by have:=Um.out i uD;omega)
 have Qf:Hid ((r1.P i).L.st=9->c=65->∀W,iU w W z r1 r.n->fj fk 136 #[π (μ ⟨z.R,0,ν⟩),ι κ (i:Int),.string s] W λe w'=>e=ρ (τ #[])/\iU w w' z (r.take i c s.data.toList) r.n):=by
  intro e e2 W hW;rw[HEq,ae (by simp[e])];unfold mJ;rw[ae (by rw[e2];decide),ae (by rw[e2];decide),ag e2];refine hW.call λz1 R1 hl=> ?_;rw[<-hl.R,<-mM];exact DZ s z1 r1 i W R1 uD hs
 have JQ:Hid ((r1.P i).L.st=9->c=77->∀W,iU w W z r1 r.n->fj fk 137 #[π (μ ⟨z.R,0,ν⟩),.string s] W λe w'=>e=ρ (τ #[])/\iU w w' z (r.take i c s.data.toList) r.n):=by
  intro e e2 W hW;rw[HEq,ae (by simp[e])];unfold mJ;rw[ae (by rw[e2];decide),ae (by rw[e2];decide),ae (by rw[e2];decide),ag e2];refine hW.call λz1 R1 hl=> ?_;rw[<-hl.R,<-mM];exact AU s z1 r1 (k+1) W R1 kN Um eE hs
 have mr:Hid ((r1.P i).L.st=9->c≠72->c≠83->c≠65->c≠77->∀W,iU w W z r1 r.n->iU w W z (r.take i c s.data.toList) r.n):=by
  intro e e1 e2 e3 e4 W hW;rw[HEq,ae (by simp[e])];unfold mJ;rw[ae e1,ae e2,ae e3,ae e4];exact hW
 have HT:Hid _:=hT;generalize (r1.P i).L.st=st at hop Gd Qe kD Qf JQ mr;obtain⟨Q,hQ⟩:∃Q:eB->Prop,(λx=>iU w x z (r.take i c s.data.toList) r.n)=Q:=⟨_,rfl⟩
 have hQ':∀x,iU w x z (r.take i c s.data.toList) r.n=Q x:=λx=>ch hQ x;simp only[hQ']at Gd Qe kD Qf JQ mr⊢;obtain⟨Q1,hQ1⟩:∃Q:eB->Prop,(λx=>iU w x z r1 r.n)=Q:=⟨_,rfl⟩
 have acn:∀x,iU w x z r1 r.n=Q1 x:=λx=>ch hQ1 x;simp only[acn]at hop qN Un Gd Qe kD Qf JQ mr;clear h jb hf kN Um uD mM kU HEq hQ hQ' hQ1 acn CG
 go_in
 cases q76:(c==76)with
 |true=>
  have wy:=qN.out (by simpa using q76);go_wp2_with(fail);refine wy.mono ?_;rintro e W3 ⟨rfl,wh⟩;clear wy;have xS:=hop.out _ wh;go_wp2_with(fail);refine xS.mono ?_;rintro e W4 ⟨rfl,rfl⟩;clear xS;cases q9:(st==9)with
  |false=>
   have EJ:=Gd.out (by simpa using q9) _ wh;clear Gd Qe kD Qf JQ mr qN Un hop;go_wp2_with(fail);refine EJ.mono ?_;rintro e W5 ⟨rfl,G8⟩;clear EJ
   go_wp2
   first|go_end0|refine aj (ar rfl _ _ _) rfl ?_
   exact⟨rfl,G8⟩
  |true=>
   have e9:st=9:=by simpa using q9
   have q72:(c==72)=false:=by rw[show c=76 by simpa using q76];rfl
   have q83:(c==83)=false:=by rw[show c=76 by simpa using q76];rfl
   have q65:(c==65)=false:=by rw[show c=76 by simpa using q76];rfl
   have q77:(c==77)=false:=by rw[show c=76 by simpa using q76];rfl
   have G8:=mr.out e9 (by simpa using q72) (by simpa using q83) (by simpa using q65) (by simpa using q77) _ wh;clear Gd Qe kD Qf JQ mr qN Un hop e9
   go_wp2
   first|go_end0|refine aj (ar rfl _ _ _) rfl ?_
   exact⟨rfl,G8⟩
 |false=>
  have wh:=Un.out (by simpa using q76);have xS:=hop.out _ wh;go_wp2_with(fail);refine xS.mono ?_;rintro e W4 ⟨rfl,rfl⟩;clear xS;cases q9:(st==9)with
  |false=>
   have EJ:=Gd.out (by simpa using q9) _ wh;clear Gd Qe kD Qf JQ mr qN Un hop;go_wp2_with(fail);refine EJ.mono ?_;rintro e W5 ⟨rfl,G8⟩;clear EJ
   go_wp2
   first|go_end0|refine aj (ar rfl _ _ _) rfl ?_
   exact⟨rfl,G8⟩
  |true=>
   have e9:st=9:=by simpa using q9
   cases q72:(c==72)with
   |true=>
    have EJ:=Qe.out e9 (by simpa using q72) _ wh;clear Gd Qe kD Qf JQ mr qN Un hop e9;go_wp2_with(fail);refine EJ.mono ?_;rintro e W5 ⟨rfl,G8⟩;clear EJ
    go_wp2
    first|go_end0|refine aj (ar rfl _ _ _) rfl ?_
    exact⟨rfl,G8⟩
   |false=>
    cases q83:(c==83)with
    |true=>
     have EJ:=kD.out e9 (by simpa using q83) _ wh;clear Gd Qe kD Qf JQ mr qN Un hop e9;go_wp2_with(fail);refine EJ.mono ?_;rintro e W5 ⟨rfl,G8⟩;clear EJ
     go_wp2
     first|go_end0|refine aj (ar rfl _ _ _) rfl ?_
     exact⟨rfl,G8⟩
    |false=>
     cases q65:(c==65)with
     |true=>
      have EJ:=Qf.out e9 (by simpa using q65) _ wh;clear Gd Qe kD Qf JQ mr qN Un hop e9;go_wp2_with(fail);refine EJ.mono ?_;rintro e W5 ⟨rfl,G8⟩;clear EJ
      go_wp2
      first|go_end0|refine aj (ar rfl _ _ _) rfl ?_
      exact⟨rfl,G8⟩
     |false=>
      cases q77:(c==77)with
      |true=>
       have EJ:=JQ.out e9 (by simpa using q77) _ wh;clear Gd Qe kD Qf JQ mr qN Un hop e9;go_wp2_with(fail);refine EJ.mono ?_;rintro e W5 ⟨rfl,G8⟩;clear EJ
       go_wp2
       first|go_end0|refine aj (ar rfl _ _ _) rfl ?_
       exact⟨rfl,G8⟩
      |false=>
       have G8:=mr.out e9 (by simpa using q72) (by simpa using q83) (by simpa using q65) (by simpa using q77) _ wh;clear Gd Qe kD Qf JQ mr qN Un hop e9
       go_wp2
       first|go_end0|refine aj (ar rfl _ _ _) rfl ?_
       exact⟨rfl,G8⟩
theorem Sv(l:List UInt8)(e d:Bool)(h:l.length<=62):(ng l e d).1.length<=62:=by
 unfold ng;split
 ·simp
 ·split
  ·simp
  ·split
   ·simp
   ·split
    ·simp;omega
    ·simp
theorem Sw(s:ku)(c:UInt8)(h:s.1.length<=62):(qQ s c).1.length<=62:=by
 obtain⟨l,e,d⟩:=s;unfold qQ;simp only at h⊢;split
 ·exact h
 ·split
  ·exact h
  ·split
   ·exact h
   ·simp;omega
theorem OO(a:List (List UInt8)×Nat×ku)(c:UInt8)(h:a.2.2.1.length<=62)(h2:∀t∈a.1,t.length<=62):(mB a c).2.2.1.length<=62/\∀t∈(mB a c).1,t.length<=62:=by
 have hr:(pB a.2.2.1 a.2.2.2.1 a.2.2.2.2 c).1.length<=62:=by
  unfold pB;split
  ·simp
  ·exact Sw _ c h
 have ht:(pC a.2.2.1 a.2.2.2.1 a.2.2.2.2 c).1.length<=62:=by
  unfold pC;split
  ·exact Sv _ _ _ h
  ·simp
 unfold mB;simp only;split
 ·exact⟨hr,h2⟩
 ·split
  ·refine⟨hr,λt Ue=> ?_⟩;rcases aD.1 Ue with h3|h3
   ·exact h2 t h3
   ·rw[az.1 h3];exact ht
  ·exact⟨hr,h2⟩
theorem EN:∀(l:List UInt8) (a:List (List UInt8)×Nat×ku),a.2.2.1.length<=62->(∀t∈a.1,t.length<=62)->∀t∈(l.foldl mB a).1,t.length<=62
 |[],_,_,h2=>h2
 |c::l,a,h1,h2=>by
  have:=OO a c h1 h2;exact EN l (mB a c) this.1 this.2
theorem Sx(st:ku)(l:List UInt8)(h:st.1.length<=62):∀t∈(kx st l).1,t.length<=62:=EN l ([],0,st) h (λt ht=>by simp at ht)
theorem VA(r:iY)(i:Nat)(c:UInt8)(s:List UInt8):(jY r i c s).n=r.n/\(jY r i c s).id=r.id:=by
 unfold jY;split<;>exact⟨rfl,rfl⟩
theorem VB(r:iY)(i:Nat)(c:UInt8)(s:List UInt8):(mJ r i c s).n=r.n/\(mJ r i c s).id=r.id:=by
 unfold mJ;split
 ·split
  ·exact⟨zi _ _ _,Bj _ _ _⟩
  ·exact⟨rfl,rfl⟩
 ·split
  ·exact Vy _ _ _
  ·split
   ·unfold kO;simp only;split<;>exact⟨rfl,rfl⟩
   ·split
    ·unfold qw;split
     ·exact Zb _ _
     ·exact⟨rfl,rfl⟩
    ·exact⟨rfl,rfl⟩
theorem Li(r:iY)(i:Nat)(c:UInt8)(s:List UInt8):(r.take i c s).n=r.n/\(r.take i c s).id=r.id:=by
 rw[lF];have h1:=VA r i c s;split
 ·exact⟨(zi _ _ _).trans h1.1,(Bj _ _ _).trans h1.2⟩
 ·have h2:=VB (jY r i c s) i c s;exact⟨h2.1.trans h1.1,h2.2.trans h1.2⟩
theorem lp.link(h:lp r)(i:Nat)(c:UInt8)(s:List UInt8):lp (jY r i c s):=by
 unfold jY;split
 ·exact h.jd i _ (tf _ _).1 (λhi=>by rw[(tf _ _).2];exact h.pe i hi)
 ·exact h
theorem Fit.link(h:Fit r k)(i:Nat)(c:UInt8)(s:List UInt8):Fit (jY r i c s) (k+1):=by
 unfold jY;split
 ·exact h.grow i _ (Nat.le_trans (CD _ _) eE)
 ·exact h.mono (Nat.le_succ k)
theorem CH {s:List UInt8} (hz:(mG s).2.2=0):1<=(mG s).1/\(mG s).1<=6:=by
 unfold mG at hz⊢;split at hz
 ·rename_i hc
  rw[ag hc];have:=hc.2;simp only[ur,Bool.and_eq_true,decide_eq_true_eq]at this;simp only;omega
 ·simp at hz
theorem lp.rest(h:lp r)(i:Nat)(c:UInt8)(s:List UInt8):lp (mJ r i c s):=by
 unfold mJ;split
 ·split
  ·rename_i hz
   exact h.meet i (nV.Vm h.id.1 (CH hz))
  ·exact h
 ·split
  ·exact h.state i s
  ·split
   ·unfold kO;simp only;split
    ·exact h.xe _
    ·exact h
   ·split
    ·unfold qw;split
     ·exact h.send _
     ·exact h
    ·exact h
theorem Fit.rest(h:Fit r k)(i:Nat)(c:UInt8)(s:List UInt8):Fit (mJ r i c s) (k+1):=by
 unfold mJ;split
 ·split
  ·exact(h.meet i _).mono (Nat.le_succ k)
  ·exact h.mono (Nat.le_succ k)
 ·split
  ·exact h.state i s
  ·split
   ·unfold kO;simp only;split
    ·exact Fit.mono (h.congr rfl rfl rfl rfl) (Nat.le_succ k)
    ·exact h.mono (Nat.le_succ k)
   ·split
    ·unfold qw;split
     ·exact h.send _
     ·exact h.mono (Nat.le_succ k)
    ·exact h.mono (Nat.le_succ k)
theorem lp.take {r:iY} (h:lp r)(i:Nat)(c:UInt8)(s:List UInt8):lp (r.take i c s):=by
 rw[lF];split
 ·exact(h.link i c s).meet i (nV.nobody (h.link i c s).id.1)
 ·exact(h.link i c s).rest i c s
theorem Fit.take {r:iY} {k:Nat} (h:Fit r k)(i:Nat)(c:UInt8)(s:List UInt8):Fit (r.take i c s) (k+2):=by
 rw[lF];split
 ·exact((h.link i c s).meet i _).mono eE
 ·exact(h.link i c s).rest i c s
def j7(r:iY)(i:Nat):List UInt8->iY
 |[] =>r
 |c::s=>r.take i c s
theorem CI:∀(l:List (List UInt8)) (r:iY) (i:Nat) (t:List UInt8),r.takes i (l++ [t])=j7 (r.takes i l) i t
 |[],r,i,t=>by cases t<;>rfl
 |x::l,r,i,t=>by
  show(match x with|[] =>r|c::s=>r.take i c s).takes i (l++ [t])=j7 ((match x with|[] =>r|c::s=>r.take i c s).takes i l) i t;exact CI l _ i t
theorem OP(h:lp r)(hf:Fit r k)(i:Nat)(t:List UInt8):(j7 r i t).n=r.n/\lp (j7 r i t)/\Fit (j7 r i t) (k+2):=by
 cases t with
 |nil=>exact⟨rfl,h,hf.mono eE⟩
 |cons c s=>exact⟨(Li r i c s).1,h.take i c s,hf.take i c s⟩
theorem zk:∀(l:List (List UInt8)) {r:iY} {k:Nat} (_:lp r) (_:Fit r k) (i:Nat),(r.takes i l).n=r.n/\lp (r.takes i l)/\Fit (r.takes i l) (k+2*l.length)
 |[],r,k,h,hf,i=>⟨rfl,h,hf⟩
 |x::l,r,k,h,hf,i=>by
  have h1:=OP h hf i x;have e:r.takes i (x::l)=(j7 r i x).takes i l:=by cases x<;>rfl
  have h2:=zk l h1.2.1 h1.2.2 i;rw[e];refine⟨h2.1.trans h1.1,h2.2.1,h2.2.2.mono (by simp;omega)⟩
theorem pR.rdC(h:pR w g o B v p):Rd w g (o+2) p.rd.1 p.rd.2.1 p.rd.2.2:=by
 obtain⟨F,hC,hF⟩:=h.vN;refine⟨F,(hC.sub 2 65 eH).congr (λj hj=> ?_),hF⟩;unfold vM;rw[ae eE,ae eE,ag eE,show 2+j-2=j by omega]
theorem pR.read(h:pR w g o B v p)(r:ku)(hr:Rd w' g (o+2) r.1 r.2.1 r.2.2)(hk:lb w w' g (o+2) 65):pR w' g o B v {p with rd:=r} /\nr w w' g o B v:=by
 obtain⟨F,hC,hF⟩:=h.vN;obtain⟨G,hG,hGF⟩:=hr;have hj:=pL.join (a:=2) (k:=65) hC hk hG;refine⟨⟨⟨G,hj.congr (λj hj=>RW p B v F G r j hj),hGF⟩,h.lk.keep (hk.block B h.lk.lt (λe=>h.gB e.symm)),h.ou.keep hk.size (λx hx=>hk.block x (h.ou.lt x hx) (λe=>h.vg (by rw[hx,e]))),h.few,h.ok,h.gB,h.vg,h.vB,h.nz⟩,⟨hk.os,hk.tape,hk.output,hk.size,λi hi h1 _ _=>hk.block i hi h1,λj hj=>hk.cell j eE,hk.fz⟩⟩
theorem lW.aco {z:Zt} (h:lW w z r)(hi:i<r.n)(hP:pR w' z.g (i*71) (z.B i) (z.v i) p)(hK:nr w w' z.g (i*71) (z.B i) (z.v i)):lW w' z (r.jd i p)/\x6 w w' z r.n:=by
 have YM:z.mine r.n z.g/\z.mine r.n (z.B i)/\∀k,(z.v i).ownBlock=μ k->z.mine r.n k:=⟨.inr (.inl rfl),.inr (.inr (.inl ⟨i,hi,.inl rfl⟩)),λk hk=>.inr (.inr (.inl ⟨i,hi,.inr hk⟩))⟩
 have DX:∀k,k<w.heap.size->¬z.mine r.n k->w'.heap[k]? =w.heap[k]? :=λk hk hm=>hK.block k hk (λe=>hm (by rw[e];exact YM.1)) (λe=>hm (by rw[e];exact YM.2.1)) (λe=>hm (YM.2.2 k e));have Cb:=h.bs.still hK.size (λj hj hn=>DX j hj (λe=>hn (h.no j e))) h.nb.1 h.nb.2.1 h.nb.2.2 z.fm.no (λj hj=>.inl hj) (λj hj=>Nat.lt_of_lt_of_le (h.bs.Oh j hj) hK.size);refine⟨⟨h.n1,h.n3,h.KW,h.id,?_,?_,?_,Cb,h.bl,h.no,h.nb,h.sR,h.sB,h.sV,h.sI,h.Ot⟩,⟨hK.os,hK.tape,hK.output,hK.size,λk hk hm _ _=>DX k hk hm⟩⟩
 ·exact h.nN.keep (hK.block z.R h.nN.lt h.sR.1 (λe=>(h.sR.2.2 i hi).1 e.symm) (h.sR.2.2 i hi).2)
 ·intro j hj;by_cases e:j=i
  ·subst e;show pR w' z.g (j*71) (z.B j) (z.v j) (k8 r.P j p j);rw[jz];exact hP
  ·show pR w' z.g (j*71) (z.B j) (z.v j) (k8 r.P i p j);rw[ju _ _ e];have xd:=h.pt j hj;obtain⟨F,hC,hF⟩:=xd.vN;have hs:=h.sB j i hj hi e;refine⟨⟨F,λx hx=>⟨(hK.cell (j*71+x) ?_).trans (hC.cell x hx),(hK.fz _).trans (hC.fz x hx)⟩,hF⟩,xd.lk.keep (hK.block (z.B j) xd.lk.lt (λe=>xd.gB e.symm) hs.1 (h.sV i j hi hj)),xd.ou.keep hK.size (λk hk=>hK.block k (xd.ou.lt k hk) (λe=>xd.vg (by rw[hk,e])) (λe=>h.sV j i hj hi (by rw[hk,e])) (hs.2 k hk)),xd.few,xd.ok,xd.gB,xd.vg,xd.vB,xd.nz⟩;rcases Nat.lt_or_gt_of_ne e with h1|h1
   ·exact .inl eE
   ·exact .inr eE
 ·exact h.ib.keep hK.size (λk hk=>hK.block k (h.ib.lt k hk) (h.sI k hk).2.1 ((h.sI k hk).2.2 i hi).1 ((h.sI k hk).2.2 i hi).2)
theorem VC(l:List (List UInt8))(j:Nat)(h:j<l.length):(strs l)[j]? =μ (.string ⟨l[j].toArray⟩):=by simp[strs,h]
theorem Sy(s:ByteArray)(z:Zt)(r:iY)(i k:Nat)(w:eB)(h:lW w z r)(CG:jo w)(jb:lp r)(hf:Fit r k)(hk:k+2*s.size<=99999)(hi:i<r.n):
 fj fk 23 #[π (μ ⟨z.R,0,ν⟩),ι κ (i:Int),.string s] w λe w'=>e=ρ η/\iU w w' z (r.recv i s.data.toList) r.n:=by
 have hh:=Cr z r i w h;rw[ya hi]at hh;have lO:(i:Int)<(r.n:Int):=eE;have NR:(0:Int)<=(i:Int):=eE;have c1:=h.c1;have cl:=h.lt;have gl:=h.G6;have hp:=h.pt i hi;obtain⟨A,hA⟩:=gH (kx (r.P i).rd s.data.toList);have hal:=Rh z.g (i*71+2) (r.P i).rd s w hp.rdC eE;rw[hA]at hal;have hAl:A.1.length<=s.size:=by
  have:=Be (r.P i).rd s.data.toList;rw[hA]at this;have e:s.data.toList.length=s.size:=iC;omega
 have hAt:Hid (∀t∈A.1,t.length<=62):=by
  show∀t∈A.1,_;rw[<-hA];obtain⟨F,_,hF⟩:=hp.vN;exact Sx _ _ hF.len
 obtain⟨r1,kU⟩:=gH (r.jd i {r.P i with rd:=A.2.2});have mM:r1.n=r.n:=by rw[<-kU];rfl
 have kN:lp r1:=by rw[<-kU];exact jb.jd i _ rfl (λhi=>jb.pe i hi)
 have Um:Fit r1 k:=by rw[<-kU];exact hf.jd i _ (λhi=>hf.out i hi)
 have hE:Hid (r.recv i s.data.toList=r1.takes i A.1):=by
  show _=_;unfold iY.recv;simp only[hA];rw[kU]
 have acq:fj fk 78 #[π (μ ⟨z.g,i*71+2,ν⟩),.string s] w λe w'=>∃v,e=ρ (τ #[v,ι κ (A.2.1:Int)])/\Row w' 1 v A.1.length (strs A.1)/\(∀k,v.ownBlock=μ k->w.heap.size<=k)/\lW w' z r1/\x6 w w' z r.n:=by
  refine hal.mono ?_;rintro e w1 ⟨v,rfl,h1,h2,_,h4,h5⟩;refine⟨v,rfl,h1,h2,?_⟩;rw[<-kU];have h6:=pR.read hp A.2.2 h4 h5;exact h.aco hi h6.1 h6.2
 have HR:Hid _:=h;have OQ:Hid _:=CG;clear h jb hf hp hal CG
 go_in
 go_wp2_with(fail);refine hh.mono ?_;rintro e w0 ⟨rfl,rfl⟩;clear hh;go_wp2_with(fail);refine acq.mono ?_;rintro e W1 ⟨v,rfl,ji,jw,R1,T7⟩;clear acq c1 cl gl;obtain⟨n,hn⟩:=gH (A.1.length);have Vi:∃a cp,v=σ a n cp:=by
  rcases ji.2 with⟨e,h0⟩|⟨g,c,e,_⟩
  ·exact⟨ν,0,by rw[e,<-hn,h0]⟩
  ·exact⟨_,c,by rw[e,hn]⟩
 obtain⟨a,cp,rfl⟩:=Vi;have Mr:∀j,Value.ownBlock (σ a n cp)=μ j->¬z.mine r.n j:=λj hj=>HR.out.sY (jw j hj);have acr:Hid (∀wr rr,iU W1 wr z rr r.n->jo wr):=by
  have h1:jo W1:=iU.tab (z:=z) (r:=r1) ⟨⟨z,R1,z.qX,λ_ e=>.inl e,λ_ e=>e⟩,T7⟩ HR.out rfl OQ.out;intro wr rr hw;exact hw.tab R1 mM h1
 have Sz:Hid (∀wr rr,iU W1 wr z rr r.n->∀j,(hj:j<A.1.length)->∃g,a=μ ⟨g,0,ν⟩/\wr.cell? ⟨g,j,ν⟩=μ (.string ⟨(A.1[j]).toArray⟩)):=by
  intro wr rr hw j hj;rcases ji.2 with⟨e,h0⟩|⟨g,c,e,_,_,_,hc,_⟩
  ·omega
  ·have ea:a=μ ⟨g,0,ν⟩:=(bH e).1;refine⟨g,ea,hw.cell R1 (p:=⟨g,j,ν⟩) (Mr g (by rw[ea];rfl)) (hc j _ (VC A.1 j hj))⟩
 have Zc:Hid (∀wr,iU W1 wr z (r1.takes i A.1) r.n->iU w wr z (r.recv i s.data.toList) r.n):=by
  intro wr hw;rw[hE.out];exact iU.pF (r:=r1) ⟨⟨z,R1,z.qX,λ_ e=>.inl e,λ_ e=>e⟩,T7⟩ R1 z.qX (λ_ e=>.inl e) (λ_ e=>e) hw
 have H0:Hid (iU W1 W1 z (r1.takes i (A.1.take 0)) r.n):=by
  show iU _ _ _ _ _;rw[<-mM];exact iU.refl R1
 have HN:Hid _:=hn;have AP:Hid _:=kN;have HF1:Hid _:=Um;clear ji jw R1 T7 Mr hE kN Um kU hA;have hns:n<=s.size:=eE
 go_wp2
 go_loopw [30] (λx wr=>∃q:Nat,q<=n/\x=ι κ q/\iU W1 wr z (r1.takes i (A.1.take q)) r.n) (λx _=>n-(ft x).toNat)
 case atStart=>exact⟨0,Nat.zero_le _,rfl,H0.out⟩
 case round=>
  obtain⟨q,hq,rfl,qS⟩:=hrel;by_cases kH:q<n
  ·have nG:(q:Int)<(n:Int):=eE;have hq0:(0:Int)<=(q:Int):=eE;have hqA:q<A.1.length:=by have:=HN.out;omega
   obtain⟨g,rfl,hcell⟩:=Sz.out _ _ qS q hqA;have Vk:=acr.out _ _ qS;have acu:=hAt.out _ (aE hqA);have P2:Hid (r1.takes i (A.1.take (q+1))=j7 (r1.takes i (A.1.take q)) i A.1[q]):=by
    show _=_;rw[ax hqA,CI]
   have oA:=zk (A.1.take q) AP.out HF1.out i;have hlq:(A.1.take q).length<=q:=cr _ _;have gl:=af _ _ hcell;generalize A.1[q] =tt at hcell acu P2;obtain⟨rq,hrq⟩:=gH (r1.takes i (A.1.take q));rw[hrq]at qS P2 oA;cases tt with
   |nil=>
    have HW:Hid (iU W1 wr z (r1.takes i (A.1.take (q+1))) r.n):=by
     show iU _ _ _ _ _;rw[P2.out];exact qS
    clear qS P2 oA hrq;obtain⟨TT,Uo⟩:∃TT:ByteArray,(⟨([] :List UInt8).toArray⟩:ByteArray)=TT:=⟨_,rfl⟩
    rw[Uo]at hcell;have jV:TT.toList.isEmpty=true:=by rw[<-Uo,cy];rfl
    clear Uo
    go_wp2
    go_roundw
    case rel=>exact⟨q+1,eE,by go_num,HW.out⟩
    case measure=>simp[ft];omega
   |cons c tl=>
    obtain⟨TT,Uo⟩:∃TT:ByteArray,(⟨(c::tl).toArray⟩:ByteArray)=TT:=⟨_,rfl⟩
    have qI:TT.size=tl.length+1:=by rw[<-Uo];simp[ByteArray.size]
    have hx0:TT.extract 0 1=⟨#[c]⟩:=by
     rw[<-Uo];apply ie;apply db.1;rw[uN];simp
    have hx1:TT.extract 1 TT.size=⟨tl.toArray⟩:=by
     apply ie;apply db.1;rw[uN,qI,<-Uo];simp
    have htl:TT.toList=c::tl:=by rw[cy,<-Uo]
    have jV:TT.toList.isEmpty=false:=by rw[htl];rfl
    rw[Uo]at hcell;have g1:(1:Int)<=(TT.size:Int):=eE;have g0:(0:Int)<=(TT.size:Int):=eE;have Up:i<rq.n:=by rw[oA.1,mM];exact hi
    have yf:fj fk 79 #[π (μ ⟨z.R,0,ν⟩),ι κ (i:Int),.string ⟨#[c]⟩,.string ⟨tl.toArray⟩] wr.drew λe w'=>e=ρ (τ #[])/\iU W1 w' z (r1.takes i (A.1.take (q+1))) r.n:=by
     rw[P2.out];have Bk:=qS.below (by rw[oA.1];exact mM) (jk wr);refine Bk.call λz1 Rz hl=> ?_;have hlen:(⟨tl.toArray⟩:ByteArray).size<=1000:=by
      show tl.toArray.size<=1000;simp at acu⊢;omega
     have:=Ss ⟨#[c]⟩ ⟨tl.toArray⟩ c z1 rq i (k+2*(A.1.take q).length) wr.drew Rz rfl Vk oA.2.1 oA.2.2 eE Up hlen;rw[hl.R,oA.1,mM]at this;have e1:(⟨tl.toArray⟩:ByteArray).data.toList=tl:=iC;rw[e1]at this;exact this
    have g1n:1<=TT.size:=eE;clear qS P2 oA hrq Uo Vk htl qI
    go_wp2
    go_region_held3(λ_=>True)
     (first|trivial)
     (first
      |(go_at_call 79;refine yf.mono ?_;rintro e w6 ⟨rfl,Oz⟩))
    all_goals
     have HW6:Hid _:=Oz;clear yf Oz
     go_wp2
     go_roundw
     case rel=>exact⟨q+1,eE,by go_num,HW6.out⟩
     case measure=>simp[ft];omega
  ·have yG:¬(q:Int)<(n:Int):=eE;have HW:Hid (iU w wr z (r.recv i s.data.toList) r.n):=by
    show iU _ _ _ _ _;refine Zc.out _ ?_;have e1:A.1.take q=A.1:=aK (by have:=HN.out;omega);rw[e1]at qS;exact qS
   clear qS
   go_wp2
   go_ret;exact⟨rfl,HW.out⟩
theorem OT(q:ln)(w:eB)(h:0<=q.left/\q.left<=4):fj fk 84 #[.agg #[.int .i64 q.who,.bool q.both,.int .i64 q.left]] w λe w'=>
 e=ρ (.agg #[.int .i64 (jg q).who,.bool (jg q).both,.int .i64 (jg q).left])/\eN w w':=by
 have h1:=Go.Proofs.YtieklnlbljejdaaGreatDoor.RF q.who q.left q.both w h.1 eE;have e:Go.Proofs.YtieklnlbljejdaaGreatDoor.jx (q.who,q.both,q.left)=((jg q).who,(jg q).both,(jg q).left):=by
  unfold Go.Proofs.YtieklnlbljejdaaGreatDoor.jx jg;by_cases hl:q.left<=1
  ·simp[hl,nobody]
  ·simp[hl]
 rw[e]at h1;exact h1
theorem rC(p:jF):p.tick.m=p.m/\p.tick.pe=p.pe/\p.tick.out.length<=p.out.length+1512:=by
 unfold jF.tick;have h1:=ve (j3 p.L).2 {p with L:=(j3 p.L).1};have h2:=xZ (j3 p.L).2 {p with L:=(j3 p.L).1};have h3:=ED p.L;refine⟨h1.1,h1.2,?_⟩;have h4:({p with L:=(j3 p.L).1}:jF).out.length=p.out.length:=rfl;omega
theorem CJ:∀(l:List (Int×PS)) (p:jF),(p.kA l).m=p.m/\(p.kA l).pe=p.pe
 |[],_=>⟨rfl,rfl⟩
 |x::l,p=>by
  have h:=CJ l (p.put 83 (sj x.1 x.2.1 x.2.2));exact⟨h.1.trans (EM _ _ _),h.2.trans (qG _ _ _)⟩
theorem EO(F:Int->Option PS):(mN F).length<=6:=by
 unfold mN;have:=List.length_filterMap_le (λ(j:Nat)=>(F ((j:Int)+1)).map λq=>((j:Int)+1,q)) (List.range 6);simpa using this
theorem lp.tell(h:lp r)(i:Nat):lp (lE r i):=by
 unfold lE;simp only;refine h.jd i _ ?_ (λhi=> ?_)
 ·split
  ·exact(CJ _ _).1.trans (EM _ _ _)
  ·exact EM _ _ _
 ·have hp:=h.pe i hi;split
  ·rw[(CJ _ _).2,qG];exact hp
  ·rw[qG];exact hp
theorem Fit.tell(h:Fit r k)(i:Nat):Fit (lE r i) (k+1):=by
 unfold lE;simp only;have h1:=vO (r.P i) 72 [j8 r.id,j8 (r.P i).pe.who];refine h.grow i _ ?_;split
 ·have h2:=xm (mN (r.O i)) ((r.P i).put 72 [j8 r.id,j8 (r.P i).pe.who]);have h3:=EO (r.O i);omega
 ·omega
def jn(r:iY)(i:Nat):iY:=r.jd i (r.P i).tick
theorem k9(r:iY)(i:Nat):r.jx i=if((jn r i).P i).L.st≠9 then(jn r i).meet i nobody else lE ((jn r i).meet i (jg ((jn r i).P i).pe)) i:=rfl
theorem lp.jn {r:iY} (h:lp r)(i:Nat):lp (Rt.jn r i):=h.jd i _ (rC _).1 (λhi=>by rw[(rC _).2.1];exact h.pe i hi)
theorem Fit.jn {r:iY} {k:Nat} (h:Fit r k)(i:Nat):Fit (Rt.jn r i) (k+1):=h.grow i _ (Nat.le_trans (rC _).2.2 eE)
theorem OU(h:lp r)(hf:Fit r k)(hi:i<r.n):(r.jx i).n=r.n/\lp (r.jx i)/\Fit (r.jx i) (k+2):=by
 rw[k9];have h1:=h.jn i;have f1:=hf.jn i;split
 ·exact⟨zi _ _ _,h1.meet i (nV.nobody h1.id.1),(f1.meet i _).mono eE⟩
 ·have hq:=(h1.pe i hi).tick h1.id.1;exact⟨zi _ _ _,(h1.meet i hq).tell i,(f1.meet i _).tell i⟩
theorem zm {r:iY} {k:Nat} (h:lp r)(hf:Fit r k):∀q,q<=r.n->(r.jB q).n=r.n/\lp (r.jB q)/\Fit (r.jB q) (k+2*q)
 |0,_=>⟨rfl,h,hf⟩
 |q+1,hq=>by
  have ih:=zm h hf q eE;have:=OU (i:=q) ih.2.1 ih.2.2 (by rw[ih.1];omega);exact⟨this.1.trans ih.1,this.2.1,this.2.2.mono eE⟩
theorem OV(z:Zt)(r:iY)(k:Nat)(w:eB)(h:lW w z r)(CG:jo w)(jb:lp r)(hf:Fit r k)(hk:k<=90000):
 fj fk 25 #[π (μ ⟨z.R,0,ν⟩)] w λe w'=>e=ρ (τ #[])/\iU w w' z r.tick r.n:=by
 have c1:=h.c1;have cl:=h.lt;have wF:=h.n3;obtain⟨n,hn⟩:=gH (r.n);have H0:Hid (iU w w z (r.jB 0) r.n):=iU.refl h;have OQ:Hid (∀wr rr,iU w wr z rr r.n->jo wr):=λwr rr hw=>hw.tab h rfl CG;have acv:Hid (∀q,q<=r.n->(r.jB q).n=r.n/\lp (r.jB q)/\Fit (r.jB q) (k+2*q)):=zm jb hf;have Gi:Hid (r.tick=r.jB r.n):=rfl;rw[hn]at c1 wF H0 OQ acv Gi⊢;clear h jb hf CG
 go_in
 go_wp2
 go_loopw [8] (λx wr=>∃q:Nat,q<=n/\x=ι κ q/\iU w wr z (r.jB q) n) (λx _=>n-(ft x).toNat)
 case atStart=>exact⟨0,Nat.zero_le _,rfl,H0.out⟩
 case round=>
  obtain⟨q,hq,rfl,qS⟩:=hrel;by_cases kH:q<n
  ·have nG:(q:Int)<(n:Int):=eE;have hq0:(0:Int)<=(q:Int):=eE;obtain⟨a1,a2,a3⟩:=acv.out q eE;have hT:=OQ.out _ _ qS;have d1:=qS.c1;have dl:=qS.lt;rw[a1]at d1;have HS:Hid (r.jB (q+1)=(r.jB q).jx q):=rfl;obtain⟨rq,hrq⟩:=gH (r.jB q);rw[hrq]at qS HS a1 a2 a3;have Up:q<rq.n:=eE;have yf:fj fk 82 #[π (μ ⟨z.g,q*71,ν⟩)] wr λe w'=>e=ρ (τ #[])/\iU w w' z (jn rq q) n:=by
    refine qS.call λz1 R1 hl=> ?_;rw[<-hl.g];refine(Oo z1.g (q*71) (z1.B q) (z1.v q) (rq.P q) wr (R1.pt q Up) hT (by have:=a3.out q Up;omega)).mono ?_;rintro e w1 ⟨rfl,hw⟩;have:=R1.port Up hw;rw[a1]at this;exact⟨rfl,this⟩
   have kN:=a2.jn q;have Um:=a3.jn q;have ML:(jn rq q).n=n:=a1;obtain⟨r1,kU⟩:=gH (jn rq q);have HE:Hid (rq.jx q=if(r1.P q).L.st≠9 then r1.meet q nobody else lE (r1.meet q (jg (r1.P q).pe)) q):=by
    show _=_;rw[<-kU];exact k9 rq q
   rw[kU]at yf kN Um ML;have AP:Hid _:=kN;have HF1:Hid _:=Um;clear hrq a2 a3 qS hT kU kN Um;go_wp2_with(fail);refine yf.mono ?_;rintro e W1 ⟨rfl,ke⟩;have uD:q<r1.n:=eE;obtain⟨v1,YZ⟩:=ke.pt uD;have hop:=w9 z.g (q*71) (z.B q) v1 (r1.P q) W1 YZ;have e1:=ke.c1;have el:=ke.lt;have gl:=ke.G6;rw[ML]at e1;have g7:=YZ.c67;have g8:=YZ.Xa;have g9:=YZ.c69;clear yf YZ d1 dl;go_wp2_with(fail);refine hop.mono ?_;rintro e W2 ⟨rfl,rfl⟩;clear hop;cases q9:((r1.P q).L.st==9)with
   |false=>
    have jV:(r1.P q).L.st≠9:=by simpa using q9
    have hm:fj fk 74 #[π (μ ⟨z.R,0,ν⟩),ι κ (q:Int),.agg #[ι κ 0,.bool false,ι κ 0]] W1 λe w'=>e=ρ (τ #[])/\iU w w' z (r.jB (q+1)) n:=by
     rw[HS.out,HE.out,ag jV];refine ke.call λz1 R1 hl=> ?_;rw[<-hl.R,<-ML];exact uV z1 r1 q nobody W1 R1 AP.out uD (nV.nobody AP.out.id.1)
    clear ke jV;go_wp2_with(fail);refine hm.mono ?_;rintro e W3 ⟨rfl,wh⟩;have HW3:Hid _:=wh;clear hm wh
    go_wp2
    go_roundw
    case rel=>exact⟨q+1,eE,by go_num,HW3.out⟩
    case measure=>simp[ft];omega
   |true=>
    have h9:(r1.P q).L.st=9:=by simpa using q9
    have HE2:Hid (r.jB (q+1)=lE (r1.meet q (jg (r1.P q).pe)) q):=by
     show _=_;rw[HS.out,HE.out,ae (by simp[h9])]
    have Zd:=AP.out.pe q uD;have JX:=OT (r1.P q).pe W1 Zd.left;have R6:Hid (∀W,eN W1 W->fj fk 74 #[π (μ ⟨z.R,0,ν⟩),.int .i64 (q:Int),.agg #[.int .i64 (jg (r1.P q).pe).who,.bool (jg (r1.P q).pe).both,.int .i64 (jg (r1.P q).pe).left]] W λe w'=>e=ρ (τ #[])/\iU w w' z (r1.meet q (jg (r1.P q).pe)) n):=by
     intro W hW;refine(ke.below ML hW).call λz1 R1 hl=> ?_;rw[<-hl.R,<-ML];exact uV z1 r1 q _ W R1 AP.out uD (Zd.tick AP.out.id.1)
    have hte:Hid (∀W,iU w W z (r1.meet q (jg (r1.P q).pe)) n->fj fk 85 #[π (μ ⟨z.R,0,ν⟩),ι κ (q:Int)] W λe w'=>e=ρ (τ #[])/\iU w w' z (r.jB (q+1)) n):=by
     intro W hW;rw[HE2.out];refine hW.call λz1 R1 hl=> ?_;have xF:(r1.meet q (jg (r1.P q).pe)).n=n:=(zi _ _ _).trans ML;rw[<-hl.R,<-xF];have YW:=AP.out.meet q (Zd.tick AP.out.id.1);exact Si z1 _ q W R1 YW eE (by have:=(HF1.out.meet q (jg (r1.P q).pe)).out q eE;omega)
    generalize (r1.P q).pe.who=p1 at g7 JX;generalize (r1.P q).pe.both=p2 at g8 JX;generalize (r1.P q).pe.left=p3 at g9 JX;generalize (jg (r1.P q).pe).who=t1 at JX R6;generalize (jg (r1.P q).pe).both=t2 at JX R6;generalize (jg (r1.P q).pe).left=t3 at JX R6;clear ke h9 Zd HE2;go_wp2_with(fail);refine JX.mono ?_;rintro e W2 ⟨rfl,b2⟩;have yH:=R6.out _ b2;clear JX R6;go_wp2_with(fail);refine yH.mono ?_;rintro e W3 ⟨rfl,wh⟩;have ht3:=hte.out _ wh;clear yH hte wh;go_wp2_with(fail);refine ht3.mono ?_;rintro e W4 ⟨rfl,tR⟩;have I0:Hid _:=tR;clear ht3 tR
    go_wp2
    go_roundw
    case rel=>exact⟨q+1,eE,by go_num,I0.out⟩
    case measure=>simp[ft];omega
  ·have yG:¬(q:Int)<(n:Int):=eE;have hqn:q=n:=eE;have HW:Hid (iU w wr z r.tick n):=by
    show iU _ _ _ _ _;rw[Gi.out,<-hqn];rw[<-hqn]at qS;exact qS
   clear qS hqn
   go_wp2
   first|go_end0|refine aj (ar rfl _ _ _) rfl ?_
   exact⟨rfl,HW.out⟩
end Rt
end Go.Proofs.YtieklnlbljejdaaGreatDoor
