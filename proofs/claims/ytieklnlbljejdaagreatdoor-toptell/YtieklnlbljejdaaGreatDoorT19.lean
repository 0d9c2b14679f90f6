import Derived.Test.YtieklnlbljejdaaGreatDoorT18
open Go.Value renaming int → ι, slice → σ, pointer → π, tuple → τ, nilIface → η
open Go.IntKind renaming i64 → κ
open Go.Ending renaming returned → ρ
open Option renaming none → ν, some → μ
open Go renaming World → dN, Calls → eM
open Go.Proofs.Tryz renaming prog → eN
open Go.Value renaming ownBlock → dQ
open Go.RowKit renaming intOf → eP
open ByteArray renaming ext → gw
set_option maxRecDepth 100000
set_option maxHeartbeats 2000000
namespace Go.Proofs.YtieklnlbljejdaaGreatDoor
open Go.RowKit St
namespace Rt
variable {B g i k o:Nat} {p:jb} {r:iy} {v:Value} {w w':World}
def jH(r:iy)(i:Nat)(c:UInt8)(s:List UInt8):iy:=if c=76 then r.iE i ((r.P i).packet s)else r
def l9(r1:iy)(i:Nat)(c:UInt8)(s:List UInt8):iy:=
 if c=72 then(if(lL s).2.2=0 then r1.meet i (jP r1.id (lL s).1 (lL s).2.1)else r1)
 else if c=83 then ji r1 i s
 else if c=65 then ku r1 i s
 else if c=77 then qj r1 s
 else r1
theorem lK(r:iy)(i:Nat)(c:UInt8)(s:List UInt8):r.take i c s=if((jH r i c s).P i).L.st≠9 then(jH r i c s).meet i nobody else l9 (jH r i c s) i c s:=rfl
theorem Rj(T s:ByteArray)(c:UInt8)(z:Zt)(r:iy)(i k:Nat)(w:dN)(h:k8 w z r)(hT:T=⟨#[c]⟩)(BU:iQ w)(iC:kE r)(hf:Fit r k)(hk:k<=99999)(hi:i<r.n)(hs:s.size<=1000):
 eM eN 79 #[π (μ ⟨z.R,0,ν⟩),ι κ (i:Int),.string T,.string s] w λe w'=>e=ρ (τ #[])/\ig w w' z (r.take i c s.data.toList) r.n:=by
 have kV:(i:Int)<(r.n:Int):=dP;have Jv:(0:Int)<=(i:Int):=dP;have c1:=h.c1;have cl:=h.lt;have gl:=h.DK;have HEq:=lK r i c s.data.toList;obtain⟨r1,kD⟩:=fP (jH r i c s.data.toList);rw[kD]at HEq;have lT:r1.n=r.n:=by rw[<-kD];unfold jH;split<;>rfl
 have kC:kE r1:=by
  rw[<-kD];unfold jH;split
  ·exact iC.iE i _ (rZ _ _).1 (λhi=>by rw[(rZ _ _).2];exact iC.pe i hi)
  ·exact iC
 have S7:Fit r1 (k+1):=by
  rw[<-kD];unfold jH;split
  ·exact hf.grow i _ (Nat.le_trans (BQ _ _) dP)
  ·exact hf.mono (Nat.le_succ k)
 have tO:i<r1.n:=by rw[lT];exact hi
 have hop:Hid (∀W,ig w W z r1 r.n->eM eN 83 #[π (μ ⟨z.g,i*71,ν⟩)] W λe w'=>e=ρ (.bool ((r1.P i).L.st==9))/\W=w'):=by
  intro W S;obtain⟨v,hv⟩:=S.pt tO;exact wk z.g (i*71) (z.B i) v (r1.P i) W hv
 have y:Hid (c=76->eM eN 133 #[π (μ ⟨z.g,i*71,ν⟩),.string s] w λe w'=>e=ρ (τ #[])/\ig w w' z r1 r.n):=by
  intro e;refine(Hf s z.g (i*71) (z.B i) (z.v i) (r.P i) w (h.pt i hi) BU hs (by have:=hf.out i hi;omega)).mono ?_;rintro e1 w1 ⟨rfl,hw⟩;refine⟨rfl,?_⟩;rw[<-kD];unfold jH;rw[ag e];exact h.port hi hw
 have A:Hid (c≠76->ig w w z r1 r.n):=by
  intro e;rw[<-kD];unfold jH;rw[ae e];exact ig.refl h
 have V:Hid ((r1.P i).L.st≠9->∀W,ig w W z r1 r.n->eM eN 74 #[π (μ ⟨z.R,0,ν⟩),ι κ (i:Int),.agg #[ι κ 0,.bool false,ι κ 0]] W λe w'=>e=ρ (τ #[])/\ig w w' z (r.take i c s.data.toList) r.n):=by
  intro e W S;rw[HEq,ag e];refine S.call λz1 u hl=> ?_;rw[<-hl.R,<-lT];exact um z1 r1 i nobody W u kC tO (nr.nobody kC.id.1)
 have H:Hid ((r1.P i).L.st=9->c=72->∀W,ig w W z r1 r.n->eM eN 134 #[π (μ ⟨z.R,0,ν⟩),ι κ (i:Int),.string s] W λe w'=>e=ρ (τ #[])/\ig w w' z (r.take i c s.data.toList) r.n):=by
  intro e X W S;rw[HEq,ae (by simp[e])];unfold l9;rw[ag X];refine S.call λz1 u hl=> ?_;rw[<-hl.R,<-lT];exact Dc s z1 r1 i W u kC tO
 have E:Hid ((r1.P i).L.st=9->c=83->∀W,ig w W z r1 r.n->eM eN 135 #[π (μ ⟨z.R,0,ν⟩),ι κ (i:Int),.string s] W λe w'=>e=ρ (τ #[])/\ig w w' z (r.take i c s.data.toList) r.n):=by
  intro e X W S;rw[HEq,ae (by simp[e])];unfold l9;rw[ae (by rw[X];decide),ag X];refine S.call λz1 u hl=> ?_;rw[<-hl.R,<-lT];exact Db s z1 r1 i W u kC tO hs (by have:=S7.out i tO;omega)
 have G:Hid ((r1.P i).L.st=9->c=65->∀W,ig w W z r1 r.n->eM eN 136 #[π (μ ⟨z.R,0,ν⟩),ι κ (i:Int),.string s] W λe w'=>e=ρ (τ #[])/\ig w w' z (r.take i c s.data.toList) r.n):=by
  intro e X W S;rw[HEq,ae (by simp[e])];unfold l9;rw[ae (by rw[X];decide),ae (by rw[X];decide),ag X];refine S.call λz1 u hl=> ?_;rw[<-hl.R,<-lT];exact Da s z1 r1 i W u tO hs
 have J:Hid ((r1.P i).L.st=9->c=77->∀W,ig w W z r1 r.n->eM eN 137 #[π (μ ⟨z.R,0,ν⟩),.string s] W λe w'=>e=ρ (τ #[])/\ig w w' z (r.take i c s.data.toList) r.n):=by
  intro e X W S;rw[HEq,ae (by simp[e])];unfold l9;rw[ae (by rw[X];decide),ae (by rw[X];decide),ae (by rw[X];decide),ag X];refine S.call λz1 u hl=> ?_;rw[<-hl.R,<-lT];exact Ab s z1 r1 (k+1) W u kC S7 dP hs
 have M:Hid ((r1.P i).L.st=9->c≠72->c≠83->c≠65->c≠77->∀W,ig w W z r1 r.n->ig w W z (r.take i c s.data.toList) r.n):=by
  intro e e1 X e3 e4 W S;rw[HEq,ae (by simp[e])];unfold l9;rw[ae e1,ae X,ae e3,ae e4];exact S
 have HT:Hid _:=hT;generalize (r1.P i).L.st=st at hop V H E G J M;obtain⟨Q,hQ⟩:∃Q:dN->Prop,(λx=>ig w x z (r.take i c s.data.toList) r.n)=Q:=⟨_,rfl⟩
 have hQ':∀x,ig w x z (r.take i c s.data.toList) r.n=Q x:=λx=>bU hQ x;simp only[hQ']at V H E G J M⊢;obtain⟨Q1,hQ1⟩:∃Q:dN->Prop,(λx=>ig w x z r1 r.n)=Q:=⟨_,rfl⟩
 have abD:∀x,ig w x z r1 r.n=Q1 x:=λx=>bU hQ1 x;simp only[abD]at hop y A V H E G J M;clear h iC hf kC S7 tO lT kD HEq hQ hQ' hQ1 abD BU
 go_in
 cases ZM:(c==76)with
 |true=>
  have vv:=y.out (by simpa using ZM);go_wp2_with(fail);refine vv.mono ?_;rintro e W3 ⟨rfl,D⟩;clear vv;have xj:=hop.out _ D;go_wp2_with(fail);refine xj.mono ?_;rintro e W4 ⟨rfl,rfl⟩;clear xj;cases q9:(st==9)with
  |false=>
   have Z:=V.out (by simpa using q9) _ D;clear V H E G J M y A hop;go_wp2_with(fail);refine Z.mono ?_;rintro e W5 ⟨rfl,Y⟩;clear Z
   go_wp2
   first|go_end0|refine iq rfl rfl ?_
   exact⟨rfl,Y⟩
  |true=>
   have U:st=9:=by simpa using q9
   have j:(c==72)=false:=by rw[show c=76 by simpa using ZM];rfl
   have q83:(c==83)=false:=by rw[show c=76 by simpa using ZM];rfl
   have t:(c==65)=false:=by rw[show c=76 by simpa using ZM];rfl
   have q77:(c==77)=false:=by rw[show c=76 by simpa using ZM];rfl
   have Y:=M.out U (by simpa using j) (by simpa using q83) (by simpa using t) (by simpa using q77) _ D;clear V H E G J M y A hop U
   go_wp2
   first|go_end0|refine iq rfl rfl ?_
   exact⟨rfl,Y⟩
 |false=>
  have D:=A.out (by simpa using ZM);have xj:=hop.out _ D;go_wp2_with(fail);refine xj.mono ?_;rintro e W4 ⟨rfl,rfl⟩;clear xj;cases q9:(st==9)with
  |false=>
   have Z:=V.out (by simpa using q9) _ D;clear V H E G J M y A hop;go_wp2_with(fail);refine Z.mono ?_;rintro e W5 ⟨rfl,Y⟩;clear Z
   go_wp2
   first|go_end0|refine iq rfl rfl ?_
   exact⟨rfl,Y⟩
  |true=>
   have U:st=9:=by simpa using q9
   cases j:(c==72)with
   |true=>
    have Z:=H.out U (by simpa using j) _ D;clear V H E G J M y A hop U;go_wp2_with(fail);refine Z.mono ?_;rintro e W5 ⟨rfl,Y⟩;clear Z
    go_wp2
    first|go_end0|refine iq rfl rfl ?_
    exact⟨rfl,Y⟩
   |false=>
    cases q83:(c==83)with
    |true=>
     have Z:=E.out U (by simpa using q83) _ D;clear V H E G J M y A hop U;go_wp2_with(fail);refine Z.mono ?_;rintro e W5 ⟨rfl,Y⟩;clear Z
     go_wp2
     first|go_end0|refine iq rfl rfl ?_
     exact⟨rfl,Y⟩
    |false=>
     cases t:(c==65)with
     |true=>
      have Z:=G.out U (by simpa using t) _ D;clear V H E G J M y A hop U;go_wp2_with(fail);refine Z.mono ?_;rintro e W5 ⟨rfl,Y⟩;clear Z
      go_wp2
      first|go_end0|refine iq rfl rfl ?_
      exact⟨rfl,Y⟩
     |false=>
      cases q77:(c==77)with
      |true=>
       have Z:=J.out U (by simpa using q77) _ D;clear V H E G J M y A hop U;go_wp2_with(fail);refine Z.mono ?_;rintro e W5 ⟨rfl,Y⟩;clear Z
       go_wp2
       first|go_end0|refine iq rfl rfl ?_
       exact⟨rfl,Y⟩
      |false=>
       have Y:=M.out U (by simpa using j) (by simpa using q83) (by simpa using t) (by simpa using q77) _ D;clear V H E G J M y A hop U
       go_wp2
       first|go_end0|refine iq rfl rfl ?_
       exact⟨rfl,Y⟩
theorem Rl(l:List UInt8)(e d:Bool)(h:l.length<=62):(mG l e d).1.length<=62:=by
 unfold mG;split
 ·simp
 ·split
  ·simp
  ·split
   ·simp
   ·split
    ·simp;omega
    ·simp
theorem Rm(s:jY)(c:UInt8)(h:s.1.length<=62):(qg s c).1.length<=62:=by
 obtain⟨l,e,d⟩:=s;unfold qg;simp only at h⊢;split
 ·exact h
 ·split
  ·exact h
  ·split
   ·exact h
   ·simp;omega
theorem NP(a:List (List UInt8)×Nat×jY)(c:UInt8)(h:a.2.2.1.length<=62)(Z:∀t∈a.1,t.length<=62):(lD a c).2.2.1.length<=62/\∀t∈(lD a c).1,t.length<=62:=by
 have X:(oL a.2.2.1 a.2.2.2.1 a.2.2.2.2 c).1.length<=62:=by
  unfold oL;split
  ·simp
  ·exact Rm _ c h
 have U:(oM a.2.2.1 a.2.2.2.1 a.2.2.2.2 c).1.length<=62:=by
  unfold oM;split
  ·exact Rl _ _ _ h
  ·simp
 unfold lD;simp only;split
 ·exact⟨X,Z⟩
 ·split
  ·refine⟨X,λt V=> ?_⟩;rcases aF.1 V with Y|Y
   ·exact Z t Y
   ·rw[ax.1 Y];exact U
  ·exact⟨X,Z⟩
theorem DW:∀(l:List UInt8) (a:List (List UInt8)×Nat×jY),a.2.2.1.length<=62->(∀t∈a.1,t.length<=62)->∀t∈(l.foldl lD a).1,t.length<=62
 |[],_,_,h2=>h2
 |c::l,a,h1,h2=>by
  have:=NP a c h1 h2;exact DW l (lD a c) this.1 this.2
theorem Rn(st:jY)(l:List UInt8)(h:st.1.length<=62):∀t∈(j2 st l).1,t.length<=62:=DW l ([],0,st) h (λt Z=>by simp at Z)
theorem Uw(r:iy)(i:Nat)(c:UInt8)(s:List UInt8):(jH r i c s).n=r.n/\(jH r i c s).id=r.id:=by
 unfold jH;split<;>exact⟨rfl,rfl⟩
theorem Ux(r:iy)(i:Nat)(c:UInt8)(s:List UInt8):(l9 r i c s).n=r.n/\(l9 r i c s).id=r.id:=by
 unfold l9;split
 ·split
  ·exact⟨yG _ _ _,Au _ _ _⟩
  ·exact⟨rfl,rfl⟩
 ·split
  ·exact Uv _ _ _
  ·split
   ·unfold ku;simp only;split<;>exact⟨rfl,rfl⟩
   ·split
    ·unfold qj;split
     ·exact XZ _ _
     ·exact⟨rfl,rfl⟩
    ·exact⟨rfl,rfl⟩
theorem Kq(r:iy)(i:Nat)(c:UInt8)(s:List UInt8):(r.take i c s).n=r.n/\(r.take i c s).id=r.id:=by
 rw[lK];have Z:=Uw r i c s;split
 ·exact⟨(yG _ _ _).trans Z.1,(Au _ _ _).trans Z.2⟩
 ·have Y:=Ux (jH r i c s) i c s;exact⟨Y.1.trans Z.1,Y.2.trans Z.2⟩
theorem kE.link(h:kE r)(i:Nat)(c:UInt8)(s:List UInt8):kE (jH r i c s):=by
 unfold jH;split
 ·exact h.iE i _ (rZ _ _).1 (λhi=>by rw[(rZ _ _).2];exact h.pe i hi)
 ·exact h
theorem Fit.link(h:Fit r k)(i:Nat)(c:UInt8)(s:List UInt8):Fit (jH r i c s) (k+1):=by
 unfold jH;split
 ·exact h.grow i _ (Nat.le_trans (BQ _ _) dP)
 ·exact h.mono (Nat.le_succ k)
theorem BV {s:List UInt8} (Z:(lL s).2.2=0):1<=(lL s).1/\(lL s).1<=6:=by
 unfold lL at Z⊢;split at Z
 ·rename_i hc
  rw[ag hc];have:=hc.2;simp only[tE,Bool.and_eq_true,decide_eq_true_eq]at this;simp only;omega
 ·simp at Z
theorem kE.rest(h:kE r)(i:Nat)(c:UInt8)(s:List UInt8):kE (l9 r i c s):=by
 unfold l9;split
 ·split
  ·rename_i Z
   exact h.meet i (nr.Uh h.id.1 (BV Z))
  ·exact h
 ·split
  ·exact h.state i s
  ·split
   ·unfold ku;simp only;split
    ·exact h.wq _
    ·exact h
   ·split
    ·unfold qj;split
     ·exact h.send _
     ·exact h
    ·exact h
theorem Fit.rest(h:Fit r k)(i:Nat)(c:UInt8)(s:List UInt8):Fit (l9 r i c s) (k+1):=by
 unfold l9;split
 ·split
  ·exact(h.meet i _).mono (Nat.le_succ k)
  ·exact h.mono (Nat.le_succ k)
 ·split
  ·exact h.state i s
  ·split
   ·unfold ku;simp only;split
    ·exact Fit.mono (h.congr rfl rfl rfl rfl) (Nat.le_succ k)
    ·exact h.mono (Nat.le_succ k)
   ·split
    ·unfold qj;split
     ·exact h.send _
     ·exact h.mono (Nat.le_succ k)
    ·exact h.mono (Nat.le_succ k)
theorem kE.take {r:iy} (h:kE r)(i:Nat)(c:UInt8)(s:List UInt8):kE (r.take i c s):=by
 rw[lK];split
 ·exact(h.link i c s).meet i (nr.nobody (h.link i c s).id.1)
 ·exact(h.link i c s).rest i c s
theorem Fit.take {r:iy} {k:Nat} (h:Fit r k)(i:Nat)(c:UInt8)(s:List UInt8):Fit (r.take i c s) (k+2):=by
 rw[lK];split
 ·exact((h.link i c s).meet i _).mono dP
 ·exact(h.link i c s).rest i c s
def jT(r:iy)(i:Nat):List UInt8->iy
 |[] =>r
 |c::s=>r.take i c s
theorem BW:∀(l:List (List UInt8)) (r:iy) (i:Nat) (t:List UInt8),r.takes i (l++ [t])=jT (r.takes i l) i t
 |[],r,i,t=>by cases t<;>rfl
 |x::l,r,i,t=>by
  show(match x with|[] =>r|c::s=>r.take i c s).takes i (l++ [t])=jT ((match x with|[] =>r|c::s=>r.take i c s).takes i l) i t;exact BW l _ i t
theorem NQ(h:kE r)(hf:Fit r k)(i:Nat)(t:List UInt8):(jT r i t).n=r.n/\kE (jT r i t)/\Fit (jT r i t) (k+2):=by
 cases t with
 |nil=>exact⟨rfl,h,hf.mono dP⟩
 |cons c s=>exact⟨(Kq r i c s).1,h.take i c s,hf.take i c s⟩
theorem yI:∀(l:List (List UInt8)) {r:iy} {k:Nat} (_:kE r) (_:Fit r k) (i:Nat),(r.takes i l).n=r.n/\kE (r.takes i l)/\Fit (r.takes i l) (k+2*l.length)
 |[],r,k,h,hf,i=>⟨rfl,h,hf⟩
 |x::l,r,k,h,hf,i=>by
  have Z:=NQ h hf i x;have e:r.takes i (x::l)=(jT r i x).takes i l:=by cases x<;>rfl
  have Y:=yI l Z.2.1 Z.2.2 i;rw[e];refine⟨Y.1.trans Z.1,Y.2.1,Y.2.2.mono (by simp;omega)⟩
theorem oZ.rdC(h:oZ w g o B v p):Rd w g (o+2) p.rd.1 p.rd.2.1 p.rd.2.2:=by
 obtain⟨F,hC,hF⟩:=h.uV;refine⟨F,(hC.sub 2 65 dS).congr (λj hj=> ?_),hF⟩;unfold uU;rw[ae dP,ae dP,ag dP,show 2+j-2=j by omega]
theorem oZ.read(h:oZ w g o B v p)(r:jY)(T:Rd w' g (o+2) r.1 r.2.1 r.2.2)(Z:kB w w' g (o+2) 65):oZ w' g o B v {p with rd:=r} /\mM w w' g o B v:=by
 obtain⟨F,hC,hF⟩:=h.uV;obtain⟨G,U,X⟩:=T;have Y:=oV.join (a:=2) (k:=65) hC Z U;refine⟨⟨⟨G,Y.congr (λj Y=>QM p B v F G r j Y),X⟩,h.lk.keep (Z.block B h.lk.lt (λe=>h.gB e.symm)),h.ou.keep Z.size (λx hx=>Z.block x (h.ou.lt x hx) (λe=>h.vg (by rw[hx,e]))),h.few,h.ok,h.gB,h.vg,h.vB,h.nz⟩,⟨Z.os,Z.tape,Z.output,Z.size,λi hi V _ _=>Z.block i hi V,λj Y=>Z.cell j dP,Z.fz⟩⟩
theorem k8.abE {z:Zt} (h:k8 w z r)(hi:i<r.n)(J:oZ w' z.g (i*71) (z.B i) (z.v i) p)(Z:mM w w' z.g (i*71) (z.B i) (z.v i)):k8 w' z (r.iE i p)/\xB w w' z r.n:=by
 have T:z.mine r.n z.g/\z.mine r.n (z.B i)/\∀k,(z.v i).ownBlock=μ k->z.mine r.n k:=⟨.inr (.inl rfl),.inr (.inr (.inl ⟨i,hi,.inl rfl⟩)),λk Y=>.inr (.inr (.inl ⟨i,hi,.inr Y⟩))⟩
 have S:∀k,k<w.heap.size->¬z.mine r.n k->w'.heap[k]? =w.heap[k]? :=λk Y U=>Z.block k Y (λe=>U (by rw[e];exact T.1)) (λe=>U (by rw[e];exact T.2.1)) (λe=>U (T.2.2 k e));have Q:=h.bs.still Z.size (λj V H=>S j V (λe=>H (h.no j e))) h.nb.1 h.nb.2.1 h.nb.2.2 z.fm.no (λj V=>.inl V) (λj V=>Nat.lt_of_lt_of_le (h.bs.Nk j V) Z.size);refine⟨⟨h.n1,h.n3,h.J4,h.id,?_,?_,?_,Q,h.bl,h.no,h.nb,h.sR,h.sB,h.sV,h.sI,h.Nv⟩,⟨Z.os,Z.tape,Z.output,Z.size,λk Y U _ _=>S k Y U⟩⟩
 ·exact h.m9.keep (Z.block z.R h.m9.lt h.sR.1 (λe=>(h.sR.2.2 i hi).1 e.symm) (h.sR.2.2 i hi).2)
 ·intro j V;by_cases e:j=i
  ·subst e;show oZ w' z.g (j*71) (z.B j) (z.v j) (kA r.P j p j);rw[ja];exact J
  ·show oZ w' z.g (j*71) (z.B j) (z.v j) (kA r.P i p j);rw[iU _ _ e];have X:=h.pt j V;obtain⟨F,hC,hF⟩:=X.uV;have hs:=h.sB j i V hi e;refine⟨⟨F,λx hx=>⟨(Z.cell (j*71+x) ?_).trans (hC.cell x hx),(Z.fz _).trans (hC.fz x hx)⟩,hF⟩,X.lk.keep (Z.block (z.B j) X.lk.lt (λe=>X.gB e.symm) hs.1 (h.sV i j hi V)),X.ou.keep Z.size (λk Y=>Z.block k (X.ou.lt k Y) (λe=>X.vg (by rw[Y,e])) (λe=>h.sV j i V hi (by rw[Y,e])) (hs.2 k Y)),X.few,X.ok,X.gB,X.vg,X.vB,X.nz⟩;rcases Nat.lt_or_gt_of_ne e with M|M
   ·exact .inl dP
   ·exact .inr dP
 ·exact h.ib.keep Z.size (λk Y=>Z.block k (h.ib.lt k Y) (h.sI k Y).2.1 ((h.sI k Y).2.2 i hi).1 ((h.sI k Y).2.2 i hi).2)
theorem Uy(l:List (List UInt8))(j:Nat)(h:j<l.length):(strs l)[j]? =μ (.string ⟨l[j].toArray⟩):=by simp[strs,h]
theorem Ro(s:ByteArray)(z:Zt)(r:iy)(i k:Nat)(w:dN)(h:k8 w z r)(BU:iQ w)(iC:kE r)(hf:Fit r k)(hk:k+2*s.size<=99999)(hi:i<r.n):
 eM eN 23 #[π (μ ⟨z.R,0,ν⟩),ι κ (i:Int),.string s] w λe w'=>e=ρ η/\ig w w' z (r.recv i s.data.toList) r.n:=by
 have hh:=ug z r i w h;rw[rX hi]at hh;have kV:(i:Int)<(r.n:Int):=dP;have Jv:(0:Int)<=(i:Int):=dP;have c1:=h.c1;have cl:=h.lt;have gl:=h.DK;have u:=h.pt i hi;obtain⟨A,hA⟩:=fP (j2 (r.P i).rd s.data.toList);have S:=Qp z.g (i*71+2) (r.P i).rd s w u.rdC dP;rw[hA]at S;have hAl:A.1.length<=s.size:=by
  have:=Ap (r.P i).rd s.data.toList;rw[hA]at this;have e:s.data.toList.length=s.size:=gN;omega
 have hAt:Hid (∀t∈A.1,t.length<=62):=by
  show∀t∈A.1,_;rw[<-hA];obtain⟨F,_,hF⟩:=u.uV;exact Rn _ _ hF.len
 obtain⟨r1,J⟩:=fP (r.iE i {r.P i with rd:=A.2.2});have D:r1.n=r.n:=by rw[<-J];rfl
 have kC:kE r1:=by rw[<-J];exact iC.iE i _ rfl (λhi=>iC.pe i hi)
 have S7:Fit r1 k:=by rw[<-J];exact hf.iE i _ (λhi=>hf.out i hi)
 have hE:Hid (r.recv i s.data.toList=r1.takes i A.1):=by
  show _=_;unfold iy.recv;simp only[hA];rw[J]
 have H:eM eN 78 #[π (μ ⟨z.g,i*71+2,ν⟩),.string s] w λe w'=>∃v,e=ρ (τ #[v,ι κ (A.2.1:Int)])/\Row w' 1 v A.1.length (strs A.1)/\(∀k,v.ownBlock=μ k->w.heap.size<=k)/\k8 w' z r1/\xB w w' z r.n:=by
  refine S.mono ?_;rintro e w1 ⟨v,rfl,h1,h2,_,h4,h5⟩;refine⟨v,rfl,h1,h2,?_⟩;rw[<-J];have h6:=oZ.read u A.2.2 h4 h5;exact h.abE hi h6.1 h6.2
 have HR:Hid _:=h;have NR:Hid _:=BU;clear h iC hf u S BU
 go_in
 go_wp2_with(fail);refine hh.mono ?_;rintro e w0 ⟨rfl,rfl⟩;clear hh;go_wp2_with(fail);refine H.mono ?_;rintro e V ⟨v,rfl,iJ,iO,T,SP⟩;clear H c1 cl gl;obtain⟨n,hn⟩:=fP (A.1.length);have Ub:∃a cp,v=σ a n cp:=by
  rcases iJ.2 with⟨e,h0⟩|⟨g,c,e,_⟩
  ·exact⟨ν,0,by rw[e,<-hn,h0]⟩
  ·exact⟨_,c,by rw[e,hn]⟩
 obtain⟨a,cp,rfl⟩:=Ub;have Ld:∀j,dQ (σ a n cp)=μ j->¬z.mine r.n j:=λj y=>HR.out.rY (iO j y);have abG:Hid (∀wr rr,ig V wr z rr r.n->iQ wr):=by
  have h1:iQ V:=ig.tab (z:=z) (r:=r1) ⟨⟨z,T,z.qx,λ_ e=>.inl e,λ_ e=>e⟩,SP⟩ HR.out rfl NR.out;intro wr rr E;exact E.tab T D h1
 have Ht:Hid (∀wr rr,ig V wr z rr r.n->∀j,(y:j<A.1.length)->∃g,a=μ ⟨g,0,ν⟩/\wr.cell? ⟨g,j,ν⟩=μ (.string ⟨(A.1[j]).toArray⟩)):=by
  intro wr rr E j y;rcases iJ.2 with⟨e,h0⟩|⟨g,c,e,_,_,_,hc,_⟩
  ·omega
  ·have ea:a=μ ⟨g,0,ν⟩:=(bC e).1;refine⟨g,ea,E.cell T (p:=⟨g,j,ν⟩) (Ld g (by rw[ea];rfl)) (hc j _ (Uy A.1 j y))⟩
 have X2:Hid (∀wr,ig V wr z (r1.takes i A.1) r.n->ig w wr z (r.recv i s.data.toList) r.n):=by
  intro wr E;rw[hE.out];exact ig.py (r:=r1) ⟨⟨z,T,z.qx,λ_ e=>.inl e,λ_ e=>e⟩,SP⟩ T z.qx (λ_ e=>.inl e) (λ_ e=>e) E
 have H0:Hid (ig V V z (r1.takes i (A.1.take 0)) r.n):=by
  show ig _ _ _ _ _;rw[<-D];exact ig.refl T
 have HN:Hid _:=hn;have z8:Hid _:=kC;have HF1:Hid _:=S7;clear iJ iO T SP Ld hE kC S7 J hA;have hns:n<=s.size:=dP
 go_wp2
 go_loopw [30] (λx wr=>∃q:Nat,q<=n/\x=ι κ q/\ig V wr z (r1.takes i (A.1.take q)) r.n) (λx _=>n-(eP x).toNat)
 case atStart=>exact⟨0,Nat.zero_le _,rfl,H0.out⟩
 case round=>
  obtain⟨q,hq,rfl,X⟩:=hrel;by_cases kc:q<n
  ·have nh:(q:Int)<(n:Int):=dP;have hq0:(0:Int)<=(q:Int):=dP;have Q:q<A.1.length:=by have:=HN.out;omega
   obtain⟨g,rfl,hcell⟩:=Ht.out _ _ X q Q;have ZE:=abG.out _ _ X;have G:=hAt.out _ (aD Q);have M:Hid (r1.takes i (A.1.take (q+1))=jT (r1.takes i (A.1.take q)) i A.1[q]):=by
    show _=_;rw[aw Q,BW]
   have U:=yI (A.1.take q) z8.out HF1.out i;have hlq:(A.1.take q).length<=q:=bV _ _;have gl:=af _ _ hcell;generalize A.1[q] =tt at hcell G M;obtain⟨rq,ZN⟩:=fP (r1.takes i (A.1.take q));rw[ZN]at X M U;cases tt with
   |nil=>
    have HW:Hid (ig V wr z (r1.takes i (A.1.take (q+1))) r.n):=by
     show ig _ _ _ _ _;rw[M.out];exact X
    clear X M U ZN;obtain⟨Z,Y⟩:∃Z:ByteArray,(⟨([] :List UInt8).toArray⟩:ByteArray)=Z:=⟨_,rfl⟩
    rw[Y]at hcell;have jq:Z.toList.isEmpty=true:=by rw[<-Y,cX];rfl
    clear Y
    go_wp2
    go_roundw
    case rel=>exact⟨q+1,dP,by go_num,HW.out⟩
    case measure=>simp[eP];omega
   |cons c tl=>
    obtain⟨Z,Y⟩:∃Z:ByteArray,(⟨(c::tl).toArray⟩:ByteArray)=Z:=⟨_,rfl⟩
    have pY:Z.size=tl.length+1:=by rw[<-Y];simp[ByteArray.size]
    have hx0:Z.extract 0 1=⟨#[c]⟩:=by
     rw[<-Y];apply gw;apply dr.1;rw[tY];simp
    have hx1:Z.extract 1 Z.size=⟨tl.toArray⟩:=by
     apply gw;apply dr.1;rw[tY,pY,<-Y];simp
    have Zw:Z.toList=c::tl:=by rw[cX,<-Y]
    have jq:Z.toList.isEmpty=false:=by rw[Zw];rfl
    rw[Y]at hcell;have g1:(1:Int)<=(Z.size:Int):=dP;have g0:(0:Int)<=(Z.size:Int):=dP;have Ta:i<rq.n:=by rw[U.1,D];exact hi
    have xH:eM eN 79 #[π (μ ⟨z.R,0,ν⟩),ι κ (i:Int),.string ⟨#[c]⟩,.string ⟨tl.toArray⟩] wr.drew λe w'=>e=ρ (τ #[])/\ig V w' z (r1.takes i (A.1.take (q+1))) r.n:=by
     rw[M.out];have Aw:=X.below (by rw[U.1];exact D) (iI wr);refine Aw.call λz1 Rz hl=> ?_;have hlen:(⟨tl.toArray⟩:ByteArray).size<=1000:=by
      show tl.toArray.size<=1000;simp at G⊢;omega
     have:=Rj ⟨#[c]⟩ ⟨tl.toArray⟩ c z1 rq i (k+2*(A.1.take q).length) wr.drew Rz rfl ZE U.2.1 U.2.2 dP Ta hlen;rw[hl.R,U.1,D]at this;have e1:(⟨tl.toArray⟩:ByteArray).data.toList=tl:=gN;rw[e1]at this;exact this
    have g1n:1<=Z.size:=dP;clear X M U ZN Y ZE Zw pY
    go_wp2
    go_region_held3(λ_=>True)
     (first|trivial)
     (first
      |(go_at_call 79;refine xH.mono ?_;rintro e w6 ⟨rfl,LP⟩))
    all_goals
     have HW6:Hid _:=LP;clear xH LP
     go_wp2
     go_roundw
     case rel=>exact⟨q+1,dP,by go_num,HW6.out⟩
     case measure=>simp[eP];omega
  ·have zN:¬(q:Int)<(n:Int):=dP;have HW:Hid (ig w wr z (r.recv i s.data.toList) r.n):=by
    show ig _ _ _ _ _;refine X2.out _ ?_;have e1:A.1.take q=A.1:=aC (by have:=HN.out;omega);rw[e1]at X;exact X
   clear X
   go_wp2
   go_ret;exact⟨rfl,HW.out⟩
theorem NS(q:kL)(w:dN)(h:0<=q.left/\q.left<=4):eM eN 84 #[.agg #[.int .i64 q.who,.bool q.both,.int .i64 q.left]] w λe w'=>
 e=ρ (.agg #[.int .i64 (iH q).who,.bool (iH q).both,.int .i64 (iH q).left])/\dV w w':=by
 have Z:=Go.Proofs.YtieklnlbljejdaaGreatDoor.P6 q.who q.left q.both w h.1 dP;have e:Go.Proofs.YtieklnlbljejdaaGreatDoor.iV (q.who,q.both,q.left)=((iH q).who,(iH q).both,(iH q).left):=by
  unfold Go.Proofs.YtieklnlbljejdaaGreatDoor.iV iH;by_cases hl:q.left<=1
  ·simp[hl,nobody]
  ·simp[hl]
 rw[e]at Z;exact Z
theorem qL(p:jb):p.tick.m=p.m/\p.tick.pe=p.pe/\p.tick.out.length<=p.out.length+1512:=by
 unfold jb.tick;have Z:=uv (jB p.L).2 {p with L:=(jB p.L).1};have h2:=xA (jB p.L).2 {p with L:=(jB p.L).1};have h3:=DJ p.L;refine⟨Z.1,Z.2,?_⟩;have h4:({p with L:=(jB p.L).1}:jb).out.length=p.out.length:=rfl;omega
theorem BX:∀(l:List (Int×PS)) (p:jb),(p.j3 l).m=p.m/\(p.j3 l).pe=p.pe
 |[],_=>⟨rfl,rfl⟩
 |x::l,p=>by
  have h:=BX l (p.put 83 (rM x.1 x.2.1 x.2.2));exact⟨h.1.trans (DV _ _ _),h.2.trans (pW _ _ _)⟩
theorem DX(F:Int->Option PS):(lU F).length<=6:=by
 unfold lU;have:=List.length_filterMap_le (λ(j:Nat)=>(F ((j:Int)+1)).map λq=>((j:Int)+1,q)) (List.range 6);simpa using this
theorem kE.tell(h:kE r)(i:Nat):kE (lI r i):=by
 unfold lI;simp only;refine h.iE i _ ?_ (λhi=> ?_)
 ·split
  ·exact(BX _ _).1.trans (DV _ _ _)
  ·exact DV _ _ _
 ·have Z:=h.pe i hi;split
  ·rw[(BX _ _).2,pW];exact Z
  ·rw[pW];exact Z
theorem Fit.tell(h:Fit r k)(i:Nat):Fit (lI r i) (k+1):=by
 unfold lI;simp only;have h1:=uW (r.P i) 72 [jQ r.id,jQ (r.P i).pe.who];refine h.grow i _ ?_;split
 ·have h2:=wB (lU (r.O i)) ((r.P i).put 72 [jQ r.id,jQ (r.P i).pe.who]);have h3:=DX (r.O i);omega
 ·omega
def iT(r:iy)(i:Nat):iy:=r.iE i (r.P i).tick
theorem kO(r:iy)(i:Nat):r.iV i=if((iT r i).P i).L.st≠9 then(iT r i).meet i nobody else lI ((iT r i).meet i (iH ((iT r i).P i).pe)) i:=rfl
theorem kE.iT {r:iy} (h:kE r)(i:Nat):kE (Rt.iT r i):=h.iE i _ (qL _).1 (λhi=>by rw[(qL _).2.1];exact h.pe i hi)
theorem Fit.iT {r:iy} {k:Nat} (h:Fit r k)(i:Nat):Fit (Rt.iT r i) (k+1):=h.grow i _ (Nat.le_trans (qL _).2.2 dP)
theorem NT(h:kE r)(hf:Fit r k)(hi:i<r.n):(r.iV i).n=r.n/\kE (r.iV i)/\Fit (r.iV i) (k+2):=by
 rw[kO];have Z:=h.iT i;have f1:=hf.iT i;split
 ·exact⟨yG _ _ _,Z.meet i (nr.nobody Z.id.1),(f1.meet i _).mono dP⟩
 ·have Y:=(Z.pe i hi).tick Z.id.1;exact⟨yG _ _ _,(Z.meet i Y).tell i,(f1.meet i _).tell i⟩
theorem yJ {r:iy} {k:Nat} (h:kE r)(hf:Fit r k):∀q,q<=r.n->(r.iW q).n=r.n/\kE (r.iW q)/\Fit (r.iW q) (k+2*q)
 |0,_=>⟨rfl,h,hf⟩
 |q+1,hq=>by
  have ih:=yJ h hf q dP;have:=NT (i:=q) ih.2.1 ih.2.2 (by rw[ih.1];omega);exact⟨this.1.trans ih.1,this.2.1,this.2.2.mono dP⟩
theorem NU(z:Zt)(r:iy)(k:Nat)(w:dN)(h:k8 w z r)(BU:iQ w)(iC:kE r)(hf:Fit r k)(hk:k<=90000):
 eM eN 25 #[π (μ ⟨z.R,0,ν⟩)] w λe w'=>e=ρ (τ #[])/\ig w w' z r.tick r.n:=by
 have c1:=h.c1;have cl:=h.lt;have vE:=h.n3;obtain⟨n,hn⟩:=fP (r.n);have H0:Hid (ig w w z (r.iW 0) r.n):=ig.refl h;have NR:Hid (∀wr rr,ig w wr z rr r.n->iQ wr):=λwr rr hw=>hw.tab h rfl BU;have D:Hid (∀q,q<=r.n->(r.iW q).n=r.n/\kE (r.iW q)/\Fit (r.iW q) (k+2*q)):=yJ iC hf;have Fb:Hid (r.tick=r.iW r.n):=rfl;rw[hn]at c1 vE H0 NR D Fb⊢;clear h iC hf BU
 go_in
 go_wp2
 go_loopw [8] (λx wr=>∃q:Nat,q<=n/\x=ι κ q/\ig w wr z (r.iW q) n) (λx _=>n-(eP x).toNat)
 case atStart=>exact⟨0,Nat.zero_le _,rfl,H0.out⟩
 case round=>
  obtain⟨q,hq,rfl,Z⟩:=hrel;by_cases kc:q<n
  ·have nh:(q:Int)<(n:Int):=dP;have hq0:(0:Int)<=(q:Int):=dP;obtain⟨j,a2,a3⟩:=D.out q dP;have hT:=NR.out _ _ Z;have d1:=Z.c1;have dl:=Z.lt;rw[j]at d1;have HS:Hid (r.iW (q+1)=(r.iW q).iV q):=rfl;obtain⟨S,ZN⟩:=fP (r.iW q);rw[ZN]at Z HS j a2 a3;have Ta:q<S.n:=dP;have xH:eM eN 82 #[π (μ ⟨z.g,q*71,ν⟩)] wr λe w'=>e=ρ (τ #[])/\ig w w' z (iT S q) n:=by
    refine Z.call λY V hl=> ?_;rw[<-hl.g];refine(Nt Y.g (q*71) (Y.B q) (Y.v q) (S.P q) wr (V.pt q Ta) hT (by have:=a3.out q Ta;omega)).mono ?_;rintro e w1 ⟨rfl,hw⟩;have:=V.port Ta hw;rw[j]at this;exact⟨rfl,this⟩
   have kC:=a2.iT q;have S7:=a3.iT q;have M:(iT S q).n=n:=j;obtain⟨r1,kD⟩:=fP (iT S q);have HE:Hid (S.iV q=if(r1.P q).L.st≠9 then r1.meet q nobody else lI (r1.meet q (iH (r1.P q).pe)) q):=by
    show _=_;rw[<-kD];exact kO S q
   rw[kD]at xH kC S7 M;have Q:Hid _:=kC;have HF1:Hid _:=S7;clear ZN a2 a3 Z hT kD kC S7;go_wp2_with(fail);refine xH.mono ?_;rintro e G ⟨rfl,U⟩;have tO:q<r1.n:=dP;obtain⟨v1,E⟩:=U.pt tO;have hop:=wk z.g (q*71) (z.B q) v1 (r1.P q) G E;have e1:=U.c1;have el:=U.lt;have gl:=U.DK;rw[M]at e1;have g7:=E.ZB;have g8:=E.T9;have g9:=E.ZC;clear xH E d1 dl;go_wp2_with(fail);refine hop.mono ?_;rintro e W2 ⟨rfl,rfl⟩;clear hop;cases q9:((r1.P q).L.st==9)with
   |false=>
    have jq:(r1.P q).L.st≠9:=by simpa using q9
    have hm:eM eN 74 #[π (μ ⟨z.R,0,ν⟩),ι κ (q:Int),.agg #[ι κ 0,.bool false,ι κ 0]] G λe w'=>e=ρ (τ #[])/\ig w w' z (r.iW (q+1)) n:=by
     rw[HS.out,HE.out,ag jq];refine U.call λY V hl=> ?_;rw[<-hl.R,<-M];exact um Y r1 q nobody G V Q.out tO (nr.nobody Q.out.id.1)
    clear U jq;go_wp2_with(fail);refine hm.mono ?_;rintro e W3 ⟨rfl,u⟩;have HW3:Hid _:=u;clear hm u
    go_wp2
    go_roundw
    case rel=>exact⟨q+1,dP,by go_num,HW3.out⟩
    case measure=>simp[eP];omega
   |true=>
    have h9:(r1.P q).L.st=9:=by simpa using q9
    have J:Hid (r.iW (q+1)=lI (r1.meet q (iH (r1.P q).pe)) q):=by
     show _=_;rw[HS.out,HE.out,ae (by simp[h9])]
    have t:=Q.out.pe q tO;have X:=NS (r1.P q).pe G t.left;have H:Hid (∀W,dV G W->eM eN 74 #[π (μ ⟨z.R,0,ν⟩),.int .i64 (q:Int),.agg #[.int .i64 (iH (r1.P q).pe).who,.bool (iH (r1.P q).pe).both,.int .i64 (iH (r1.P q).pe).left]] W λe w'=>e=ρ (τ #[])/\ig w w' z (r1.meet q (iH (r1.P q).pe)) n):=by
     intro W hW;refine(U.below M hW).call λY V hl=> ?_;rw[<-hl.R,<-M];exact um Y r1 q _ W V Q.out tO (t.tick Q.out.id.1)
    have y:Hid (∀W,ig w W z (r1.meet q (iH (r1.P q).pe)) n->eM eN 85 #[π (μ ⟨z.R,0,ν⟩),ι κ (q:Int)] W λe w'=>e=ρ (τ #[])/\ig w w' z (r.iW (q+1)) n):=by
     intro W hW;rw[J.out];refine hW.call λY V hl=> ?_;have wP:(r1.meet q (iH (r1.P q).pe)).n=n:=(yG _ _ _).trans M;rw[<-hl.R,<-wP];have XH:=Q.out.meet q (t.tick Q.out.id.1);exact Ra Y _ q W V XH dP (by have:=(HF1.out.meet q (iH (r1.P q).pe)).out q dP;omega)
    generalize (r1.P q).pe.who=p1 at g7 X;generalize (r1.P q).pe.both=p2 at g8 X;generalize (r1.P q).pe.left=p3 at g9 X;generalize (iH (r1.P q).pe).who=t1 at X H;generalize (iH (r1.P q).pe).both=t2 at X H;generalize (iH (r1.P q).pe).left=t3 at X H;clear U h9 t J;go_wp2_with(fail);refine X.mono ?_;rintro e W2 ⟨rfl,b2⟩;have zU:=H.out _ b2;clear X H;go_wp2_with(fail);refine zU.mono ?_;rintro e W3 ⟨rfl,u⟩;have A:=y.out _ u;clear zU y u;go_wp2_with(fail);refine A.mono ?_;rintro e W4 ⟨rfl,sK⟩;have Kr:Hid _:=sK;clear A sK
    go_wp2
    go_roundw
    case rel=>exact⟨q+1,dP,by go_num,Kr.out⟩
    case measure=>simp[eP];omega
  ·have zN:¬(q:Int)<(n:Int):=dP;have T:q=n:=dP;have HW:Hid (ig w wr z r.tick n):=by
    show ig _ _ _ _ _;rw[Fb.out,<-T];rw[<-T]at Z;exact Z
   clear Z T
   go_wp2
   first|go_end0|refine iq rfl rfl ?_
   exact⟨rfl,HW.out⟩
theorem wD(p:jb)(up:Bool):((p.iw up).1.m=p.m/\(p.iw up).1.pe=p.pe)/\((p.iw up).2≠0->(p.iw up).1=p):=by
 unfold jb.iw;generalize ko p.L (if up=true then 0 else 1)=e;simp only;by_cases h:e.2.2=0
 ·rw[ae (by simp[h])];exact⟨uv _ _,λe=>absurd rfl e⟩
 ·rw[ag h];exact⟨⟨rfl,rfl⟩,λ_=>rfl⟩
theorem NV(z:Zt)(r:iy)(k:Nat)(t:Int)(tx:ByteArray)(w:dN)(h:k8 w z r)(X:kE r)(hf:Fit r k)(T:k<=100000):
 eM eN 27 #[π (μ ⟨z.R,0,ν⟩),ι κ t,.string tx] w λe w'=>e=ρ (iP (jR r t tx.data.toList).2)/\ig w w' z (jR r t tx.data.toList).1 r.n:=by
 have hl:tx.data.toList.length=tx.size:=gN;by_cases V:t<1
 ·have Z:jR r t tx.data.toList=(r,1):=by unfold jR;rw[ag (.inl V)]
  rw[Z];have Y:Hid _:=ig.refl h;clear h X hf
  go_in
  go_wp2
  go_ret;exact⟨rfl,Y.out⟩
 ·by_cases U:6<t
  ·have Z:jR r t tx.data.toList=(r,1):=by unfold jR;rw[ag (.inr (.inl U))]
   rw[Z];have Y:Hid _:=ig.refl h;clear h X hf
   go_in
   go_wp2
   go_ret;exact⟨rfl,Y.out⟩
  ·by_cases h3:(20:Int)<(tx.size:Int)
   ·have Z:jR r t tx.data.toList=(r,1):=by unfold jR;rw[ag (.inr (.inr dP))]
    rw[Z];have Y:Hid _:=ig.refl h;clear h X hf
    go_in
    go_wp2
    go_ret;exact⟨rfl,Y.out⟩
   ·have Z:jR r t tx.data.toList=(r.send (t,8,tx.data.toList),0):=by unfold jR;rw[ae dP]
    rw[Z];have hs:=BS z r k t 8 tx w h X hf T dP dP dP;clear h X hf
    go_in
    go_wp2_with(fail);refine hs.mono ?_;rintro e w1 ⟨rfl,S⟩;clear hs
    go_wp2
    go_ret;exact⟨rfl,S⟩
theorem NW(up:Bool)(z:Zt)(r:iy)(i k:Nat)(w:dN)(h:k8 w z r)(H:iQ w)(Q:kE r)(hf:Fit r k)(hk:k<=100000)(hi:i<r.n):
 eM eN 20 #[π (μ ⟨z.R,0,ν⟩),ι κ (i:Int),.bool up] w λe w'=>e=ρ (iP (r.iw i up).2)/\ig w w' z (r.iw i up).1 r.n:=by
 have hh:=ug z r i w h;rw[rX hi]at hh;have kV:(i:Int)<(r.n:Int):=dP;have Jv:(0:Int)<=(i:Int):=dP;have c1:=h.c1;have cl:=h.lt;have gl:=h.DK;have Z:=Nu up z.g (i*71) (z.B i) (z.v i) (r.P i) w (h.pt i hi) H (by have:=hf.out i hi;omega);have X:r.iw i up=if((r.P i).iw up).2≠0 then(r,((r.P i).iw up).2)else((r.iE i ((r.P i).iw up).1).meet i nobody,0):=rfl
 have Y:=(wD (r.P i) up).1;have M:=(wD (r.P i) up).2;have zi:r.iE i (r.P i)=r:=by
  have:kA r.P i (r.P i)=r.P:=by
   funext x
   unfold kA;by_cases e:x=i
   ·simp[e]
   ·simp[e]
  show({r with P:=kA r.P i (r.P i)}:iy)=r;rw[this]
 obtain⟨y,G⟩:=fP (((r.P i).iw up).1);obtain⟨f,V⟩:=fP (((r.P i).iw up).2);rw[G,V]at Z X;rw[G]at Y M;rw[V]at M;have E:Hid _:=h;have A:Hid (kE (r.iE i y)):=Q.iE i _ Y.1 (λhi=>by rw[Y.2];exact Q.pe i hi);clear h Q hf H;by_cases S:f=0
 ·subst S;rw[ae gN]at X;rw[X];have t:iP 0=η:=rfl;rw[t]at Z⊢
  go_in
  go_wp2_with(fail);refine hh.mono ?_;rintro e w0 ⟨rfl,rfl⟩;clear hh;go_wp2_with(fail);refine Z.mono ?_;rintro e J ⟨rfl,T⟩;have U:=E.out.port hi T;have D:eM eN 74 #[π (μ ⟨z.R,0,ν⟩),ι κ (i:Int),.agg #[ι κ 0,.bool false,ι κ 0]] J λe w'=>e=ρ (τ #[])/\ig w w' z ((r.iE i y).meet i nobody) r.n:=by
   refine U.call λz1 u hl=> ?_;rw[<-hl.R];exact um z1 _ i nobody J u A.out hi (nr.nobody A.out.id.1)
  clear Z T U;go_wp2_with(fail);refine D.mono ?_;rintro e w2 ⟨rfl,j⟩;clear D
  go_wp2
  go_ret;exact⟨rfl,j⟩
 ·rw[ag S]at X;rw[X];have hb:=M S;have ee:iP f=.iface 128 (ι κ (f:Int)):=by simp only[iP];rw[ae S]
  rw[ee]at Z⊢
  go_in
  go_wp2_with(fail);refine hh.mono ?_;rintro e w0 ⟨rfl,rfl⟩;clear hh;go_wp2_with(fail);refine Z.mono ?_;rintro e J ⟨rfl,T⟩;have U:=E.out.port hi T;rw[hb,zi]at U;clear Z T
  go_wp2
  go_ret;exact⟨rfl,U⟩
theorem NY(z:Zt)(r:iy)(w:dN)(h:k8 w z r):
 eM eN 32 #[π (μ ⟨z.R,0,ν⟩)] w λe w'=>e=ρ z.iv/\Row w' 3 z.iv r.jM.length (pV r.jM)/\ig w w' z {r with jM:=[] } r.n:=by
 have c3:=h.c3;have cl:=h.lt;have f3:=h.m9.frozen 3;have Z:Hid _:=h;clear h
 go_in
 go_wp2
 go_ret;refine⟨rfl,Z.out.ib.keep gN (λk Y=>ak _ _ _ k (by show k≠z.R;exact(Z.out.sI k Y).1)),?_⟩;exact Z.out.own (σ ν 0 0) [] r.drop gN rfl rfl rfl (λk _ X _=>ak _ _ _ k X) (Z.out.m9.set 3 _) (Row.nil _ 3) (λk Y=>by simp[dQ]at Y)
theorem Rp(z:Zt)(r:iy)(i:Nat)(w:dN)(h:k8 w z r)(hi:i<r.n):
 eM eN 29 #[π (μ ⟨z.R,0,ν⟩),ι κ (i:Int)] w λe w'=>e=ρ (τ #[.string ⟨(r.P i).out.toArray⟩,η])/\ig w w' z (r.out i) r.n:=by
 have hh:=ug z r i w h;rw[rX hi]at hh;have kV:(i:Int)<(r.n:Int):=dP;have Jv:(0:Int)<=(i:Int):=dP;have c1:=h.c1;have cl:=h.lt;have gl:=h.DK;have Z:=h.pt i hi;have X:=Z.Xu;have f70:=Z.fz 70 dS;have U:=Row.back Z.ou 140 9 5 bF du bT;have V:kM w (w.setCell ⟨z.g,i*71+70,ν⟩ (σ ν 0 0)) z.g (i*71) (z.B i) (z.v i) {r.P i with out:=[] }:=by
  obtain⟨F,hC,hF⟩:=Z.uV;have Y:=(kB.refl w z.g (i*71) 71).set (i*71+70) dP dP (σ ν 0 0);refine⟨⟨σ ν 0 0,⟨⟨F,(hC.set 70 dS (σ ν 0 0)).congr (LG (r.P i) (z.B i) (z.v i) (σ ν 0 0) F []),hF⟩,Z.lk.keep (Y.block _ Z.lk.lt (λe=>Z.gB e.symm)),Row.nil _ 1,gN,Z.ok,Z.gB,by simp[dQ],by simp[dQ],⟨Z.nz.1,Z.nz.2.1,by simp[dQ]⟩⟩,λk Y=>by simp[dQ]at Y⟩,⟨Y.os,Y.tape,Y.output,Y.size,λj Q S _ _=>Y.block j Q S,Y.cell,Y.fz⟩⟩
 have T:Hid (ig w (w.setCell ⟨z.g,i*71+70,ν⟩ (σ ν 0 0)) z (r.out i) r.n):=h.port hi V;generalize (r.P i).out=L at U⊢;generalize z.v i=v at X U;clear h Z V
 go_in
 go_wp2_with(fail);refine hh.mono ?_;rintro e w0 ⟨rfl,rfl⟩;clear hh
 go_wp2
 go_ret2
 exact⟨rfl,T.out⟩
