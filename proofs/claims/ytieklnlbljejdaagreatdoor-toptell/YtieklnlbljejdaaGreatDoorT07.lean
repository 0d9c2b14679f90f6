import Derived.Test.YtieklnlbljejdaaGreatDoorT06
open Go.Value renaming int → ι, slice → σ, pointer → π, tuple → τ, nilIface → η
open Go.IntKind renaming i64 → κ
open Go.Ending renaming returned → ρ
open Go.Obj renaming cells → γ
open Option renaming none → ν, some → μ
open Go renaming World → dN, Value → dO, Calls → eM
open Go.Proofs.Tryz renaming prog → eN
open And renaming intro → fD
set_option maxRecDepth 100000
set_option maxHeartbeats 8000000
namespace Go.Proofs.YtieklnlbljejdaaGreatDoor
open Go.RowKit
variable {ev:Int} {v:Value} {w:World}
theorem qH(w:dN):(zeroValue 37).run eN w=.ok (.agg #[ι κ 0,ι κ 0,σ ν 0 0]) w:=gJ
theorem aeX(ev:Int)(U:ev=0 \/ev=1 \/ev=2 \/ev=3)(B:Nat)(X:Nat->Prop)(s:LS)(v:dO)(ps:List PV)(w:dN)(Z:iQ w)(h:pK w B X s v ps)(hb:Bd s 100)(V:ps.length<=50)(hf:(iN s.st ev).2.2=0):
 eM eN 120 #[π (μ ⟨B,0,ν⟩),ι κ ev] w λe w'=>e=ρ η/\mF w w' B X (mX s ev) v ps (oA s ev (0,0,[])):=by
 have hz:=qH;have hc:=xh B X s v ps ⟨0,0,ν,0,0,[]⟩ ev w Z h hb (pG _ _ _ _ _) V hf;clear h Z hb hf;rcases U with rfl|rfl|rfl|rfl
 all_goals
  go_in
  go_wp2_with(fail);refine hc.mono ?_;rintro e w1 ⟨rfl,Y⟩;clear hc
  go_wp2
  go_ret;exact⟨rfl,Y⟩
theorem yu(B:Nat)(X:Nat->Prop)(s:LS)(v:dO)(ps:List PV)(w:dN)(h:pK w B X s v ps):
 eM eN 114 #[π (μ ⟨B,0,ν⟩)] w λe w'=>e=ρ (ι κ s.st)/\w=w':=by
 have hl:=h.lk.lt;have c6:w.cell? ⟨B,6,ν⟩=μ (ι κ s.st):=h.lk.cell 6;clear h
 go_in
 go_wp2
 go_ret;exact⟨rfl,rfl⟩
def j5(s:LS):LS:=if(decide (4<=s.st)&&decide (s.st<=8))=false then s else if 0<s.wt-1 then {s with wt:=s.wt-1}else if 0<s.lf then mX {s with wt:=s.wt-1} 4 else mX {s with wt:=s.wt-1} 5
def lO(s:LS):List kr:=if(decide (4<=s.st)&&decide (s.st<=8))=false then []else if 0<s.wt-1 then []else if 0<s.lf then oA {s with wt:=s.wt-1} 4 (0,0,[])else oA {s with wt:=s.wt-1} 5 (0,0,[])
theorem GK:∀s:Nat,4<=s->s<=8->(kF s 4).2.2=0/\(kF s 5).2.2=0:=by
 intro s Z h2;exact(show∀s,s<9->4<=s->(kF s 4).2.2=0/\(kF s 5).2.2=0 by decide+kernel) s dP Z
theorem Qa(B:Nat)(X:Nat->Prop)(s:LS)(v:dO)(ps:List PV)(w:dN)(hT:iQ w)(hB:B≠0)(t:v.ownBlock≠μ 0)(h:pK w B X s v ps)(hb:Bd s 100)(hn:ps.length<=50)(w1: -1000<=s.wt)(w2:s.wt<=1000):
 eM eN 147 #[π (μ ⟨B,0,ν⟩)] w λe w'=>e=ρ (τ #[])/\mF w w' B X (j5 s) v ps (lO s):=by
 have hz:=qH;have hl:=h.lk.lt;have c6:w.cell? ⟨B,6,ν⟩=μ (ι κ s.st):=h.lk.cell 6;have c8:w.cell? ⟨B,8,ν⟩=μ (ι κ s.lf):=h.lk.cell 8;have c9:w.cell? ⟨B,9,ν⟩=μ (ι κ s.wt):=h.lk.cell 9;have fz:∀j,w.frozen? ⟨B,j,ν⟩=false:=h.lk.frozen;have U:=Mv s.st w;cases Z:(decide (4<=s.st)&&decide (s.st<=8))
 ·have Y:j5 s=s:=by unfold j5;rw[ag Z]
  have V:lO s=[] :=by unfold lO;rw[ag Z]
  rw[Y,V];rw[Z]at U;have y:Hid (mF w w B X s v ps []):=mF.still h (Kept.refl _ _ _);clear h hb Y V Z
  go_in
  go_wp2_with(fail);refine U.mono ?_;rintro e w3 ⟨rfl,rfl⟩
  go_wp2
  first|go_end0|refine iq rfl rfl ?_
  exact⟨rfl,y.out⟩
 ·have T:pK (w.setCell ⟨B,9,ν⟩ (ι κ (s.wt-1))) B X {s with wt:=s.wt-1} v ps:=h.kG 9 _ _ rfl;have E:Kept w (w.setCell ⟨B,9,ν⟩ (ι κ (s.wt-1))) B v.ownBlock:=j8 (Kept.refl _ _ _) 9 _;have H:=E.tab hT hB t;have G:Bd {s with wt:=s.wt-1} 100:=⟨hb.o1,hb.o2,hb.l1,hb.l2⟩
  have jX:4<=s.st/\s.st<=8:=by simpa using Z
  have D:(iN s.st 4).2.2=0/\(iN s.st 5).2.2=0:=by
   obtain⟨J,W8⟩:∃J:Nat,s.st=J:=⟨s.st.toNat,dP⟩
   rw[W8];have:=GK J dP dP;rw[show(4:Int)=((4:Nat):Int)from rfl,show(5:Int)=((5:Nat):Int)from rfl,mC J 4 dP dS,mC J 5 dP dS];exact this
  by_cases M:0<s.wt-1
  ·have Y:j5 s={s with wt:=s.wt-1}:=by unfold j5;rw[ae (by rw[Z];simp),ag M]
   have V:lO s=[] :=by unfold lO;rw[ae (by rw[Z];simp),ag M]
   rw[Y,V];rw[Z]at U;have y:Hid (mF w _ B X _ v ps []):=mF.still T E;clear h T hb G Y V Z D jX H E
   go_in
   go_wp2_with(fail);refine U.mono ?_;rintro e w3 ⟨rfl,rfl⟩
   go_wp2
   first|go_end0|refine iq rfl rfl ?_
   exact⟨rfl,y.out⟩
  ·by_cases A:0<s.lf
   ·have Y:j5 s=mX {s with wt:=s.wt-1} 4:=by unfold j5;rw[ae (by rw[Z];simp),ae M,ag A]
    have V:lO s=oA {s with wt:=s.wt-1} 4 (0,0,[]):=by unfold lO;rw[ae (by rw[Z];simp),ae M,ag A]
    rw[Y,V];rw[Z]at U;have hc:=xh B X {s with wt:=s.wt-1} v ps ⟨0,0,ν,0,0,[]⟩ 4 _ H T G (pG _ _ _ _ _) hn D.1;clear h T hb G Y V Z D jX H
    go_in
    go_wp2_with(fail);refine U.mono ?_;rintro e w3 ⟨rfl,rfl⟩;go_wp2_with(fail);refine hc.mono ?_;rintro e w4 ⟨rfl,u⟩;clear hc
    go_wp2
    first|go_end0|refine iq rfl rfl ?_
    exact⟨rfl,u.from E⟩
   ·have Y:j5 s=mX {s with wt:=s.wt-1} 5:=by unfold j5;rw[ae (by rw[Z];simp),ae M,ae A]
    have V:lO s=oA {s with wt:=s.wt-1} 5 (0,0,[]):=by unfold lO;rw[ae (by rw[Z];simp),ae M,ae A]
    rw[Y,V];rw[Z]at U;have hc:=xh B X {s with wt:=s.wt-1} v ps ⟨0,0,ν,0,0,[]⟩ 5 _ H T G (pG _ _ _ _ _) hn D.2;clear h T hb G Y V Z D jX H
    go_in
    go_wp2_with(fail);refine U.mono ?_;rintro e w3 ⟨rfl,rfl⟩;go_wp2_with(fail);refine hc.mono ?_;rintro e w4 ⟨rfl,u⟩;clear hc
    go_wp2
    first|go_end0|refine iq rfl rfl ?_
    exact⟨rfl,u.from E⟩
def qU(s:LS)(ev:Int)(vX:kr):LS×List kr×Nat:=if(iN s.st ev).2.2=0 then(mX s ev,oA s ev vX,0)else(s,[],(iN s.st ev).2.2)
theorem rF {s:LS} (vX:kr)(h:(iN s.st ev).2.2=0):qU s ev vX=(mX s ev,oA s ev vX,0):=by unfold qU;rw[ag h]
theorem tV {s:LS} (vX:kr)(h:(iN s.st ev).2.2≠0):qU s ev vX=(s,[],(iN s.st ev).2.2):=by unfold qU;rw[ae h]
theorem rS(B:Nat)(X:Nat->Prop)(s:LS)(v:dO)(ps:List PV)(p:PV)(ev:Int)(w:dN)(Y:iQ w)(h:pK w B X s v ps)(hb:Bd s 100)(U:tD w X v p)(V:ps.length<=50):
 eM eN 171 #[π (μ ⟨B,0,ν⟩),ι κ ev,.agg #[ι κ p.code,ι κ p.id,σ p.a p.n p.cap]] w λe w'=>e=ρ (iP (qU s ev p.abs).2.2)/\mF w w' B X (qU s ev p.abs).1 v ps (qU s ev p.abs).2.1:=by
 by_cases hf:(iN s.st ev).2.2=0
 ·rw[rF _ hf];exact xh B X s v ps p ev w Y h hb U V hf
 ·rw[tV _ hf];obtain⟨D,nx,f,Z⟩:∃D nx f,iN s.st ev=(D,nx,f):=⟨_,_,_,rfl⟩
  rw[Z]at hf⊢;refine(Lq B X s v ps p ev D nx f w Y h Z hf).mono ?_;rintro e w' ⟨rfl,hb⟩;exact⟨by simp only[iP];rw[ae hf],mF.still (h.below hb) (Kept.iD B _ hb)⟩
theorem JB {mg:Int} {os:List jv} (h:(lb mg os).1=2):lb mg os=(2,os):=by
 unfold lb at*;split
 ·rename_i Z;rw[ag Z]at h;simp at h
 ·rename_i Z
  rw[ae Z]at h;split
  ·rename_i Y;rw[ag Y]at h;simp at h
  ·rfl
def rT(s:LS)(id:Int)(os:List jv):LS×List kr×Nat:=
 if(lb s.nm os).1=2 then(if(qU s 6 (2,id,os)).2.2=0 then((qU s 6 (2,id,os)).1.sized os,(qU s 6 (2,id,os)).2.1,0)else qU s 6 (2,id,os))else qU s 7 ((lb s.nm os).1,id,(lb s.nm os).2)
theorem GL(mg:Int):∀os:List jv,(pJ mg os).length<=os.length
 |[] =>by simp[pJ]
 |o::r=>by
  have ih:=GL mg r;have e:pJ mg (o::r)=vh mg o++pJ mg r:=by simp[pJ]
  have h1:(vh mg o).length<=1:=by
   unfold vh;split
   ·simp
   ·split<;>simp
  rw[e,ay,cS];omega
theorem JC(mg:Int)(os:List jv):(lb mg os).2.length<=os.length:=by
 unfold lb;split
 ·exact cy _ _
 ·split
  ·exact GL mg os
  ·exact Nat.le_refl _
theorem Bh(B:Nat)(X:Nat->Prop)(s:LS)(v:dO)(ps:List PV)(id:Int)(a:Option Addr)(n cap:Nat)(os:List jv)(w:dN)(hT:iQ w)(h:pK w B X s v ps)(hb:Bd s 100)(hn:ps.length<=50)
 (ho:iK w a n os) (jS:kd a cap) (zR:n<=1000) (m1:0<=s.nm) (m2:s.nm<=255) (Y:Int) (V:List jv) (hj:lb s.nm os=(Y,V)) (ev:Int) (wa:Y=2/\ev=6/\(iN s.st 6).2.2≠0 \/Y≠2/\ev=7):
 eM eN 211 #[π (μ ⟨B,0,ν⟩),.agg #[ι κ 1,ι κ id,σ a n cap]] w λe w'=>e=ρ (iP (qU s ev (Y,id,V)).2.2)/\mF w w' B X (qU s ev (Y,id,V)).1 v ps (qU s ev (Y,id,V)).2.1:=by
 have J:=gM w (γ #[ι κ 1,ι κ id,σ a n cap] 37);have hA:=λj=>aj w #[ι κ 1,ι κ id,σ a n cap] 37 (0,0) j;have hl:=h.lk.lt;have TE:=h.row.lt;have T:=h.below J;have hz:∀w:dN,(zeroValue 37).run eN w=.ok (.agg #[ι κ 0,ι κ 0,σ ν 0 0]) w:=λw=>gJ;have TG:=ho.1;obtain⟨U,H⟩:=fP (w.alloc (γ #[ι κ 1,ι κ id,σ a n cap] 37));obtain⟨Z,t⟩:=fP (w.heap.size);have d1:U.cell? ⟨Z,1,ν⟩=μ (ι κ id):=by rw[<-H,<-t];exact hA 1
 have d2:U.cell? ⟨Z,2,ν⟩=μ (σ a n cap):=by rw[<-H,<-t];exact hA 2
 rw[H]at T J;have HW:Hid _:=H;have HZ:Hid _:=t;clear hA H t hl;have c2:U.cell? ⟨B,2,ν⟩=μ (ι κ s.ns):=T.lk.cell 2;have c3:U.cell? ⟨B,3,ν⟩=μ (ι κ s.nm):=T.lk.cell 3;have Tr:=T.lk.lt;have FL:Z<U.heap.size:=af U _ d1;have Mu:=T.old;have zi:=T.self;have y:=Dn s.ns s.nm a n cap os U.drew m1 m2 dP jS (ho.below (iZ J));have vR:=JC s.nm os;rw[hj]at y vR;simp only at y vR;have hlj:V.length<=1000:=dP;clear vR hj;obtain⟨E,A⟩:=fP (iP (qU s ev (Y,id,V)).2.2);obtain⟨S',Xa⟩:∃S',(qU s ev (Y,id,V)).1=S':=⟨_,rfl⟩
 obtain⟨O',Xb⟩:∃O',(qU s ev (Y,id,V)).2.1=O':=⟨_,rfl⟩
 rw[A,Xa,Xb];have aeY:Y=2/\ev=6/\(∃f:Nat,E=.iface 128 (ι κ (f:Int))) \/Y≠2/\ev=7:=by
  rcases wa with⟨rfl,rfl,hf⟩|h7
  ·refine .inl ⟨rfl,rfl,(iN s.st 6).2.2,?_⟩;rw[<-A,tV _ hf];simp only[iP];rw[ae hf]
  ·exact .inr h7
 have D:Hid _:=fD A (fD Xa Xb);clear wa A Xa Xb
 go_in
 go_wp2_with(fail);rw[HW.out,HZ.out]
 go_region_with(go_at_call 228;refine y.mono ?_;rintro e G ⟨u,rfl,hM⟩)
 all_goals
  obtain⟨a',n',jd,rfl,hP⟩:=ER (X:=X) (v:=v) Y id hM hlj Mu (λk WX=>Nat.lt_of_lt_of_le (TE k WX) J.size);have wR:dV U G:=gD (iZ (aq _ _)) hM.below;have R2:=T.below wR;have WY:G.cell? ⟨Z,1,ν⟩=μ (ι κ id):=(wR.cell (p:=⟨Z,1,ν⟩) FL).trans d1;have ES:Z<G.heap.size:=af G _ WY;have MZ:=gM G (γ #[ι κ Y,ι κ id,σ a' n' jd] 37);have SS:=gD J (gD wR MZ);have R3:=R2.below MZ;have P3:=hP.kept zi (Kept.iD B v.ownBlock MZ) (λ_ e=>.inl e);have M:=rS B X s v ps ⟨Y,id,a',n',jd,V⟩ ev _ (hT.below SS) R3 hb P3 hn;have xk:PV.abs ⟨Y,id,a',n',jd,V⟩=(Y,id,V):=rfl;rw[xk,D.out.1,D.out.2.1,D.out.2.2]at M;clear xk D;clear hM hP R2 wR c2 c3 d1 d2 T y R3 P3;rcases aeY with⟨rfl,rfl,f,rfl⟩|⟨hc,rfl⟩
  ·go_wp2_with(fail);refine M.mono ?_;rintro e w4 ⟨rfl,hW⟩;clear M
   go_wp2
   go_ret;exact⟨rfl,hW.from (Kept.iD B v.ownBlock SS)⟩
  ·have vW:(Y !=2)=true:=by simpa using hc
   clear hc;go_wp2_with(fail);refine M.mono ?_;rintro e w4 ⟨rfl,hW⟩;clear M
   go_wp2
   go_ret;exact⟨rfl,hW.from (Kept.iD B v.ownBlock SS)⟩
theorem GM(B:Nat)(X:Nat->Prop)(s:LS)(v:dO)(ps:List PV)(id:Int)(a:Option Addr)(n cap:Nat)(os:List jv)(w:dN)(Y:iQ w)(h:pK w B X s v ps)(hb:Bd s 100)(V:ps.length<=50)
 (U:iK w a n os) (H:∀k,sE a n=μ k->¬X k/\v.ownBlock≠μ k/\k<w.heap.size) (T:kd a cap) (M:n<=1000) (m1:0<=s.nm) (m2:s.nm<=255):
 eM eN 211 #[π (μ ⟨B,0,ν⟩),.agg #[ι κ 1,ι κ id,σ a n cap]] w λe w'=>e=ρ (iP (rT s id os).2.2)/\mF w w' B X (rT s id os).1 v ps (rT s id os).2.1:=by
 by_cases Z:(lb s.nm os).1=2
 ·have J:=JB Z;by_cases hf:(iN s.st 6).2.2=0
  ·have e:rT s id os=((mX s 6).sized os,oA s 6 (2,id,os),0):=by
    unfold rT;rw[ag Z,rF _ hf,ag rfl]
   rw[e];exact GJ B X s v ps id a n cap os w Y h hb V U H T M m1 m2 J hf
  ·have e:rT s id os=qU s 6 (2,id,os):=by
    unfold rT;rw[ag Z,tV _ hf,ae hf]
   rw[e];exact Bh B X s v ps id a n cap os w Y h hb V U T M m1 m2 2 os J 6 (.inl ⟨rfl,rfl,hf⟩)
 ·have e:rT s id os=qU s 7 ((lb s.nm os).1,id,(lb s.nm os).2):=by
   unfold rT;rw[ae Z]
  rw[e];exact Bh B X s v ps id a n cap os w Y h hb V U T M m1 m2 _ _ rfl 7 (.inr ⟨Z,rfl⟩)
def LS.tell(s:LS)(code:Int)(os:List jv):LS:=if 6<=s.st then {s with ns:=(nX code os (s.ns,s.nm)).1,nm:=(nX code os (s.ns,s.nm)).2}else s
def rG(s:LS)(code id:Int)(os:List jv):LS×List kr×Nat:=
 if id≠s.ow then(s,[],6)else if code=2 then(if os≠nk s.qs s.qm then(s,[],6)else qU s 8 (0,id,[]))else qU (s.tell code os) 9 (0,id,[])
theorem JD(B:Nat)(X:Nat->Prop)(s:LS)(v:dO)(ps:List PV)(code id:Int)(a:Option Addr)(n cap:Nat)(os:List jv)(w:dN)(hT:iQ w)(Ak:B≠0)(hv0:v.ownBlock≠μ 0)(h:pK w B X s v ps)(hb:Bd s 100)(hn:ps.length<=50)
 (ho:iK w a n os) (zR:n<=1000):
 eM eN 212 #[π (μ ⟨B,0,ν⟩),.agg #[ι κ code,ι κ id,σ a n cap]] w λe w'=>e=ρ (iP (rG s code id os).2.2)/\mF w w' B X (rG s code id os).1 v ps (rG s code id os).2.1:=by
 have hk:=gM w (γ #[ι κ code,ι κ id,σ a n cap] 37);have hA:=λj=>aj w #[ι κ code,ι κ id,σ a n cap] 37 (0,0) j;have hl:=h.lk.lt;have J:=h.below hk;have hz:∀w:dN,(zeroValue 37).run eN w=.ok (.agg #[ι κ 0,ι κ 0,σ ν 0 0]) w:=λw=>gJ;obtain⟨U,jO⟩:=fP (w.alloc (γ #[ι κ code,ι κ id,σ a n cap] 37));obtain⟨Z,hZ⟩:=fP (w.heap.size);have d0:U.cell? ⟨Z,0,ν⟩=μ (ι κ code):=by rw[<-jO,<-hZ];exact hA 0
 have d1:U.cell? ⟨Z,1,ν⟩=μ (ι κ id):=by rw[<-jO,<-hZ];exact hA 1
 have d2:U.cell? ⟨Z,2,ν⟩=μ (σ a n cap):=by rw[<-jO,<-hZ];exact hA 2
 rw[jO]at J hk;have HW:Hid _:=jO;have HZ:Hid _:=hZ;have HBZ:Hid (B≠Z):=by show B≠Z;omega
 clear hA jO hZ hl;have c2:U.cell? ⟨B,2,ν⟩=μ (ι κ s.ns):=J.lk.cell 2;have c3:U.cell? ⟨B,3,ν⟩=μ (ι κ s.nm):=J.lk.cell 3;have c4:U.cell? ⟨B,4,ν⟩=μ (ι κ s.qs):=J.lk.cell 4;have c5:U.cell? ⟨B,5,ν⟩=μ (ι κ s.qm):=J.lk.cell 5;have c6:U.cell? ⟨B,6,ν⟩=μ (ι κ s.st):=J.lk.cell 6;have OY:U.cell? ⟨B,10,ν⟩=μ (ι κ s.ow):=J.lk.cell 10;have Tr:=J.lk.lt;have H:Z<U.heap.size:=af U _ d1;cases VC:(id !=s.ow)
 ·have qw:id=s.ow:=by simpa using VC
  cases h22:(code==2)
  ·have FP:code≠2:=by simpa using h22
   have A:rG s code id os=qU (s.tell code os) 9 (0,id,[]):=by
    unfold rG;rw[ae (by simpa using qw),ae FP]
   rw[A];clear A FP qw;by_cases h6:6<=s.st
   ·have et:s.tell code os={s with ns:=(nX code os (s.ns,s.nm)).1,nm:=(nX code os (s.ns,s.nm)).2}:=by unfold LS.tell;rw[ag h6]
    rw[et];clear et;have y:=λ(W:dN) (hW:dV w W)=>PF s.ns s.nm code a n cap os W dP (ho.below hW);generalize (nX code os (s.ns,s.nm)).1=ts at y⊢;generalize (nX code os (s.ns,s.nm)).2=tm at y⊢;obtain⟨E,hE⟩:=fP (iP (qU {s with ns:=ts,nm:=tm} 9 (0,id,[])).2.2);obtain⟨S',Xa⟩:∃S',(qU {s with ns:=ts,nm:=tm} 9 (0,id,[])).1=S':=⟨_,rfl⟩
    obtain⟨O',Xb⟩:∃O',(qU {s with ns:=ts,nm:=tm} 9 (0,id,[])).2.1=O':=⟨_,rfl⟩
    rw[hE,Xa,Xb];have HE:Hid _:=fD hE (fD Xa Xb);have HTo:Hid _:=y;clear hE Xa Xb y
    go_in
    go_wp2_with(fail);rw[HW.out,HZ.out]
    go_quiet(fail)
    go_wp2_with(fail);obtain⟨Y,G⟩:=fP (U.drewN nq);have V:dV U Y:=by rw[<-G];exact below_drewN (aq _ _) _
    rw[G];have T:=J.below V;have e0:Y.cell? ⟨Z,0,ν⟩=μ (ι κ code):=(V.cell (p:=⟨Z,0,ν⟩) H).trans d0;have e1:Y.cell? ⟨Z,1,ν⟩=μ (ι κ id):=(V.cell (p:=⟨Z,1,ν⟩) H).trans d1;have e2:Y.cell? ⟨Z,2,ν⟩=μ (σ a n cap):=(V.cell (p:=⟨Z,2,ν⟩) H).trans d2;have f2:Y.cell? ⟨B,2,ν⟩=μ (ι κ s.ns):=T.lk.cell 2;have f3:Y.cell? ⟨B,3,ν⟩=μ (ι κ s.nm):=T.lk.cell 3;have aaI:=T.lk.lt;have ES:Z<Y.heap.size:=af Y _ e1;have t:=gD hk V;have HR2:Hid _:=T;have hC:=HTo.out Y.drew (iZ t);clear d0 d1 d2 c2 c3 c4 c5 c6 OY J G V Tr H T HTo
    go_region_with(go_at_call 231;refine hC.mono ?_;rintro e M ⟨rfl,b3⟩;have MZ:dV Y M:=gD (iZ (aq _ _)) b3;have R3:=HR2.out.below MZ;have g2:M.cell? ⟨B,2,ν⟩=μ (ι κ s.ns):=R3.lk.cell 2;have g3:M.cell? ⟨B,3,ν⟩=μ (ι κ s.nm):=R3.lk.cell 3;have gf:∀j,M.frozen? ⟨B,j,ν⟩=false:=R3.lk.frozen;have gl:=R3.lk.lt;have z1:M.cell? ⟨Z,1,ν⟩=μ (ι κ id):=(MZ.cell (p:=⟨Z,1,ν⟩) ES).trans e1)
    all_goals
     have R4:pK ((M.setCell ⟨B,2,ν⟩ (ι κ ts)).setCell ⟨B,3,ν⟩ (ι κ tm)) B X {s with ns:=ts,nm:=tm} v ps:=(R3.kG 2 _ {s with ns:=ts} rfl).kG 3 _ _ rfl;have K4:Kept w ((M.setCell ⟨B,2,ν⟩ (ι κ ts)).setCell ⟨B,3,ν⟩ (ι κ tm)) B v.ownBlock:=j8 (j8 (Kept.iD B _ (gD t MZ)) 2 _) 3 _;have D:=rS B X {s with ns:=ts,nm:=tm} v ps ⟨0,id,ν,0,0,[]⟩ 9 _ (K4.tab hT Ak hv0) R4 ⟨hb.o1,hb.o2,hb.l1,hb.l2⟩ (pG _ _ _ _ _) hn;have xk:PV.abs ⟨0,id,ν,0,0,[]⟩=(0,id,[]):=rfl;rw[xk,HE.out.1,HE.out.2.1,HE.out.2.2]at D;clear xk HE R4 R3 hC;have aj1:Z<M.heap.size:=af M _ z1;have vZ:=HBZ.out;go_wp2_with(fail);refine D.mono ?_;rintro e w5 ⟨rfl,hW⟩;clear D
     go_wp2
     go_ret;exact⟨rfl,hW.from K4⟩
   ·have et:s.tell code os=s:=by unfold LS.tell;rw[ae h6]
    rw[et];clear et
    go_in
    go_wp2_with(fail);rw[HW.out,HZ.out]
    go_quiet(fail)
    obtain⟨Y,G⟩:=fP (U.drewN nq);have V:dV U Y:=by rw[<-G];exact below_drewN (aq _ _) _
    rw[G];have T:=J.below V;have e0:Y.cell? ⟨Z,0,ν⟩=μ (ι κ code):=(V.cell (p:=⟨Z,0,ν⟩) H).trans d0;have e1:Y.cell? ⟨Z,1,ν⟩=μ (ι κ id):=(V.cell (p:=⟨Z,1,ν⟩) H).trans d1;have f6:Y.cell? ⟨B,6,ν⟩=μ (ι κ s.st):=T.lk.cell 6;have aaI:=T.lk.lt;have ES:Z<Y.heap.size:=af Y _ e1;have t:=gD hk V;have D:=rS B X s v ps ⟨0,id,ν,0,0,[]⟩ 9 _ (hT.below t) T hb (pG _ _ _ _ _) hn;clear d0 d1 d2 c2 c3 c4 c5 c6 OY J G V Tr H T;go_wp2_with(fail);refine D.mono ?_;rintro e w5 ⟨rfl,hW⟩;clear D
    go_wp2
    go_ret;exact⟨rfl,hW.from (Kept.iD B v.ownBlock t)⟩
  ·have FP:code=2:=by simpa using h22
   subst FP;have HID:Hid _:=qw;clear h22 qw
   go_in
   go_wp2_with(fail);rw[HW.out,HZ.out]
   go_quiet(fail)
   go_wp2_with(fail);obtain⟨Y,G⟩:=fP (U.drewN nq);have V:dV U Y:=by rw[<-G];exact below_drewN (aq _ _) _
   rw[G];have T:=J.below V;have e0:Y.cell? ⟨Z,0,ν⟩=μ (ι κ 2):=(V.cell (p:=⟨Z,0,ν⟩) H).trans d0;have e1:Y.cell? ⟨Z,1,ν⟩=μ (ι κ id):=(V.cell (p:=⟨Z,1,ν⟩) H).trans d1;have e2:Y.cell? ⟨Z,2,ν⟩=μ (σ a n cap):=(V.cell (p:=⟨Z,2,ν⟩) H).trans d2;have f4:Y.cell? ⟨B,4,ν⟩=μ (ι κ s.qs):=T.lk.cell 4;have f5:Y.cell? ⟨B,5,ν⟩=μ (ι κ s.qm):=T.lk.cell 5;have aaI:=T.lk.lt;have ES:Z<Y.heap.size:=af Y _ e1;have t:=gD hk V;clear d0 d1 d2 c2 c3 c4 c5 c6 OY J G V Tr H VC
   go_region_with(first
    |(go_at_call 224;refine(Gd s.qs s.qm _).mono ?_;rintro e M ⟨u,rfl,hM⟩;obtain⟨ua,uc,rfl,un,ul⟩:=hM.shape;have k3:=hM.below;have g2:M.cell? ⟨Z,2,none⟩=some (.slice a n cap):=(k3.cell (p:=⟨Z,2,none⟩) ES).trans e2)
    |(go_at_call 230;refine(yr a ua cap uc n _ os (nk s.qs s.qm) M (ho.below (gD (iZ t) k3)) hM.opts.2 dP (by have:=Dz s.qs s.qm;omega)).mono ?_;rintro e w4 ⟨rfl,m4,rfl⟩))
   all_goals
    have k04:dV w (M.drewN m4):=below_drewN (gD (iZ t) k3) m4;have k24:dV Y (M.drewN m4):=below_drewN (gD (iZ (aq _ _)) k3) m4;have R4:=T.below k24;have g1:(M.drewN m4).cell? ⟨Z,1,ν⟩=μ (ι κ id):=(k24.cell (p:=⟨Z,1,ν⟩) ES).trans e1;have aj2:Z<(M.drewN m4).heap.size:=af _ _ g1;have D:=rS B X s v ps ⟨0,id,ν,0,0,[]⟩ 8 _ (hT.below k04) R4 hb (pG _ _ _ _ _) hn;have Xc:Hid _:=R4;clear T R4 k24 hM;by_cases Dl:os=nk s.qs s.qm
    ·have hd:decide (os=nk s.qs s.qm)=true:=by simp[Dl]
     have A:rG s 2 id os=qU s 8 (0,id,[]):=by
      unfold rG;rw[ae (by simpa using HID.out),ag rfl,ae (by simpa using Dl)]
     clear Dl
     try rw[hd]
     go_wp2_with(fail);refine D.mono ?_;rintro e w5 ⟨rfl,hW⟩;clear D
     go_wp2
     go_ret;rw[A];exact⟨rfl,hW.from (Kept.iD B v.ownBlock k04)⟩
    ·have hd:decide (os=nk s.qs s.qm)=false:=by simp[Dl]
     have A:rG s 2 id os=(s,[],6):=by
      unfold rG;rw[ae (by simpa using HID.out),ag rfl,ag Dl]
     clear Dl D
     try rw[hd]
     go_wp2
     go_ret;rw[A];exact⟨rfl,mF.still Xc.out (Kept.iD B v.ownBlock k04)⟩
 ·have qw:id≠s.ow:=by simpa using VC
  have A:rG s code id os=(s,[],6):=by
   unfold rG;rw[ag qw]
  rw[A];clear A qw
  go_in
  go_wp2_with(fail);rw[HW.out,HZ.out]
  go_quiet(fail)
  go_wp2
  go_ret;exact⟨rfl,mF.still (J.below (below_drewN (aq _ _) _)) (Kept.iD B v.ownBlock (below_drewN hk _))⟩
def jD(s:LS)(p:kr):LS×List kr×Nat:=
 if ju p.1 p.2.1 p.2.2≠0 then(s,[],ju p.1 p.2.1 p.2.2)else if p.1=1 then rT s p.2.1 p.2.2 else if p.1=5 then qU s 10 (0,p.2.1,[])else if p.1=6 then qU s 11 (0,p.2.1,[])else rG s p.1 p.2.1 p.2.2
theorem Qb(B:Nat)(X:Nat->Prop)(s:LS)(v:dO)(ps:List PV)(p:PV)(w:dN)(hT:iQ w)(Ak:B≠0)(hv0:v.ownBlock≠μ 0)(h:pK w B X s v ps)(hb:Bd s 100)(hn:ps.length<=50)(hp:tD w X v p)(m1:0<=s.nm)(m2:s.nm<=255):
 eM eN 185 #[π (μ ⟨B,0,ν⟩),.agg #[ι κ p.code,ι κ p.id,σ p.a p.n p.cap]] w λe w'=>e=ρ (iP (jD s p.abs).2.2)/\mF w w' B X (jD s p.abs).1 v ps (jD s p.abs).2.1:=by
 obtain⟨code,id,a,n,cap,os⟩:=p;obtain⟨G,jS,y,vR,sJ⟩:=hp;simp only at G jS y vR;have A:∀k,sE a n=μ k->¬X k/\v.ownBlock≠μ k/\k<w.heap.size:=sJ;have xk:PV.abs ⟨code,id,a,n,cap,os⟩=(code,id,os):=rfl;rw[xk];have E:=gM w (γ #[ι κ code,ι κ id,σ a n cap] 37);have hA:=λj=>aj w #[ι κ code,ι κ id,σ a n cap] 37 (0,0) j;have hC:=rQ code id a n cap os _ dP y (G.below E);have hz:∀w:dN,(zeroValue 37).run eN w=.ok (.agg #[ι κ 0,ι κ 0,σ ν 0 0]) w:=λw=>gJ;obtain⟨Z,hZ⟩:=fP (w.heap.size);have U:∀j,(w.alloc (γ #[ι κ code,ι κ id,σ a n cap] 37)).cell? ⟨Z,j,ν⟩= #[ι κ code,ι κ id,σ a n cap][j]? :=by rw[<-hZ];exact hA
 have T:Z<(w.alloc (γ #[ι κ code,ι κ id,σ a n cap] 37)).heap.size:=by simp;omega
 have u:Hid _:=hZ;clear hA hZ sJ xk;by_cases D:ju code id os=0
 ·have e0:iP 0=η:=rfl;rw[D,e0]at hC;have main:∀(ev:Int),∀V:dN,dV w V->eM eN 171 #[π (μ ⟨B,0,ν⟩),ι κ ev,.agg #[ι κ 0,ι κ id,σ ν 0 0]] V λe w'=>e=ρ (iP (qU s ev (0,id,[])).2.2)/\mF w w' B X (qU s ev (0,id,[])).1 v ps (qU s ev (0,id,[])).2.1:=by
   intro ev V k;refine(rS B X s v ps ⟨0,id,ν,0,0,[]⟩ ev V (hT.below k) (h.below k) hb (pG _ _ _ _ _) hn).mono ?_;rintro e w' ⟨rfl,M⟩;exact⟨rfl,M.from (Kept.iD B v.ownBlock k)⟩
  have H:jD s (code,id,os)=if code=1 then rT s id os else if code=5 then qU s 10 (0,id,[])else if code=6 then qU s 11 (0,id,[])else rG s code id os:=by
   unfold jD;rw[ae (by simpa using D)]
  rw[H];clear H D e0;by_cases t:code=1
  ·subst t;rw[ag rfl];have HH:∀V:dN,dV w V->eM eN 211 #[π (μ ⟨B,0,ν⟩),.agg #[ι κ 1,ι κ id,σ a n cap]] V λe w'=>e=ρ (iP (rT s id os).2.2)/\mF w w' B X (rT s id os).1 v ps (rT s id os).2.1:=by
    intro V k;refine(GM B X s v ps id a n cap os V (hT.below k) (h.below k) hb hn (G.below k) (λj K6=>by obtain⟨q1,q2,q3⟩:=A j K6;exact⟨q1,q2,Nat.lt_of_lt_of_le q3 k.size⟩) jS dP m1 m2).mono ?_;rintro e w' ⟨rfl,M⟩;exact⟨rfl,M.from (Kept.iD B v.ownBlock k)⟩
   clear main A h G
   go_in
   go_wp2_with(fail);refine hC.mono ?_;rintro e Y ⟨rfl,k1⟩;have d0:Y.cell? ⟨Z,0,ν⟩=μ (ι κ 1):=(k1.cell (p:=⟨Z,0,ν⟩) T).trans (U 0);have d1:Y.cell? ⟨Z,1,ν⟩=μ (ι κ id):=(k1.cell (p:=⟨Z,1,ν⟩) T).trans (U 1);have d2:Y.cell? ⟨Z,2,ν⟩=μ (σ a n cap):=(k1.cell (p:=⟨Z,2,ν⟩) T).trans (U 2);have Pn:Z<Y.heap.size:=af Y _ d0;have J:=HH Y (gD E k1);clear hC U T HH;rw[u.out];go_wp2_with(fail);refine J.mono ?_;rintro e w2 ⟨rfl,M⟩;clear J
   go_wp2
   go_ret;exact⟨rfl,M⟩
  ·rw[ae t];have b1:(code==1)=false:=by simpa using t
   by_cases h5:code=5
   ·subst h5;rw[ag rfl];clear A h G
    go_in
    go_wp2_with(fail);refine hC.mono ?_;rintro e Y ⟨rfl,k1⟩;have d0:Y.cell? ⟨Z,0,ν⟩=μ (ι κ 5):=(k1.cell (p:=⟨Z,0,ν⟩) T).trans (U 0);have d1:Y.cell? ⟨Z,1,ν⟩=μ (ι κ id):=(k1.cell (p:=⟨Z,1,ν⟩) T).trans (U 1);have Pn:Z<Y.heap.size:=af Y _ d0;have J:=main 10 Y (gD E k1);clear hC U T main;rw[u.out];go_wp2_with(fail);refine J.mono ?_;rintro e w2 ⟨rfl,M⟩;clear J
    go_wp2
    go_ret;exact⟨rfl,M⟩
   ·rw[ae h5];have b5:(code==5)=false:=by simpa using h5
    by_cases h6:code=6
    ·subst h6;rw[ag rfl];clear A h G
     go_in
     go_wp2_with(fail);refine hC.mono ?_;rintro e Y ⟨rfl,k1⟩;have d0:Y.cell? ⟨Z,0,ν⟩=μ (ι κ 6):=(k1.cell (p:=⟨Z,0,ν⟩) T).trans (U 0);have d1:Y.cell? ⟨Z,1,ν⟩=μ (ι κ id):=(k1.cell (p:=⟨Z,1,ν⟩) T).trans (U 1);have Pn:Z<Y.heap.size:=af Y _ d0;have J:=main 11 Y (gD E k1);clear hC U T main;rw[u.out];go_wp2_with(fail);refine J.mono ?_;rintro e w2 ⟨rfl,M⟩;clear J
     go_wp2
     go_ret;exact⟨rfl,M⟩
    ·rw[ae h6];have b6:(code==6)=false:=by simpa using h6
     have HH:∀V:dN,dV w V->eM eN 212 #[π (μ ⟨B,0,ν⟩),.agg #[ι κ code,ι κ id,σ a n cap]] V λe w'=>e=ρ (iP (rG s code id os).2.2)/\mF w w' B X (rG s code id os).1 v ps (rG s code id os).2.1:=by
      intro V k;refine(JD B X s v ps code id a n cap os V (hT.below k) Ak hv0 (h.below k) hb hn (G.below k) dP).mono ?_;rintro e w' ⟨rfl,M⟩;exact⟨rfl,M.from (Kept.iD B v.ownBlock k)⟩
     clear main A h G t h5 h6
     go_in
     go_wp2_with(fail);refine hC.mono ?_;rintro e Y ⟨rfl,k1⟩;have d0:Y.cell? ⟨Z,0,ν⟩=μ (ι κ code):=(k1.cell (p:=⟨Z,0,ν⟩) T).trans (U 0);have d1:Y.cell? ⟨Z,1,ν⟩=μ (ι κ id):=(k1.cell (p:=⟨Z,1,ν⟩) T).trans (U 1);have d2:Y.cell? ⟨Z,2,ν⟩=μ (σ a n cap):=(k1.cell (p:=⟨Z,2,ν⟩) T).trans (U 2);have Pn:Z<Y.heap.size:=af Y _ d0;have J:=HH Y (gD E k1);clear hC U T HH;rw[u.out];go_wp2_with(fail);refine J.mono ?_;rintro e w2 ⟨rfl,M⟩;clear J
     go_wp2
     go_ret;exact⟨rfl,M⟩
 ·have H:jD s (code,id,os)=(s,[],ju code id os):=by
   unfold jD;rw[ag D]
  rw[H];have ee:iP (ju code id os)=.iface 128 (ι κ (ju code id os:Int)):=by simp only[iP];rw[ae D]
  simp only[ee]at hC⊢;have HR:Hid (∀V:dN,dV w V->pK V B X s v ps):=λV k=>h.below k;clear H D ee h G;generalize ju code id os=f at hC⊢
  go_in
  go_wp2_with(fail);refine hC.mono ?_;rintro e Y ⟨rfl,k1⟩;clear hC
  go_wp2
  go_ret;exact⟨rfl,mF.still (HR.out _ (gD E k1)) (Kept.iD B v.ownBlock (gD E k1))⟩
def ko(s:LS)(ev:Int):LS×List kr×Nat:=if ev=0 \/ev=1 \/ev=2 \/ev=3 then qU s ev (0,0,[])else(s,[],1)
theorem Xd(ev:Int)(B:Nat)(X:Nat->Prop)(s:LS)(v:dO)(ps:List PV)(w:dN)(Y:iQ w)(h:pK w B X s v ps)(hb:Bd s 100)(T:ps.length<=50):
 eM eN 120 #[π (μ ⟨B,0,ν⟩),ι κ ev] w λe w'=>e=ρ (iP (ko s ev).2.2)/\mF w w' B X (ko s ev).1 v ps (ko s ev).2.1:=by
 have hz:=qH;have hc:=rS B X s v ps ⟨0,0,ν,0,0,[]⟩ ev w Y h hb (pG _ _ _ _ _) T;by_cases Z:ev=0 \/ev=1 \/ev=2 \/ev=3
 ·have e:ko s ev=qU s ev (0,0,[]):=by unfold ko;rw[ag Z]
  rw[e];clear h Y hb e;rcases Z with rfl|rfl|rfl|rfl
  all_goals
   go_in
   go_wp2_with(fail);refine hc.mono ?_;rintro e w1 ⟨rfl,U⟩;clear hc
   go_wp2
   go_ret;exact⟨rfl,U⟩
 ·have e:ko s ev=(s,[],1):=by unfold ko;rw[ae Z]
  rw[e];have b0:(ev==0)=false:=by simp;omega
  have b1:(ev==1)=false:=by simp;omega
  have b2:(ev==2)=false:=by simp;omega
  have b3:(ev==3)=false:=by simp;omega
  have V:Hid (mF w w B X s v ps []):=mF.still h (Kept.refl _ _ _);clear hc h Y hb e Z
  go_in
  go_wp2
  go_ret;exact⟨rfl,V.out⟩
section
variable {P:Program}
end
section
variable {P:Program} {md:Region.Mode} {ops:Array Oper} {Q:Exit->Act->World->Prop} {S:World->Prop}
theorem iR(i:Nat)(d:Option Tmp) {oi:Oper} {fuel:Nat} {listed:Array Bool} {a:Act} (hi:ops[i]? =μ oi)(hd:oi.dst=d)
 (hs:Region.noSelect ops=true) (hf:Region.free md ops listed i=true) (X:(Region.ready md ops listed).contains i=true)
 (Z:∀c a w,Q (.panic c) (a.put d v) w->Q (.panic c) a w) (V:Region.wanted oi (yielded ops a.tmps)=true) (hy:∀w,S w->(execOp a.eval oi).run P w=.ok (.value v) w) (Y:S w)
 (h:wpAnyH P md ops Q S fuel (listed.setIfInBounds i true) (a.put d v) w):wpAnyH P md ops Q S (fuel+1) listed a w:=by
 subst hd;exact wpAnyH_take hi hs hf X Z (Or.inl ⟨V,hy⟩) Y h
end
theorem rU {x:dN} {o:Obj} {B:Nat} {C:Array dO} {t:TypeId} (h:iM w B C t)(Z:(w.alloc o).drew.grownBy x v.ownBlock)(hv:v.ownBlock≠μ B):iM x B C t:=by
 refine h.keep ?_;rw[Z.block B (by show B<(w.alloc o).heap.size;have:=h.lt;simp;omega) (λe=>hv e.symm)];exact aQ w o B h.lt
theorem M3(B:Nat)(l code id:Int)(a:Option Addr)(n cap:Nat)(w:dN)(h1:(l==105)=false)(h2:(l==122)=false)(h3:(l==114)=false)(h4:(l==116)=false)(h5:(l==97)=false)(h6:(l==110)=false)(h7:(l==107)=false):
 eM eN 208 #[π (μ ⟨B,0,ν⟩),.int .u8 l,.agg #[ι κ code,ι κ id,σ a n cap]] w λe w'=>e=ρ (τ #[])/\dV w w':=by
 have hb:=gM w (γ #[ι κ code,ι κ id,σ a n cap] 37)
 go_in
 go_wp2
 first|go_end0|refine iq rfl rfl ?_
 exact⟨rfl,hb⟩
theorem JE(B:Nat)(fs fm ns nm qs qm sz lf wt ow code id:Int)(v:dO)(a:Option Addr)(n cap:Nat)(w:dN)(hT:iQ w)(h:Lk w B (Pp fs fm ns nm qs qm 0 sz lf wt ow v)):
 eM eN 171 #[π (μ ⟨B,0,ν⟩),ι κ 2,.agg #[ι κ code,ι κ id,σ a n cap]] w λe w'=>e=ρ η/\Lk w' B (Pp fs fm fs fm qs qm 1 255 lf wt ow v)/\w.grownBy w' (μ B):=by
 have H:=gM w (γ #[ι κ code,ι κ id,σ a n cap] 37);have hA:=λj=>aj w #[ι κ code,ι κ id,σ a n cap] 37 (0,0) j;have h0:=h.below H;have Vr:=hT.below H;have E:=Ey 0 2 [115] 1 0 (by decide+kernel) _ Vr;have e0:iP 0=η:=rfl;rw[e0]at E;have hl:=h.lt;have G:w.cell? ⟨B,6,ν⟩=μ (ι κ 0):=h.cell 6
 go_in
 go_wp2_with(fail);refine E.mono ?_;rintro e w1 ⟨rfl,m1,rfl⟩;obtain⟨Y,T⟩:=fP ((w.alloc (γ #[ι κ code,ι κ id,σ a n cap] 37)).drewN m1);obtain⟨Z,J⟩:=fP (w.heap.size);have d0:Y.cell? ⟨Z,0,ν⟩=μ (ι κ code):=by rw[<-T,<-J];exact hA 0
 have d1:Y.cell? ⟨Z,1,ν⟩=μ (ι κ id):=by rw[<-T,<-J];exact hA 1
 have d2:Y.cell? ⟨Z,2,ν⟩=μ (σ a n cap):=by rw[<-T,<-J];exact hA 2
 have V:Lk Y B (Pp fs fm ns nm qs qm 0 sz lf wt ow v):=by rw[<-T];exact h0
 have jZ:w.grownBy Y (μ B):=by rw[<-T];exact qE B (below_drewN H m1)
 rw[T,J];have X:B≠Z:=dP;clear E T J hA h0 Vr H h G hl e0 hT;have Tr:=V.lt;have c0:Y.cell? ⟨B,0,ν⟩=μ (ι κ fs):=V.cell 0;have c1:Y.cell? ⟨B,1,ν⟩=μ (ι κ fm):=V.cell 1;have c2:Y.cell? ⟨B,2,ν⟩=μ (ι κ ns):=V.cell 2;have c3:Y.cell? ⟨B,3,ν⟩=μ (ι κ nm):=V.cell 3;have G:Y.cell? ⟨B,6,ν⟩=μ (ι κ 0):=V.cell 6;have c7:Y.cell? ⟨B,7,ν⟩=μ (ι κ sz):=V.cell 7;have fz:∀j,Y.frozen? ⟨B,j,ν⟩=false:=V.frozen;have t:Hid (Lk ((((Y.setCell ⟨B,6,ν⟩ (ι κ 1)).setCell ⟨B,2,ν⟩ (ι κ fs)).setCell ⟨B,3,ν⟩ (ι κ fm)).setCell ⟨B,7,ν⟩ (ι κ 255)) B (Pp fs fm fs fm qs qm 1 255 lf wt ow v)):=((((V.set 6 _).set 2 _).set 3 _).set 7 _)
 have u:Hid (w.grownBy ((((Y.setCell ⟨B,6,ν⟩ (ι κ 1)).setCell ⟨B,2,ν⟩ (ι κ fs)).setCell ⟨B,3,ν⟩ (ι κ fm)).setCell ⟨B,7,ν⟩ (ι κ 255)) (μ B)):=(oc (oc (oc (oc jZ 6 _) 2 _) 3 _) 7 _)
 have D:Hid (((((Y.setCell ⟨B,6,ν⟩ (ι κ 1)).setCell ⟨B,2,ν⟩ (ι κ fs)).setCell ⟨B,3,ν⟩ (ι κ fm)).setCell ⟨B,7,ν⟩ (ι κ 255)).cell? ⟨Z,0,ν⟩=μ (ι κ code)):=by show _=_;rw[aI _ _ _ _ X,aI _ _ _ _ X,aI _ _ _ _ X,aI _ _ _ _ X];exact d0
 have A:Hid (((((Y.setCell ⟨B,6,ν⟩ (ι κ 1)).setCell ⟨B,2,ν⟩ (ι κ fs)).setCell ⟨B,3,ν⟩ (ι κ fm)).setCell ⟨B,7,ν⟩ (ι κ 255)).cell? ⟨Z,1,ν⟩=μ (ι κ id)):=by show _=_;rw[aI _ _ _ _ X,aI _ _ _ _ X,aI _ _ _ _ X,aI _ _ _ _ X];exact d1
 have y:Hid (((((Y.setCell ⟨B,6,ν⟩ (ι κ 1)).setCell ⟨B,2,ν⟩ (ι κ fs)).setCell ⟨B,3,ν⟩ (ι κ fm)).setCell ⟨B,7,ν⟩ (ι κ 255)).cell? ⟨Z,2,ν⟩=μ (σ a n cap)):=by show _=_;rw[aI _ _ _ _ X,aI _ _ _ _ X,aI _ _ _ _ X,aI _ _ _ _ X];exact d2
 go_wp2_with(fail);obtain⟨U,M⟩:=fP ((((Y.setCell ⟨B,6,ν⟩ (ι κ 1)).setCell ⟨B,2,ν⟩ (ι κ fs)).setCell ⟨B,3,ν⟩ (ι κ fm)).setCell ⟨B,7,ν⟩ (ι κ 255));have h2:Lk U B (Pp fs fm fs fm qs qm 1 255 lf wt ow v):=by rw[<-M];exact t.out
 have y8:w.grownBy U (μ B):=by rw[<-M];exact u.out
 have d0:U.cell? ⟨Z,0,ν⟩=μ (ι κ code):=by rw[<-M];exact D.out
 have d1:U.cell? ⟨Z,1,ν⟩=μ (ι κ id):=by rw[<-M];exact A.out
 have d2:U.cell? ⟨Z,2,ν⟩=μ (σ a n cap):=by rw[<-M];exact y.out
 rw[M];clear t u D A y M fz Tr G V jZ c0 c1 c2 c3 c7;have FL:Z<U.heap.size:=af U _ d0;refine bQ 2 ?_;rw[bH]
 go_wp2
 go_region_with(go_at_call 208;refine(M3 B 115 code id a n cap _ dS dS dS dS dS dS dS).mono ?_;rintro e V0 ⟨rfl,k0⟩)
 all_goals
  have L0:=(h2.drew).below k0;have g0:=zb y8 (zb (qE B (iZ (aq _ _))) (qE B k0));go_wp2_with(fail);rw[bH]
  go_wp2
  go_ret;exact⟨rfl,L0,g0⟩
theorem Qc(B:Nat)(fs fm ns nm qs qm sz lf wt ow:Int)(v:dO)(w:dN)(Z:iQ w)(h:Lk w B (Pp fs fm ns nm qs qm 0 sz lf wt ow v)):
 eM eN 120 #[π (μ ⟨B,0,ν⟩),ι κ 2] w λe w'=>e=ρ η/\Lk w' B (Pp fs fm fs fm qs qm 1 255 lf wt ow v)/\w.grownBy w' (μ B):=by
 have hz:=qH;have hc:=JE B fs fm ns nm qs qm sz lf wt ow 0 0 v ν 0 0 w Z h;clear h Z
 go_in
 go_wp2_with(fail);refine hc.mono ?_;rintro e w1 ⟨rfl,Y,X⟩
 go_wp2
 go_ret;exact⟨rfl,Y,X⟩
