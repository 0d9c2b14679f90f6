import Derived.Test.YtieklnlbljejdaaGreatDoorG15
open Go.Value renaming int → ι, slice → σ, pointer → π, tuple → τ, nilIface → η
open Go.IntKind renaming i64 → κ
open Go.Ending renaming returned → ρ
open Go.Obj renaming cells → γ
open Option renaming none → ν, some → μ
open Go renaming World → eB, Value → eD, Calls → fj
open List renaming length_append → eY, nil_append → gj, length_cons → eZ
open Go.Proofs.Tryz renaming prog → fk
open Go.Value renaming ownBlock → eF, int → eI
open Go.Instr renaming loadAt → fO
open Go.Sem renaming run_bind → fQ
open Go.RowKit renaming intOf → ft
set_option maxRecDepth 100000
set_option maxHeartbeats 4000000
namespace Go.Proofs.YtieklnlbljejdaaGreatDoor
open Go.RowKit
theorem qB.far {w w':eB} {B M:Nat} {X:Nat->Prop} {s:LS} {v:eD} {ps:List PV} (h:qB w B X s v ps)(k:Kept w w' M ν)(hM:X M)(jV:B≠M):qB w' B X s v ps:=by
 have hb:∀j,j<w.heap.size->j≠M->w'.heap[j]? =w.heap[j]? :=λj hj hm=>k.block j hj hm iC;refine⟨h.lk.keep (hb B h.lk.lt jV),h.row.keep k.size (λj hj=>hb j (h.row.lt j hj) (λe=>h.own j hj (by rw[e];exact hM))),h.own,h.self,λj hj=>Nat.lt_of_lt_of_le (h.old j hj) k.size,λp hp=> ?_⟩;obtain⟨o,z,l,f,fr⟩:=h.pk p hp;exact⟨o.Md (λj hj=>by obtain⟨a1,_,a3⟩:=fr j hj;exact hb j a3 (λe=>a1 (by rw[e];exact hM))),z,l,f,λj hj=>by obtain⟨a1,a2,a3⟩:=fr j hj;exact⟨a1,a2,Nat.lt_of_lt_of_le a3 k.size⟩⟩
theorem Cp:∀(L:List UInt8) (s:LS) (a:kZ),(wM L s a).length<=L.length
 |[],_,_=>Nat.le_refl _
 |c::r,s,a=>by
  have e:wM (c::r) s a=DJ c s a++wM r (pg c s) a:=rfl;have h1:=Cp r (pg c s) a;have h2:=Hq c s a;rw[e,aA,de];omega
theorem rX(s:LS)(ev:Int)(a:kZ):(rN s ev a).2.1.length<=4:=by
 by_cases hf:(jt s.st ev).2.2=0
 ·rw[sv _ hf];have h1:=Cp (jt s.st ev).1 (s.next (jt s.st ev).2.1) a;have h2:=yX s.st ev;show(oV s ev a).length<=4;unfold oV;omega
 ·rw[uJ _ hf];simp
theorem x5(s:LS)(ev:Int):(k7 s ev).2.1.length<=4:=by
 unfold k7;split
 ·exact rX _ _ _
 ·simp
theorem EB(s:LS):(mI s).length<=4:=by
 have hc:∀(s:LS) (ev:Int),(oV s ev (0,0,[])).length<=4:=λs ev=>by
  have h1:=Cp (jt s.st ev).1 (s.next (jt s.st ev).2.1) (0,0,[]);have h2:=yX s.st ev;unfold oV;omega
 unfold mI;split
 ·simp
 ·split
  ·simp
  ·split
   ·exact hc _ _
   ·exact hc _ _
theorem EC(s:LS)(p:kZ):(j4 s p).2.1.length<=4:=by
 unfold j4;split
 ·simp
 ·split
  ·unfold sQ;split
   ·split
    ·exact rX _ _ _
    ·exact rX _ _ _
   ·exact rX _ _ _
  ·split
   ·exact rX _ _ _
   ·split
    ·exact rX _ _ _
    ·unfold sy;split
     ·simp
     ·split
      ·split
       ·simp
       ·exact rX _ _ _
      ·exact rX _ _ _
open St
namespace Rt
variable {B g i j k n o:Nat} {F:Nat->Value} {K:Int->Option PS} {P:Nat->jF} {Q:Exit->Act->World->Prop} {a b c w w' w1:World} {id:Int} {ops:Array Oper} {out:List kZ} {p:jF} {r r':iY} {v:Value}
theorem ED(L:LS):(j3 L).2.length<=12:=by
 unfold j3;have h1:=EB L;have h2:=x5 (kE L) 1;have h3:=x5 (k7 (kE L) 1).1 0;split
 ·simp only[eY];omega
 ·simp only;omega
theorem Oo(g o B:Nat)(v:eD)(p:jF)(w:eB)(h:pR w g o B v p)(hT:jo w)(hn:p.out.length<=800000000):
 fj fk 82 #[π (μ ⟨g,o,ν⟩)] w λe w'=>e=ρ (τ #[])/\lz w w' g o B v p.tick:=by
 have hk:=Ab.tick h hT;have c1:=h.c1;have hl:=h.lt;have hlen:=ED p.L;clear h
 go_in
 go_wp2_with(fail);refine hk.mono ?_;rintro e w1 ⟨rfl,hG⟩;have kD:=hG.state;obtain⟨d1,dl⟩:=hG.ptr;clear hk c1 hl;go_wp2_with(fail);refine kD.mono ?_;rintro e w2 ⟨rfl,rfl⟩;clear kD;cases h3:((kE p.L).st==3)
 ·have e3:(kE p.L).st≠3:=by simpa using h3
  have et:j3 p.L=(kE p.L,mI p.L):=by unfold j3;rw[ae e3]
  have ep:p.tick=({p with L:=kE p.L}:jF).say (mI p.L):=by unfold jF.tick;rw[et]
  rw[et]at hlen;have hs:=hG.say (by simp only at hlen;omega) hn;rw[<-ep]at hs;have HE:Hid _:=ep;clear et ep e3 hG;go_wp2_with(fail);refine hs.mono ?_;rintro e w3 ⟨rfl,hW⟩;clear hs
  go_wp2
  first|go_end0|refine aj (ar rfl _ _ _) rfl ?_
  exact⟨rfl,hW⟩
 ·have e3:(kE p.L).st=3:=by simpa using h3
  have l1:=EB p.L;have l2:=x5 (kE p.L) 1;have hd1:=hG.do_ hT eE 1;have et:j3 p.L=((k7 (k7 (kE p.L) 1).1 0).1,mI p.L++(k7 (kE p.L) 1).2.1++(k7 (k7 (kE p.L) 1).1 0).2.1):=by unfold j3;rw[ag e3]
  have ep:p.tick=({p with L:=(k7 (k7 (kE p.L) 1).1 0).1}:jF).say (mI p.L++(k7 (kE p.L) 1).2.1++(k7 (k7 (kE p.L) 1).1 0).2.1):=by unfold jF.tick;rw[et]
  rw[et]at hlen;have HE:Hid _:=ep;clear et ep e3 hG;go_wp2_with(fail);refine hd1.mono ?_;rintro e w3 ⟨rfl,hG1⟩;have P9:=hG1.do_ hT (by simp only[eY];omega) 0;obtain⟨f1,fl⟩:=hG1.ptr;clear hd1 hG1;go_wp2_with(fail);refine P9.mono ?_;rintro e w4 ⟨rfl,hG2⟩;have hs:=hG2.say (Nat.le_trans (show _<=12 from hlen) eH) hn;clear P9 hG2;go_wp2_with(fail);refine hs.mono ?_;rintro e w5 ⟨rfl,hW⟩;clear hs
  go_wp2
  first|go_end0|refine aj (ar rfl _ _ _) rfl ?_
  refine⟨rfl,?_⟩;rw[HE.out];exact hW
theorem YL(ev:Int)(wW:ev=0 \/ev=1)(B:Nat)(X:Nat->Prop)(s:LS)(v:eD)(ps:List PV)(w:eB)(hT:jo w)(h:qB w B X s v ps)(hf:(k7 s ev).2.2≠0):
 fj fk 120 #[π (μ ⟨B,0,ν⟩),ι κ ev] w λe w'=>e=ρ (.iface 128 (ι κ ((k7 s ev).2.2:Int)))/\eN w w':=by
 have hz:=ry;have ed:k7 s ev=rN s ev (0,0,[]):=by unfold k7;rw[ag eE]
 rw[ed]at hf⊢;have kD:(jt s.st ev).2.2≠0:=λe=>hf (by rw[sv _ e]);rw[uJ _ kD];obtain⟨D,nx,f,hR⟩:∃D nx f,jt s.st ev=(D,nx,f):=⟨_,_,_,rfl⟩
 rw[hR]at kD⊢;have hc:=Ml B X s v ps ⟨0,0,ν,0,0,[]⟩ ev D nx f w hT h hR kD;clear h hT hR kD hf ed;rcases wW with rfl|rfl
 all_goals
  go_in
  go_wp2_with(fail);refine hc.mono ?_;rintro e w1 ⟨rfl,hW⟩;clear hc
  go_wp2
  go_ret;exact⟨rfl,hW⟩
theorem RW(p:jF)(B:Nat)(v:eD)(F G:Nat->eD)(r:ku):∀j,j<71->(if 2<=j/\j<2+65 then G (j-2)else vM p B v F j)=vM {p with rd:=r} B v G j:=by
 intro j hj;by_cases e:2<=j/\j<2+65
 ·rw[ag e];unfold vM;rw[ae eE,ae eE,ag eE]
 ·rw[ae e];unfold vM;by_cases e0:j=0
  ·simp[e0]
  ·by_cases e1:j=1
   ·simp[e1]
   ·have e2:¬j<67:=eE;simp[e0,e1,e2]
theorem Ab.read {w2:eB} (h:Ab w w1 g o B v p out)(r:ku)(hr:Rd w2 g (o+2) r.1 r.2.1 r.2.2)(hk:lb w1 w2 g (o+2) 65):Ab w w2 g o B v {p with rd:=r} out:=by
 obtain⟨vl,qs,hQ,ho⟩:=h.ex;obtain⟨F,hC,hF⟩:=hQ.vN;obtain⟨G,hG,hGF⟩:=hr;have hkg:Kept w1 w2 g ν:=⟨hk.os,hk.tape,hk.output,hk.size,λi hi jV _=>hk.block i hi jV⟩
 have hl:=hC.lt eH;refine⟨⟨vl,qs,⟨⟨G,(hC.join hk hG).congr (RW p B v F G r),hGF⟩,hQ.rep.far hkg hQ.xg (λe=>hQ.gB e.symm),hQ.ou.keep hk.size (λk sg=>hk.block k (hQ.ou.lt k sg) (λe=>hQ.vg (by rw[sg,e]))),hQ.few,hQ.ok,hQ.gB,hQ.vg,hQ.vB,hQ.nz,hQ.xg,hQ.xv⟩,ho⟩,?_⟩;refine h.kept.trans (v':=v) ⟨hk.os,hk.tape,hk.output,hk.size,λi hi h1 _ _=>hk.block i hi h1,λj hj=>hk.cell j eE,hk.fz⟩ (λ_ e=>.inl e)
theorem Ab.rdC(h:Ab w w1 g o B v p out):∃F,pL w1 g (o+2) 65 F/\Bc F p.rd.1 p.rd.2.1 p.rd.2.2:=by
 obtain⟨vl,qs,hQ,ho⟩:=h.ex;obtain⟨F,hC,hF⟩:=hQ.vN;refine⟨F,(hC.sub 2 65 eH).congr (λj hj=> ?_),hF⟩;unfold vM;rw[ae eE,ae eE,ag eE,show 2+j-2=j by omega]
theorem Oq(up:Bool)(g o B:Nat)(v:eD)(p:jF)(w:eB)(h:pR w g o B v p)(hT:jo w)(hn:p.out.length<=800000000):
 fj fk 73 #[π (μ ⟨g,o,ν⟩),.bool up] w λe w'=>e=ρ (jy (p.iW up).2)/\lz w w' g o B v (p.iW up).1:=by
 obtain⟨ev,wW⟩:∃ev:Int,(if up=true then(0:Int)else 1)=ev:=⟨_,rfl⟩
 have abY:ev=0 \/ev=1:=by rw[<-wW];cases up<;>simp
 have c1:=h.c1;have hl:=h.lt;by_cases hf:(k7 p.L ev).2.2=0
 ·have ep:p.iW up=(({p with L:=(k7 p.L ev).1,rd:=([],false,false)}:jF).say (k7 p.L ev).2.1,0):=by
   unfold jF.iW;rw[wW];simp only;rw[ae (by simpa using hf)]
  rw[ep];have hd:=h.begin.do_ hT iC ev;rw[hf]at hd;have e0:jy 0=η:=rfl;rw[e0]at hd⊢;have hlen:=x5 p.L ev;have hz:=Rb.1;have hZ:=xU;have HE:Hid _:=ep;clear ep hf h;cases up
  all_goals
   simp only[if_true,if_false,Bool.false_eq_true]at wW;subst wW
   go_in
   go_wp2_with(fail);refine hd.mono ?_;rintro e w1 ⟨rfl,hG⟩;obtain⟨F,hC,hF⟩:=hG.rdC;obtain⟨k1,k2,k3⟩:=B6 hC;have hs:=(hG.read ([],false,false) ⟨Kx,k2,Bc.zero⟩ k3).say (by simp only[gj];omega) hn;obtain⟨d1,dl⟩:=hG.ptr;have dl2:g<(w1.setCells g (o+2) Eu.toList).heap.size:=Nat.lt_of_lt_of_le dl k3.size;clear hd hG hC hF k2 k3;go_wp2_with(fail);refine hs.mono ?_;rintro e w3 ⟨rfl,hW⟩;clear hs
   go_wp2
   go_ret;exact⟨rfl,hW⟩
 ·have ep:p.iW up=(p,(k7 p.L ev).2.2):=by
   unfold jF.iW;rw[wW];simp only;rw[ag hf]
  rw[ep];have hd:=YL ev abY B _ p.L _ [] w hT (qB.rest h.lk) hf;have ee:jy (k7 p.L ev).2.2=.iface 128 (ι κ ((k7 p.L ev).2.2:Int)):=by simp only[jy];rw[ae hf]
  simp only;rw[ee];have HP:Hid _:=h;clear ep hf h ee;generalize (k7 p.L ev).2.2=f at hd⊢;cases up
  all_goals
   simp only[if_true,if_false,Bool.false_eq_true]at wW;subst wW
   go_in
   go_wp2_with(fail);refine hd.mono ?_;rintro e w1 ⟨rfl,hb⟩;clear hd
   go_wp2
   go_ret;exact⟨rfl,lz.still HP.out hb⟩
theorem pR.rest {w w1:eB} {g o B:Nat} {v:eD} {p:jF} (h:pR w g o B v p)(hb:eN w w1):PtQ w1 g o B v p (λk=>k<w.heap.size) (σ ν 0 0) [] :=by
 have h1:=h.below hb;exact⟨h1.vN,(qB.rest h.lk).below hb,h1.ou,h.few,h.ok,h.gB,h.vg,h.vB,h.nz,h.lt,λk hk=>h.ou.lt k hk⟩
theorem pR.take(h:pR w g o B v p)(hb:eN w w1)(hT:jo w)(code id:Int)(a:Option Addr)(n cap:Nat)(os:List j2)(ho:jm w1 a n os)(hz:kM a cap)(hle:n<=cap)(hn:n<=1000)
 (jw:∀j,eF (σ a n cap)=μ j->w.heap.size<=j/\j<w1.heap.size):
 fj fk 185 #[π (μ ⟨B,0,ν⟩),.agg #[ι κ code,ι κ id,σ a n cap]] w1 λe w'=>e=ρ (jy (j4 p.L (code,id,os)).2.2)/\Ab w w' g o B v {p with L:=(j4 p.L (code,id,os)).1} (j4 p.L (code,id,os)).2.1:=by
 have hQ:=h.rest hb;have hpv:um w1 (λk=>k<w.heap.size) (σ ν 0 0) ⟨code,id,a,n,cap,os⟩:=⟨ho,hz,hle,hn,λk hk=>by
  have si:eF (σ a n cap)=μ k:=Bu hk;obtain⟨h1,h2⟩:=jw k si;exact⟨eE,by simp[eF],h2⟩⟩
 refine(RO B _ p.L _ [] ⟨code,id,a,n,cap,os⟩ w1 (hT.below hb) hQ.nz.2.1 (by simp[eF]) hQ.rep hQ.ok.bd iC hpv hQ.ok.m1 hQ.ok.m2).mono ?_;rintro e w' ⟨rfl,hW⟩;refine⟨rfl,?_⟩;have h9:=Ab.went hQ rfl (nr.je o B v hb h.lt) hW (hQ.ok.j4 _);rw[List.map_nil,gj]at h9;exact h9
theorem IK(s:ByteArray)(g o B:Nat)(v:eD)(p:jF)(w:eB)(h:pR w g o B v p)(hT:jo w)(hs:s.size<=1000)(hn:p.out.length<=800000000):
 fj fk 133 #[π (μ ⟨g,o,ν⟩),.string s] w λe w'=>e=ρ (τ #[])/\lz w w' g o B v (p.packet s.data.toList):=by
 have hp:=Io s w hs;have HP:Hid _:=h;clear h
 go_in
 go_wp2_with(fail);refine hp.mono ?_;rintro e w1 ⟨a,n,cap,f,code,id,os,rfl,ho,hle,hR,hb,jw,hz⟩;clear hp;by_cases hf:f=0
 ·subst hf;have e0:jy 0=η:=rfl;rw[e0];have pK:os.length<=1000:=by
   have h1:jf s.data.toList=(code,id,os,0):=hR;unfold jf at h1;split at h1
   ·simp at h1
   ·split at h1
    ·rename_i h2
     have h3:mF (s.data.toList.drop 3)=os:=(dW (dW (dW h1).2).2).1;rw[h3]at h2;unfold jW at h2;split at h2
     ·simp at h2
     ·split at h2
      ·simp at h2
      ·omega
    ·simp at h1
  have mM:n<=1000:=by have:=ho.1;omega
  have ep:p.packet s.data.toList=({p with L:=(j4 p.L (code,id,os)).1}:jF).say (j4 p.L (code,id,os)).2.1:=by
   unfold jF.packet;rw[hR];rfl
  have ba:=iB w1 (γ #[ι κ code,ι κ id,σ a n cap] 37);have mf:=iA hb ba;have hA:=λj=>aq w1 #[ι κ code,ι κ id,σ a n cap] 37 (0,0) j;have ht:=HP.out.take (jO mf) hT code id a n cap os (ho.below (jO ba)) hz hle mM (λj hj=>⟨(jw j hj).1,Nat.lt_of_lt_of_le (jw j hj).2 ba.size⟩);have hlen:=EC p.L (code,id,os);obtain⟨W2,nH⟩:=gH (w1.alloc (γ #[ι κ code,ι κ id,σ a n cap] 37));obtain⟨Z,hZ⟩:=gH (w1.heap.size);rw[nH]at mf ht;have d0:W2.cell? ⟨Z,0,ν⟩=μ (ι κ code):=by rw[<-nH,<-hZ];exact hA 0
  have Yj:W2.cell? ⟨Z,1,ν⟩=μ (ι κ id):=by rw[<-nH,<-hZ];exact hA 1
  have d2:W2.cell? ⟨Z,2,ν⟩=μ (σ a n cap):=by rw[<-nH,<-hZ];exact hA 2
  have zl:Z<W2.heap.size:=af W2 _ d0;have d1:=(HP.out.below mf).c1;have dl:=(HP.out.below mf).lt;have HE:Hid _:=ep;have UL:Hid _:=nH;have HZ:Hid _:=hZ;clear ep hR ho jw hA nH hZ ba hb;go_wp2_with(fail);rw[UL.out,HZ.out]
  go_region_with(go_at_call 185;refine ht.mono ?_;rintro e w3 ⟨rfl,hG⟩)
  all_goals
   have hsy:=hG.say eE hn;clear ht hG;go_wp2_with(fail);refine hsy.mono ?_;rintro e w4 ⟨rfl,hW⟩;clear hsy
   go_wp2
   first|go_end0|refine aj (ar rfl _ _ _) rfl ?_
   refine⟨rfl,?_⟩;rw[HE.out];exact hW
 ·have ee:jy f=.iface 128 (ι κ (f:Int)):=by simp only[jy];rw[ae hf]
  rw[ee];have ep:p.packet s.data.toList=p:=by
   unfold jF.packet;rw[hR];simp only;rw[ae hf]
  have HW:Hid (lz w (w1.alloc (γ #[ι κ code,ι κ id,σ a n cap] 37)) g o B v (p.packet s.data.toList)):=by
   show lz _ _ _ _ _ _ _;rw[ep];exact lz.still HP.out (iA hb (iB _ _))
  clear ep hR ho jw hf ee
  go_wp2
  first|go_end0|refine aj (ar rfl _ _ _) rfl ?_
  exact⟨rfl,HW.out⟩
theorem wE(T:ByteArray)(c:UInt8)(own seq:Int)(a:Option Addr)(n cap:Nat)(es:List j2)(g o B:Nat)(v:eD)(p:jF)(w:eB)(h:pR w g o B v p)(hT:T.data.toList=[c])(ho:jm w a n es)(hf:pj own seq es=0)(hn:p.out.length<=800000000):
 fj fk 152 #[π (μ ⟨g,o,ν⟩),.string T,.agg #[ι κ own,ι κ seq,σ a n cap]] w λe w'=>e=ρ (τ #[])/\lz w w' g o B v (p.put c (sj own seq es)):=by
 have hk:=iB w (γ #[ι κ own,ι κ seq,σ a n cap] 40);have hA:=λj=>aq w #[ι κ own,ι κ seq,σ a n cap] 40 (0,0) j;have yF:=KK own seq a n cap es _ (ho.below hk) hf;have h6:=(jT hf).2.2.1;have pO:(sj own seq es).length<=100:=by
  have h1:∀l:List j2,(JT l).length=2*l.length:=by
   intro l
   induction l with
   |nil=>rfl
   |cons x l ih=>
    have e:JT (x::l)=u8 x.1::u8 x.2::JT l:=rfl;rw[e];simp only[eZ,ih];omega
  simp only[sj,eZ,h1];omega
 obtain⟨L,hL⟩:=gH (sj own seq es);rw[hL]at yF pO;rw[hL];have HP:Hid _:=h;clear h hL ho hf h6
 go_in
 go_wp2_with(fail);refine yF.mono ?_;rintro e w1 ⟨rfl,b1⟩;have k1:=iA hk b1;have nQ:=Bg g o B v p T ⟨L.toArray⟩ c w1 (HP.out.below k1) hT (by show L.toArray.size<=1000;simp;omega) eE;have eL:(⟨L.toArray⟩:ByteArray).data.toList=L:=iC;rw[eL]at nQ;clear yF b1;go_wp2_with(fail);refine nQ.mono ?_;rintro e w2 ⟨rfl,hW⟩;clear nQ
 go_wp2
 first|go_end0|refine aj (ar rfl _ _ _) rfl ?_
 exact⟨rfl,lz.trans (nr.je o B v k1 HP.out.lt) (λ_ e=>.inl e) hW⟩
def nh(l:List tV):List eD:=l.flatMap λt=>[ι κ t.1,ι κ t.2.1,.string ⟨t.2.2.toArray⟩]
structure Zt where
 R:Nat
 g:Nat
 cap:Nat
 B:Nat->Nat
 v:Nat->eD
 Bb:Nat
 fm:FM
 iv:eD
def Zt.mine(z:Zt)(n k:Nat):Prop:=k=z.R \/k=z.g \/(∃i,i<n/\(k=z.B i \/(z.v i).ownBlock=μ k)) \/z.iv.ownBlock=μ k
structure lW(w:eB)(z:Zt)(r:iY):Prop where
 n1:1<=r.n
 n3:r.n<=3
 KW:r.n<=z.cap
 id:1<=r.id/\r.id<=6
 nN:jr w z.R #[ι κ r.id,σ (μ ⟨z.g,0,ν⟩) r.n z.cap,π (μ ⟨z.Bb,0,ν⟩),z.iv,ι κ r.drop] 135
 pt:∀i,i<r.n->pR w z.g (i*71) (z.B i) (z.v i) (r.P i)
 ib:Row w 3 z.iv r.jA.length (nh r.jA)
 bs:BR w z.Bb z.fm 6 r.K r.O
 bl:z.fm.bs.length=r.n
 no:∀k,z.mine r.n k->z.fm.no k
 nb:¬z.fm.no z.Bb/\¬z.fm.no z.fm.g/\∀b,(b=z.fm.bm \/b∈z.fm.bs)->¬z.fm.no b
 sR:z.R≠z.g/\z.R≠0/\∀i,i<r.n->z.B i≠z.R/\(z.v i).ownBlock≠μ z.R
 sB:∀i j,i<r.n->j<r.n->i≠j->z.B i≠z.B j/\∀k,(z.v i).ownBlock=μ k->(z.v j).ownBlock≠μ k
 sV:∀i j,i<r.n->j<r.n->(z.v i).ownBlock≠μ (z.B j)
 sI:∀k,z.iv.ownBlock=μ k->k≠z.R/\k≠z.g/\∀i,i<r.n->k≠z.B i/\(z.v i).ownBlock≠μ k
 Ot:z.iv.ownBlock≠μ 0/\∀b,(b=z.fm.bm \/b∈z.fm.bs)->b≠0
structure x6(w w':eB)(z:Zt)(n:Nat):Prop where
 os:w'.os=w.os
 tape:w'.tape=w.tape
 output:w'.output=w.output
 size:w.heap.size<=w'.heap.size
 block:∀k,k<w.heap.size->¬z.mine n k->k≠z.fm.bm->k∉z.fm.bs->w'.heap[k]? =w.heap[k]?
structure Zt.like(z z':Zt):Prop where
 R:z'.R=z.R
 g:z'.g=z.g
 cap:z'.cap=z.cap
 B:z'.B=z.B
 Bb:z'.Bb=z.Bb
 bm:z'.fm.bm=z.fm.bm
 fg:z'.fm.g=z.fm.g
 bs:z'.fm.bs=z.fm.bs
structure iU(w w':eB)(z:Zt)(r:iY)(n:Nat):Prop where
 ex:∃z',lW w' z' r/\z.like z'/\(∀k,z'.mine n k->z.mine n k \/w.heap.size<=k)/\(∀k,z.fm.no k->z'.fm.no k)
 kept:x6 w w' z n
def ze(v:Nat->eD)(i:Nat)(x:eD):Nat->eD:=λj=>if j=i then x else v j
theorem oY(v:Nat->eD)(i:Nat)(x:eD):ze v i x i=x:=by simp[ze]
theorem nD(v:Nat->eD)(x:eD)(h:j≠i):ze v i x j=v j:=by simp[ze,h]
theorem jz(P:Nat->jF)(i:Nat)(p:jF):k8 P i p i=p:=by simp[k8]
theorem ju(P:Nat->jF)(p:jF)(h:j≠i):k8 P i p j=P j:=by simp[k8,h]
theorem lW.port {z:Zt} (h:lW w z r)(hi:i<r.n)(hW:lz w w' z.g (i*71) (z.B i) (z.v i) p):iU w w' z (r.jd i p) r.n:=by
 obtain⟨⟨v',hP,hv⟩,hK⟩:=hW;have kH:∀k,z.mine r.n k->k<w.heap.size:=λk hk=>h.bs.Oh k (h.no k hk);have MA:=(h.pt i hi).lt;have pw:∀k,k<w.heap.size->v'.ownBlock=μ k->(z.v i).ownBlock=μ k:=λk hk e=>by
  rcases hv k e with e1|e1
  ·exact e1
  ·omega
 have YM:z.mine r.n z.g/\z.mine r.n (z.B i)/\∀k,(z.v i).ownBlock=μ k->z.mine r.n k:=⟨.inr (.inl rfl),.inr (.inr (.inl ⟨i,hi,.inl rfl⟩)),λk hk=>.inr (.inr (.inl ⟨i,hi,.inr hk⟩))⟩
 have DX:∀k,k<w.heap.size->¬z.mine r.n k->w'.heap[k]? =w.heap[k]? :=λk hk hm=>hK.block k hk (λe=>hm (by rw[e];exact YM.1)) (λe=>hm (by rw[e];exact YM.2.1)) (λe=>hm (YM.2.2 k e));have Cb:=h.bs.still hK.size (λj hj hn=>DX j hj (λe=>hn (h.no j e))) h.nb.1 h.nb.2.1 h.nb.2.2 (λk=>z.fm.no k \/(w.heap.size<=k/\k<w'.heap.size/\v'.ownBlock=μ k)) (λj hj=>by
  rcases hj with e|e
  ·exact .inl e
  ·exact .inr e.1) (λj hj=>by
  rcases hj with e|e
  ·exact Nat.lt_of_lt_of_le (h.bs.Oh j e) hK.size
  ·exact e.2.1)
 have YO:∀b,(b=z.fm.bm \/b∈z.fm.bs)->b<w.heap.size:=h.bs.mlt;have YP:z.Bb<w.heap.size:=by obtain⟨_,_,hF,_⟩:=h.bs.ex;exact hF.lt
 have YQ:z.fm.g<w.heap.size:=by obtain⟨_,_,hF,_⟩:=h.bs.ex;exact hF.row.lt _ rfl
 refine⟨⟨{z with v:=ze z.v i v',fm:={z.fm with no:=λk=>z.fm.no k \/(w.heap.size<=k/\k<w'.heap.size/\v'.ownBlock=μ k)}},⟨h.n1,h.n3,h.KW,h.id,?_,?_,?_,Cb,h.bl,?_,?_,⟨h.sR.1,h.sR.2.1,?_⟩,?_,?_,?_,h.Ot⟩,⟨rfl,rfl,rfl,rfl,rfl,rfl,rfl,rfl⟩,?_,λk hk=>.inl hk⟩,⟨hK.os,hK.tape,hK.output,hK.size,λk hk hm _ _=>DX k hk hm⟩⟩
 ·exact h.nN.keep (hK.block z.R h.nN.lt h.sR.1 (λe=>(h.sR.2.2 i hi).1 e.symm) (h.sR.2.2 i hi).2)
 ·intro j hj;by_cases e:j=i
  ·subst e;show pR w' z.g (j*71) (z.B j) (ze z.v j v' j) (k8 r.P j p j);rw[oY,jz];exact hP
  ·show pR w' z.g (j*71) (z.B j) (ze z.v i v' j) (k8 r.P i p j);rw[nD _ _ e,ju _ _ e];have xd:=h.pt j hj;obtain⟨F,hC,hF⟩:=xd.vN;have hs:=h.sB j i hj hi e;refine⟨⟨F,λx hx=>⟨(hK.cell (j*71+x) ?_).trans (hC.cell x hx),(hK.fz _).trans (hC.fz x hx)⟩,hF⟩,xd.lk.keep (hK.block (z.B j) xd.lk.lt (λe=>xd.gB e.symm) hs.1 (h.sV i j hi hj)),xd.ou.keep hK.size (λk hk=>hK.block k (xd.ou.lt k hk) (λe=>xd.vg (by rw[hk,e])) (λe=>h.sV j i hj hi (by rw[hk,e])) (hs.2 k hk)),xd.few,xd.ok,xd.gB,xd.vg,xd.vB,xd.nz⟩;rcases Nat.lt_or_gt_of_ne e with h1|h1
   ·exact .inl eE
   ·exact .inr eE
 ·exact h.ib.keep hK.size (λk hk=>hK.block k (h.ib.lt k hk) (h.sI k hk).2.1 ((h.sI k hk).2.2 i hi).1 ((h.sI k hk).2.2 i hi).2)
 ·intro k hk;rcases hk with e|e|⟨j,hj,e|e⟩|e
  ·exact .inl (h.no k (.inl e))
  ·exact .inl (h.no k (.inr (.inl e)))
  ·exact .inl (h.no k (.inr (.inr (.inl ⟨j,hj,.inl e⟩))))
  ·by_cases ej:j=i
   ·subst ej;have e':v'.ownBlock=μ k:=by have:=e;simp only[oY]at this;exact this
    rcases hv k e' with e1|e1
    ·exact .inl (h.no k (.inr (.inr (.inl ⟨j,hj,.inr e1⟩))))
    ·exact .inr ⟨e1,hP.ou.lt k e',e'⟩
   ·have e':(z.v j).ownBlock=μ k:=by have:=e;simp only[nD _ _ ej]at this;exact this
    exact .inl (h.no k (.inr (.inr (.inl ⟨j,hj,.inr e'⟩))))
  ·exact .inl (h.no k (.inr (.inr (.inr e))))
 ·refine⟨λe=> ?_,λe=> ?_,λb hb e=> ?_⟩
  ·rcases e with e|e
   ·exact h.nb.1 e
   ·have h8:w.heap.size<=z.Bb:=e.1;omega
  ·rcases e with e|e
   ·exact h.nb.2.1 e
   ·have h8:w.heap.size<=z.fm.g:=e.1;omega
  ·rcases e with e|e
   ·exact h.nb.2.2 b hb e
   ·have h9:=YO b hb;omega
 ·intro j hj;refine⟨(h.sR.2.2 j hj).1,?_⟩;by_cases ej:j=i
  ·subst ej;show(ze z.v j v' j).ownBlock≠_;rw[oY];exact λe=>(h.sR.2.2 j hj).2 (pw _ h.nN.lt e)
  ·show(ze z.v i v' j).ownBlock≠_;rw[nD _ _ ej];exact(h.sR.2.2 j hj).2
 ·intro a b ha hb DE;refine⟨(h.sB a b ha hb DE).1,λk hk=> ?_⟩;show(ze z.v i v' b).ownBlock≠μ k;have si:(ze z.v i v' a).ownBlock=μ k:=hk;by_cases ea:a=i
  ·subst ea;rw[oY]at si;rw[nD _ _ (λe=>DE e.symm)];intro e;have Uf:=(h.pt b hb).ou.lt k e;exact(h.sB a b ha hb DE).2 k (pw k Uf si) e
  ·rw[nD _ _ ea]at si;by_cases eb:b=i
   ·subst eb;rw[oY];intro e;have Uf:=(h.pt a ha).ou.lt k si;exact(h.sB a b ha hb DE).2 k si (pw k Uf e)
   ·rw[nD _ _ eb];exact(h.sB a b ha hb DE).2 k si
 ·intro a b ha hb;show(ze z.v i v' a).ownBlock≠μ (z.B b);by_cases ea:a=i
  ·subst ea;rw[oY];exact λe=>h.sV a b ha hb (pw _ (h.pt b hb).lk.lt e)
  ·rw[nD _ _ ea];exact h.sV a b ha hb
 ·intro k hk;obtain⟨h1,h2,h3⟩:=h.sI k hk;refine⟨h1,h2,λj hj=>⟨(h3 j hj).1,?_⟩⟩;show(ze z.v i v' j).ownBlock≠μ k;by_cases ej:j=i
  ·subst ej;rw[oY];exact λe=>(h3 j hj).2 (pw k (h.ib.lt k hk) e)
  ·rw[nD _ _ ej];exact(h3 j hj).2
 ·intro k hk;rcases hk with e|e|⟨j,hj,e|e⟩|e
  ·exact .inl (.inl e)
  ·exact .inl (.inr (.inl e))
  ·exact .inl (.inr (.inr (.inl ⟨j,hj,.inl e⟩)))
  ·by_cases ej:j=i
   ·subst ej;have e':v'.ownBlock=μ k:=by have:=e;simp only[oY]at this;exact this
    rcases hv k e' with e1|e1
    ·exact .inl (.inr (.inr (.inl ⟨j,hj,.inr e1⟩)))
    ·exact .inr e1
   ·have e':(z.v j).ownBlock=μ k:=by have:=e;simp only[nD _ _ ej]at this;exact this
    exact .inl (.inr (.inr (.inl ⟨j,hj,.inr e'⟩)))
  ·exact .inl (.inr (.inr (.inr e)))
theorem x6.refl(w:eB)(z:Zt)(n:Nat):x6 w w z n:=⟨rfl,rfl,rfl,Nat.le_refl _,λ_ _ _ _ _=>rfl⟩
theorem x6.je(z:Zt)(n:Nat)(h:eN w w'):x6 w w' z n:=⟨h.os,h.tape,h.output,h.size,λk hk _ _ _=>h.block k hk⟩
theorem Zt.qX(z:Zt):z.like z:=⟨rfl,rfl,rfl,rfl,rfl,rfl,rfl,rfl⟩
theorem Zt.Cq {a b c:Zt} (h:a.like b)(k:b.like c):a.like c:=⟨k.R.trans h.R,k.g.trans h.g,k.cap.trans h.cap,k.B.trans h.B,k.Bb.trans h.Bb,k.bm.trans h.bm,k.fg.trans h.fg,k.bs.trans h.bs⟩
theorem lW.zf {z:Zt} (h:lW w z r):∀k,z.mine r.n k->k<w.heap.size:=λk hk=>h.bs.Oh k (h.no k hk)
theorem lW.below {w w':eB} {z:Zt} {r:iY} (h:lW w z r)(hb:eN w w'):lW w' z r:=
 ⟨h.n1,h.n3,h.KW,h.id,h.nN.keep (hb.block _ h.nN.lt),λi hi=>(h.pt i hi).below hb,h.ib.below hb,h.bs.below hb,h.bl,h.no,h.nb,h.sR,h.sB,h.sV,h.sI,h.Ot⟩
theorem iU.still {z:Zt} (h:lW w z r)(hb:eN w w'):iU w w' z r r.n:=
 ⟨⟨z,h.below hb,z.qX,λ_ e=>.inl e,λ_ e=>e⟩,x6.je z r.n hb⟩
theorem iU.refl {w:eB} {z:Zt} {r:iY} (h:lW w z r):iU w w z r r.n:=⟨⟨z,h,z.qX,λ_ e=>.inl e,λ_ e=>e⟩,x6.refl w z r.n⟩
theorem iU.step {z:Zt} (h:iU a b z r n)(k:∀z',lW b z' r->z.like z'->iU b c z' r' n):iU a c z r' n:=by
 obtain⟨⟨z',hR,hl,hm,mr⟩,hK⟩:=h;obtain⟨⟨z2,Hs,FC,yH,RX⟩,DL⟩:=k z' hR hl;refine⟨⟨z2,Hs,Zt.Cq hl FC,λx hx=> ?_,λx hx=>RX x (mr x hx)⟩,⟨DL.os.trans hK.os,DL.tape.trans hK.tape,DL.output.trans hK.output,Nat.le_trans hK.size DL.size,λx hx h1 h2 h3=>(DL.block x (Nat.lt_of_lt_of_le hx hK.size) (λe=> ?_) (by rw[hl.bm];exact h2) (by rw[hl.bs];exact h3)).trans (hK.block x hx h1 h2 h3)⟩⟩
 ·rcases yH x hx with e|e
  ·exact hm x e
  ·exact .inr (Nat.le_trans hK.size e)
 ·rcases hm x e with e1|e1
  ·exact h1 e1
  ·omega
theorem iU.below {z:Zt} (h:iU a b z r n)(hn:r.n=n)(hb:eN b c):iU a c z r n:=by
 subst hn;exact h.step λz' hR _=>iU.still hR hb
theorem iU.first {z:Zt} (hR:lW a z r)(hn:r.n=n)(hb:eN a b)(k:lW b z r->iU b c z r' n):iU a c z r' n:=by
 subst hn;obtain⟨⟨z2,Hs,FC,yH,RX⟩,DL⟩:=k (hR.below hb);exact⟨⟨z2,Hs,FC,λx hx=>(yH x hx).imp_right (λe=>Nat.le_trans hb.size e),RX⟩,⟨DL.os.trans hb.os,DL.tape.trans hb.tape,DL.output.trans hb.output,Nat.le_trans hb.size DL.size,λx hx h1 h2 h3=>(DL.block x (Nat.lt_of_lt_of_le hx hb.size) h1 h2 h3).trans (hb.block x hx)⟩⟩
theorem iU.tab {z:Zt} {r0:iY} (h:iU a b z r n)(hR:lW a z r0)(hn:r0.n=n)(hT:jo a):jo b:=λe s he hs=>by
 subst hn;refine(ai (a:=⟨0,e*10+s,ν⟩) (h.kept.block 0 hT.lt (λhm=> ?_) (λhm=> ?_) (λhm=> ?_))).trans (hT e s he hs)
 ·rcases hm with e|e|⟨i,hi,e|e⟩|e
  ·exact hR.sR.2.1 e.symm
  ·exact(hR.pt 0 hR.n1).nz.1 e.symm
  ·exact(hR.pt i hi).nz.2.1 e.symm
  ·exact(hR.pt i hi).nz.2.2 e
  ·exact hR.Ot.1 e
 ·exact hR.Ot.2 0 (.inl hm) rfl
 ·exact hR.Ot.2 0 (.inr hm) rfl
theorem lW.base {z:Zt} {K':Int->Option PS} {O':Nat->Int->Option PS} (h:lW w z r)(hB:BR w' z.Bb z.fm k K' O')(hk:jN w w' z.fm):iU w w' z {r with K:=K',O:=O'} r.n:=by
 have hb:∀x,z.mine r.n x->w'.heap[x]? =w.heap[x]? :=λx hx=>hk.block x (h.zf x hx) (λe=>h.nb.2.2 x (.inl e) (h.no x hx)) (λe=>h.nb.2.2 x (.inr e) (h.no x hx));refine⟨⟨z,⟨h.n1,h.n3,h.KW,h.id,h.nN.keep (hb _ (.inl rfl)),λi hi=> ?_,h.ib.keep hk.size (λx hx=>hb x (.inr (.inr (.inr hx)))),hB.six,h.bl,h.no,h.nb,h.sR,h.sB,h.sV,h.sI,h.Ot⟩,z.qX,λ_ e=>.inl e,λ_ e=>e⟩,⟨hk.os,hk.tape,hk.output,hk.size,λx hx _ h2 h3=>hk.block x hx h2 h3⟩⟩;have hp:=h.pt i hi;obtain⟨F,hC,hF⟩:=hp.vN;exact⟨⟨F,hC.keep (hb _ (.inr (.inl rfl))),hF⟩,hp.lk.keep (hb _ (.inr (.inr (.inl ⟨i,hi,.inl rfl⟩)))),hp.ou.keep hk.size (λx hx=>hb x (.inr (.inr (.inl ⟨i,hi,.inr hx⟩)))),hp.few,hp.ok,hp.gB,hp.vg,hp.vB,hp.nz⟩
theorem YR(p:jF)(B:Nat)(v:eD)(F:Nat->eD)(q:ln):∀j,j<71->qF (qF (qF (vM p B v F) 67 (.int .i64 q.who)) 68 (.bool q.both)) 69 (.int .i64 q.left) j=vM {p with pe:=q} B v F j:=by
 intro j hj;by_cases h1:j=69
 ·subst h1;simp[qF,vM]
 by_cases h2:j=68
 ·subst h2;simp[qF,vM]
 by_cases h3:j=67
 ·subst h3;simp[qF,vM]
 rw[jP _ _ h1,jP _ _ h2,jP _ _ h3];simp only[vM,h1,h2,h3,if_false]
theorem pR.peer(h:pR w g o B v p)(q:ln):
 lz w (((w.setCell ⟨g,o+67,ν⟩ (.int .i64 q.who)).setCell ⟨g,o+68,ν⟩ (.bool q.both)).setCell ⟨g,o+69,ν⟩ (.int .i64 q.left)) g o B v {p with pe:=q}:=by
 obtain⟨F,hC,hF⟩:=h.vN;have hk:lb w (((w.setCell ⟨g,o+67,ν⟩ (.int .i64 q.who)).setCell ⟨g,o+68,ν⟩ (.bool q.both)).setCell ⟨g,o+69,ν⟩ (.int .i64 q.left)) g o 71:=(((lb.refl w g o 71).set (o+67) eE eE _).set (o+68) eE eE _).set (o+69) eE eE _;have hb:∀x,x<w.heap.size->x≠g->_:=hk.block;refine⟨⟨v,⟨⟨F,(((hC.set 67 eH _).set 68 eH _).set 69 eH _).congr (YR p B v F q),hF⟩,h.lk.keep (hb B h.lk.lt (λe=>h.gB e.symm)),h.ou.keep hk.size (λx hx=>hb x (h.ou.lt x hx) (λe=>h.vg (by rw[hx,e]))),h.few,h.ok,h.gB,h.vg,h.vB,h.nz⟩,λ_ e=>.inl e⟩,⟨hk.os,hk.tape,hk.output,hk.size,λi hi h1 _ _=>hk.block i hi h1,hk.cell,hk.fz⟩⟩
theorem lW.own {z:Zt} (h:lW w z r)(YS:eD)(jA:List tV)(d:Int)(hs:w.heap.size<=w'.heap.size)(DA:w'.os=w.os)(JX:w'.tape=w.tape)(KU:w'.output=w.output)(hk:∀k,k<w.heap.size->k≠z.R->z.iv.ownBlock≠μ k->w'.heap[k]? =w.heap[k]?)
 (nR:jr w' z.R #[ι κ r.id,σ (μ ⟨z.g,0,ν⟩) r.n z.cap,π (μ ⟨z.Bb,0,ν⟩),YS,ι κ d] 135) (Uj:Row w' 3 YS jA.length (nh jA)) (jw:∀k,YS.ownBlock=μ k->z.iv.ownBlock=μ k \/w.heap.size<=k):iU w w' z {r with jA:=jA,drop:=d} r.n:=by
 have KX:∀k,z.iv.ownBlock=μ k->z.mine r.n k:=λk hk=>.inr (.inr (.inr hk));have DX:∀k,k<w.heap.size->¬z.mine r.n k->w'.heap[k]? =w.heap[k]? :=λk si hm=>hk k si (λe=>hm (.inl e)) (λe=>hm (KX k e));have Cb:=h.bs.still hs (λj hj hn=>DX j hj (λe=>hn (h.no j e))) h.nb.1 h.nb.2.1 h.nb.2.2 (λk=>z.fm.no k \/(w.heap.size<=k/\k<w'.heap.size/\YS.ownBlock=μ k)) (λj hj=>by
  rcases hj with e|e
  ·exact .inl e
  ·exact .inr e.1) (λj hj=>by
  rcases hj with e|e
  ·exact Nat.lt_of_lt_of_le (h.bs.Oh j e) hs
  ·exact e.2.1)
 have YO:∀b,(b=z.fm.bm \/b∈z.fm.bs)->b<w.heap.size:=h.bs.mlt;have YP:z.Bb<w.heap.size:=by obtain⟨_,_,hF,_⟩:=h.bs.ex;exact hF.lt
 have YQ:z.fm.g<w.heap.size:=by obtain⟨_,_,hF,_⟩:=h.bs.ex;exact hF.row.lt _ rfl
 have hI':∀k,k<w.heap.size->YS.ownBlock=μ k->z.iv.ownBlock=μ k:=λk hk e=>by
  rcases jw k e with e1|e1
  ·exact e1
  ·omega
 refine⟨⟨{z with iv:=YS,fm:={z.fm with no:=λk=>z.fm.no k \/(w.heap.size<=k/\k<w'.heap.size/\YS.ownBlock=μ k)}},⟨h.n1,h.n3,h.KW,h.id,nR,λi hi=> ?_,Uj,Cb,h.bl,?_,?_,h.sR,h.sB,h.sV,?_,?_⟩,⟨rfl,rfl,rfl,rfl,rfl,rfl,rfl,rfl⟩,?_,λk hk=>.inl hk⟩,⟨DA,JX,KU,hs,λk si hm _ _=>DX k si hm⟩⟩
 ·have hp:=h.pt i hi;obtain⟨F,hC,hF⟩:=hp.vN;have hz:=h.sR.2.2 i hi;refine⟨⟨F,hC.keep (hk _ hp.lt (λe=>h.sR.1 e.symm) (λe=>(h.sI _ e).2.1 rfl)),hF⟩,hp.lk.keep (hk _ hp.lk.lt hz.1 (λe=>((h.sI _ e).2.2 i hi).1 rfl)),hp.ou.keep hs (λx hx=>hk x (hp.ou.lt x hx) (λe=>hz.2 (by rw[hx,e])) (λe=>((h.sI x e).2.2 i hi).2 hx)),hp.few,hp.ok,hp.gB,hp.vg,hp.vB,hp.nz⟩
 ·intro k hk;rcases hk with e|e|e|e
  ·exact .inl (h.no k (.inl e))
  ·exact .inl (h.no k (.inr (.inl e)))
  ·exact .inl (h.no k (.inr (.inr (.inl e))))
  ·rcases jw k e with e1|e1
   ·exact .inl (h.no k (KX k e1))
   ·exact .inr ⟨e1,Uj.lt k e,e⟩
 ·refine⟨λe=> ?_,λe=> ?_,λb hb e=> ?_⟩
  ·rcases e with e|e
   ·exact h.nb.1 e
   ·have h8:w.heap.size<=z.Bb:=e.1;omega
  ·rcases e with e|e
   ·exact h.nb.2.1 e
   ·have h8:w.heap.size<=z.fm.g:=e.1;omega
  ·rcases e with e|e
   ·exact h.nb.2.2 b hb e
   ·have h9:=YO b hb;omega
 ·intro k hk;rcases jw k hk with e1|e1
  ·exact h.sI k e1
  ·refine⟨λe=> ?_,λe=> ?_,λi hi=>⟨λe=> ?_,λe=> ?_⟩⟩
   ·have e':k=z.R:=e;have:=h.nN.lt;omega
   ·have e':k=z.g:=e;have:=(h.pt 0 h.n1).lt;omega
   ·have e':k=z.B i:=e;have:=(h.pt i hi).lk.lt;omega
   ·have:=(h.pt i hi).ou.lt k e;omega
 ·refine⟨λe=> ?_,h.Ot.2⟩;rcases jw 0 e with e1|e1
  ·exact h.Ot.1 e1
  ·have:=h.nN.lt;omega
 ·intro k hk;rcases hk with e|e|e|e
  ·exact .inl (.inl e)
  ·exact .inl (.inr (.inl e))
  ·exact .inl (.inr (.inr (.inl e)))
  ·exact(jw k e).imp_left (KX k)
theorem lW.c0 {z:Zt} (h:lW w z r):w.cell? ⟨z.R,0,ν⟩=μ (ι κ r.id):=h.nN.cell 0
theorem lW.c1 {z:Zt} (h:lW w z r):w.cell? ⟨z.R,1,ν⟩=μ (σ (μ ⟨z.g,0,ν⟩) r.n z.cap):=h.nN.cell 1
theorem lW.c2 {z:Zt} (h:lW w z r):w.cell? ⟨z.R,2,ν⟩=μ (π (μ ⟨z.Bb,0,ν⟩)):=h.nN.cell 2
theorem lW.c3 {z:Zt} (h:lW w z r):w.cell? ⟨z.R,3,ν⟩=μ z.iv:=h.nN.cell 3
theorem lW.c4 {z:Zt} (h:lW w z r):w.cell? ⟨z.R,4,ν⟩=μ (ι κ r.drop):=h.nN.cell 4
theorem lW.lt {w:eB} {z:Zt} {r:iY} (h:lW w z r):z.R<w.heap.size:=h.nN.lt
theorem lW.G6 {z:Zt} (h:lW w z r):z.g<w.heap.size:=(h.pt 0 h.n1).lt
def hasB(i:Int)(n:Nat):Bool:=decide (0<=i)&&decide (i<(n:Int))
theorem ya(h:i<n):hasB (i:Int) n=true:=by simp[hasB];omega
theorem KY(i:Int)(n:Nat):hasB i n=false \/ ∃k:Nat,k<n/\i=(k:Int):=by
 by_cases h0:0<=i
 ·by_cases h1:i<(n:Int)
  ·exact .inr ⟨i.toNat,eE,eE⟩
  ·exact .inl (by simp[hasB,h1])
 ·exact .inl (by simp[hasB,h0])
theorem Cr(z:Zt)(r:iY)(i:Int)(w:eB)(h:lW w z r):
 fj fk 72 #[π (μ ⟨z.R,0,ν⟩),ι κ i] w λe w'=>e=ρ (.bool (hasB i r.n))/\w=w':=by
 have hl:=h.lt;have c1:=h.c1;unfold hasB;by_cases h0:0<=i
 ·by_cases h1:i<(r.n:Int)
  ·have hv:(decide (0<=i)&&decide (i<(r.n:Int)))=true:=by simp[h0,h1]
   rw[hv];clear hv h
   go_in
   go_wp2
   go_ret;exact⟨by first|rfl|(simp;omega),rfl⟩
  ·have hv:(decide (0<=i)&&decide (i<(r.n:Int)))=false:=by simp[h1]
   rw[hv];clear hv h
   go_in
   go_wp2
   go_ret;exact⟨by first|rfl|(simp;omega),rfl⟩
 ·have hv:(decide (0<=i)&&decide (i<(r.n:Int)))=false:=by simp[h0]
  rw[hv];clear hv h
  go_in
  go_wp2
  go_ret;exact⟨by first|rfl|(simp;omega),rfl⟩
structure nV(id:Int)(q:ln):Prop where
 who:0<=q.who/\q.who<=6
 me:q.who≠id
 both:q.both=true->1<=q.who
 left:0<=q.left/\q.left<=4
def Vl(K:Int->Option PS):Prop:=∀x,(K x).isSome=true->1<=x/\x<=6
theorem Vl.wv(h:Vl K) {k:Int} (hk:1<=k/\k<=6)(q:PS):Vl (uO K k q):=λx hx=>by
 unfold uO at hx;split at hx
 ·omega
 ·exact h x hx
structure lp(r:iY):Prop where
 id:1<=r.id/\r.id<=6
 m:∀i,i<r.n->1<=(r.P i).m/\(r.P i).m<=20
 pe:∀i,i<r.n->nV r.id (r.P i).pe
 own:∃q,r.K r.id=μ q/\pj r.id q.1 q.2=0
 RY:Vl r.K
theorem nV.nobody {id:Int} (h:1<=id):nV id Rt.nobody:=⟨⟨eH,eH⟩,λe=>(by have e2:(0:Int)=id:=e;omega),λe=>absurd e eH,⟨eH,eH⟩⟩
theorem nV.tick {q:ln} (hi:1<=id)(h:nV id q):nV id (jg q):=by
 unfold jg;split
 ·exact nV.nobody hi
 ·exact⟨h.who,h.me,h.both,by have:=h.left;simp;omega⟩
theorem nV.Vm {f s:Int} (hi:1<=id)(hf:1<=f/\f<=6):nV id (kf id f s):=by
 unfold kf;split
 ·exact nV.nobody hi
 ·rename_i h
  exact⟨by simp;omega,by simpa using h,λ_=>by simp;omega,iC⟩
def Ct(P:Nat->jF)(n:Int)(k:Nat):Prop:=(P k).pe.both=true/\(P k).pe.who=n/\(match kd P n k with|none=>true|some b=>decide ((P k).m<(P b).m))=true
instance(P:Nat->jF)(n:Int)(k:Nat):Decidable (Ct P n k):=by unfold Ct;infer_instance
theorem zg {n:Int} (h:Ct P n k):kd P n (k+1)=μ k:=by
 unfold kd;exact ag h
theorem yb {n:Int} (h:¬Ct P n k):kd P n (k+1)=kd P n k:=by
 have:kd P n (k+1)=if Ct P n k then μ k else kd P n k:=by
  rw[kd];by_cases hc:Ct P n k
  ·rw[ag hc];exact ag hc
  ·rw[ae hc];exact ae hc
 rw[this,ae h]
theorem pW {P:Nat->jF} {n:Int}:∀ {k b:Nat},kd P n k=μ b->b<k/\(P b).pe.both=true/\(P b).pe.who=n
 |0,b,h=>by simp[kd]at h
 |k+1,b,h=>by
  by_cases hc:Ct P n k
  ·rw[zg hc]at h;have:=Option.some.inj h;subst this;exact⟨eE,hc.1,hc.2.1⟩
  ·rw[yb hc]at h;have:=pW h;exact⟨eE,this.2⟩
def oh(r:iY)(j n:Nat):List j2:=(List.range' j n).filterMap λ(j:Nat)=>(kd r.P ((j:Int)+1) r.n).map λb=>((j:Int)+1,(r.P b).m)
theorem Ac(r:iY):jZ r=oh r 0 6:=by unfold jZ oh;rw[dk]
theorem qR {r:iY} (h:lp r):∀(n j:Nat) (ah:Int),ah<=j->j+n<=6->qt r.id ah (oh r j n)=0/\(oh r j n).length<=n
 |0,j,ah,_,_=>by simp[oh,qt]
 |n+1,j,ah,h1,h2=>by
  have ih:=qR h n (j+1) ((j:Int)+1) eE eE;have ih2:=qR h n (j+1) ah eE eE;have e:oh r j (n+1)=(match kd r.P ((j:Int)+1) r.n with|none=>oh r (j+1) n|some b=>((j:Int)+1,(r.P b).m)::oh r (j+1) n):=by
   unfold oh;rw[dN,cO];cases kd r.P ((j:Int)+1) r.n<;>simp
  cases hb:kd r.P ((j:Int)+1) r.n with
  |none=>
   rw[hb]at e;simp only at e;rw[e];exact⟨ih2.1,eE⟩
  |some b=>
   rw[hb]at e;simp only at e;rw[e];obtain⟨hbn,RZ,A8⟩:=pW hb;have hm:=h.m b hbn;have vK:=h.pe b hbn;have R6:=vK.me;rw[A8]at R6;refine⟨?_,by simp;omega⟩;unfold qt;rw[ae (by simp only;omega)];simp only
   first
    |exact ih.1
    |(rw[ae eE];exact ih.1)
    |(rw[ae eE,ae eE];exact ih.1)
theorem Cu(h:lp r) {seq:Int} (hs:1<=seq/\seq<=1000000):pj r.id seq (jZ r)=0:=by
 have he:=qR h 6 0 0 eE eE;rw[<-Ac]at he;have rO:=h.id;unfold pj;rw[ae eE,ae eE];exact he.1
theorem lp.jd {r:iY} (h:lp r)(i:Nat)(p:jF)(hm:p.m=(r.P i).m)(hp:i<r.n->nV r.id p.pe):lp (r.jd i p):=by
 refine⟨h.id,λj hj=> ?_,λj hj=> ?_,h.own,h.RY⟩
 ·show 1<=(k8 r.P i p j).m/\(k8 r.P i p j).m<=20;by_cases e:j=i
  ·subst e;simp only[k8,if_true];rw[hm];exact h.m j hj
  ·simp only[k8,if_neg e];exact h.m j hj
 ·show nV r.id (k8 r.P i p j).pe;by_cases e:j=i
  ·subst e;simp only[k8,if_true];exact hp hj
  ·simp only[k8,if_neg e];exact h.pe j hj
theorem lp.behind {r:iY} (h:lp r) {seq:Int} (hs:0<=seq):lp (r.behind seq):=by
 unfold iY.behind;split
 ·refine⟨h.id,h.m,h.pe,⟨(seq+1,jZ r),by simp[iY.w7,uO],Cu h eE⟩,h.RY.wv h.id _⟩
 ·exact h
theorem lp.seq(h:lp r):1<=zd r.K r.id/\zd r.K r.id<=1000000:=by
 obtain⟨q,hq,hs⟩:=h.own;have:=(jT hs).2.1;unfold zd;rw[hq];exact this
theorem lp.change {r:iY} (h:lp r):lp r.change:=by
 unfold iY.change;split
 ·exact h
 ·exact h.behind (by have:=h.seq;omega)
theorem lp.xe(h:lp r)(O':Nat->Int->Option PS):lp {r with O:=O'}:=⟨h.id,h.m,h.pe,h.own,h.RY⟩
theorem lp.meet {r:iY} (h:lp r)(i:Nat) {q:ln} (hq:nV r.id q):lp (r.meet i q):=by
 have h1:lp (r.jd i {r.P i with pe:=q}):=h.jd i _ rfl (λ_=>hq);unfold iY.meet;simp only;split
 ·exact h1
 ·split
  ·exact(h1.xe _).change.xe _
  ·exact(h1.xe _).change
def rowOf(m:Nat)(F:Nat->eD):Array eD:=(Array.range m).map F
theorem mC(m:Nat)(F:Nat->eD):(rowOf m F).size=m:=by simp[rowOf]
theorem rA(m:Nat)(F:Nat->eD)(j:Nat)(h:j<m):(rowOf m F)[j]? =μ (F j):=by simp[rowOf,h]
section
variable {P:Program}
theorem pL.loadAt {w:eB} {g o m:Nat} {F:Nat->eD} (h:pL w g o m F)(t:TypeId)(d:TypeDesc)(hu:P.underlying t=some d)(hd:(match d with| .struct _| .array _ _=>true|_=>false)=true)(hi:(P.info? t).map (·.size)=some m):
 (fO t (π (μ ⟨g,o,ν⟩))).run P w=.ok (.agg (rowOf m F)) w:=by
 have hl:(loadCells ⟨g,o,ν⟩ (rowOf m F).toList.length).run P w=.ok (rowOf m F).toList.toArray w:=
  run_loadCells_list (P:=P) w ⟨g,o,ν⟩ (rowOf m F).toList (λj v hv=>by
   have Cv:(⟨g,o,ν⟩:Addr).add j=⟨g,o+j,ν⟩:=by unfold Addr.add;split<;>simp_all
   have hj:j<m:=by
    have:=(aH.1 hv).1;simpa[rowOf]using this
   have e2:(rowOf m F).toList[j]? =μ (F j):=by simpa using rA m F j hj
   rw[Cv,h.cell j hj];exact e2.symm.trans hv)
 cases hq:P.info? t with
 |none=>simp[hq]at hi
 |some i=>
  have hs:i.size=m:=by simpa[hq]using hi
  have age:(isAgg t).run P w=.ok true w:=by
   unfold isAgg;rw[fQ,run_underlying hu w];cases d<;>simp_all
  simp only[Array.length_toList,Array.toArray_toList,mC]at hl;simp[fO,Instr.sureAddr,loadVar,fQ,age,sizeOf,typeInfo,hq,hs,hl]
theorem AL(w:eB) {rest:List Oper} {o:Oper} {a:Act} (Hc:o.guard=ν)(x:Operand)(t:TypeId)(ho:o.op=.load t x)
 (g off m:Nat) (F:Nat->eD) (d:TypeDesc) (hx:a.eval x=.pointer (some ⟨g,off,none⟩)) (hb:pL w g off m F) (hu:P.underlying t=some d) (hd:(match d with| .struct _| .array _ _=>true|_=>false)=true) (hi:(P.info? t).map (·.size)=some m)
 (h:wpList P ops Q rest (a.put o.dst (.agg (rowOf m F))) w):wpList P ops Q (o::rest) a w:=by
 refine wpList_plain Hc λK hK=> ?_;have hr:=pL.loadAt hb t d hu hd hi;unfold Oper.wp execOp;simp only[ho,fQ,Sem.run_pure,Result.andThen_ok,hx,hr];exact hK _ _ h
theorem nP(w:eB) {rest:List Oper} {o:Oper} {a:Act} (Hc:o.guard=ν)(x y:Operand)(t:TypeId)(ho:o.op=.store t x y)(hd:o.dst=ν)
 (B:Nat) (C D:Array eD) (hx:a.eval x=π (μ ⟨B,0,ν⟩)) (hy:a.eval y=.agg D) (hb:jr w B C t) (hs:C.size=D.size) (hi:(P.info? t).map (·.size)=μ D.size) (h1:D.all (·.oneCell')=true)
 (h:wpList P ops Q rest a (w.setRow B D)):wpList P ops Q (o::rest) a w:=by
 refine l8 w Hc x y t ho B C D hx hy hb hs hi h1 ?_;rw[hd];exact h
end
def YT:Nat->eD:=λj=>if j=0 then ι κ 0 else if j=1 then π ν else if j<67 then Kx (j-2)else if j=67 then ι κ 0 else if j=68 then .bool false else if j=69 then ι κ 0 else σ ν 0 0
theorem R7:(fk.info? 142).map (λi=>(i.zero,i.size))=μ (μ (.agg (rowOf 71 YT)),71):=gT
theorem KZ(w:eB):(zeroValue 142).run fk w=.ok (.agg (rowOf 71 YT)) w:=(cJ R7).1 w
theorem K0:(fk.info? 142).map (·.size)=μ 71:=(cJ R7).2
theorem Bc.one {l:List UInt8} {e d:Bool} (h:Bc F l e d)(j:Nat)(hj:j<65):(F j).oneCell'=true:=by
 by_cases h1:j<62
 ·obtain⟨x,hx⟩:=h.live j h1;rw[hx];rfl
 ·have:j=62 \/j=63 \/j=64:=eE;rcases this with rfl|rfl|rfl
  ·rw[h.many];rfl
  ·rw[h.esc];rfl
  ·rw[h.bad];rfl
theorem Ga(h:Bc F p.rd.1 p.rd.2.1 p.rd.2.2)(hv:v.oneCell'=true):(rowOf 71 (vM p B v F)).all (·.oneCell')=true:=by
 rw[Array.all_eq_true];intro j hj;rw[mC]at hj;have e:(rowOf 71 (vM p B v F))[j] =vM p B v F j:=by simp[rowOf]
 rw[e];unfold vM;by_cases h1:j=0
 ·simp[h1];rfl
 by_cases h2:j=1
 ·simp[h2];rfl
 by_cases h3:j<67
 ·simp only[h1,h2,h3,if_false,if_true];exact Bc.one h (j-2) eE
 by_cases h4:j=67
 ·simp[h4];rfl
 by_cases h5:j=68
 ·simp[h5];rfl
 by_cases h6:j=69
 ·simp[h6];rfl
 ·simp only[h1,h2,h3,h4,h5,h6,if_false];exact hv
theorem Row.one {xs:List eD} (h:Row w k v n xs):v.oneCell'=true:=by
 rcases h.2 with⟨e,_⟩|⟨g,c,e,_⟩
 ·rw[e];rfl
 ·rw[e];rfl
def EE:Option Nat->Int
 |none=>0
 |some b=>(b:Int)
theorem IL(P:Nat->jF)(n:Int)(k b:Nat)(h:kd P n k=μ b):b<k:=(pW h).1
theorem Cw(z:Zt)(r:iY)(x:Int)(w:eB)(h:lW w z r):
 fj fk 200 #[π (μ ⟨z.R,0,ν⟩),ι κ x] w λe w'=>e=ρ (τ #[ι κ (EE (kd r.P x r.n)),.bool (kd r.P x r.n).isSome])/\eN w w':=by
 have hl:=h.lt;have c1:=h.c1;have hz:=KZ;have qI:=K0;have wF:=h.n3;have A6:=h.KW;obtain⟨n,hn⟩:=gH (r.n);have HR:Hid _:=h;have HN:Hid _:=hn;rw[hn]at c1 wF A6;rw[hn];obtain⟨Zp,Qc⟩:=gH (rowOf 71 YT);have Ou:Zp.size=71:=by rw[<-Qc];exact mC _ _
 rw[Qc]at hz;clear h hn Qc
 go_in
 go_wp2
 go_loopw [6,7,15] (λb f i wr=>∃k:Nat,k<=n/\i=ι κ k/\b=ι κ (EE (kd r.P x k))/\f=.bool (kd r.P x k).isSome/\eN w wr) (λ_ _ i _=>n-(ft i).toNat)
 case atStart=>exact⟨0,Nat.zero_le _,rfl,rfl,rfl,au _ _⟩
 case round=>
  obtain⟨k,hk,rfl,rfl,rfl,ja⟩:=hrel;by_cases kH:k<n
  ·have nG:(k:Int)<(n:Int):=eE;have Ht:(0:Int)<=(k:Int):=eE;have R:=HR.out.below ja;have FN:k<r.n:=by rw[HN.out];exact kH
   have hp:=R.pt k FN;obtain⟨F,hC,hF⟩:=hp.vN;have pE:=Ga (B:=z.B k) (v:=z.v k) hF (Row.one hp.ou);have gl:=R.G6;have d1:=R.c1;have dl:=R.lt;rw[HN.out]at d1;have HM:Hid (∀b,kd r.P x k=μ b->wr.cell? ⟨z.g,b*71,ν⟩=μ (ι κ (r.P b).m)):=λb hb=>(R.pt b (by have:=IL _ _ _ _ hb;omega)).c0;obtain⟨D,hD⟩:=gH (rowOf 71 (vM (r.P k) (z.B k) (z.v k) F));have G7:D.size=71:=by rw[<-hD];exact mC _ _
   have a0:D[0]? =μ (ι κ (r.P k).m):=by rw[<-hD];exact rA 71 _ 0 eH
   have a67:D[67]? =μ (ι κ (r.P k).pe.who):=by rw[<-hD];exact rA 71 _ 67 eH
   have a68:D[68]? =μ (.bool (r.P k).pe.both):=by rw[<-hD];exact rA 71 _ 68 eH
   rw[hD]at pE;have ba:=iB wr (γ D 142);have hB:jr (wr.alloc (γ D 142)) wr.heap.size D 142:=jr.new _ _ _;have HB:Hid (eN w (wr.alloc (γ D 142))):=iA ja ba;have Yj:=(ai (a:=⟨z.R,1,ν⟩) (ba.block z.R dl)).trans d1;have dl':z.R<(wr.alloc (γ D 142)).heap.size:=Nat.lt_of_lt_of_le dl ba.size;have Oc:Hid (∀b,kd r.P x k=μ b->(wr.alloc (γ D 142)).cell? ⟨z.g,b*71,ν⟩=μ (ι κ (r.P b).m)):=λb hb=>(ai (a:=⟨z.g,b*71,ν⟩) (ba.block z.g gl)).trans (HM.out b hb);have gl':z.g<(wr.alloc (γ D 142)).heap.size:=Nat.lt_of_lt_of_le gl ba.size;have jw:=dX wr Zp D 142;go_wp2_with(first
    |(refine AL _ rfl (.tmp 18) 142 rfl z.g (k*71) 71 (vM (r.P k) (z.B k) (z.v k) F) _ rfl hC dB rfl qI ?_;rw[hD])
    |(refine nP _ rfl (.tmp 9) (.tmp 19) 142 rfl rfl wr.heap.size Zp D rfl rfl (jr.new _ _ _) (by rw[Ou,G7]) (by rw[G7];exact qI) pE ?_;rw[jw]))
   have y0:=(hB.cell 0).trans a0;have y67:=(hB.cell 67).trans a67;have y68:=(hB.cell 68).trans a68;have yl:wr.heap.size<(wr.alloc (γ D 142)).heap.size:=af _ _ y0;obtain⟨W,hW⟩:=gH (wr.alloc (γ D 142));obtain⟨Z,hZ⟩:=gH (wr.heap.size);rw[hW]at HB Oc Yj dl' gl' y0 y67 y68 yl;rw[hZ]at y0 y67 y68 yl;rw[hW,hZ];clear hW hZ jw hB ba HM pE hC hF hp R hD a0 a67 a68 G7 d1 dl gl;cases hb:(r.P k).pe.both with
   |false=>
    have HN:Hid _:=yb (P:=r.P) (n:=x) (k:=k) (λhc=>by have:=hc.1;rw[hb]at this;cases this);rw[hb]at y68
    go_wp2
    go_quiet(fail)
    go_wp2
    go_roundw
    case rel=>exact⟨k+1,eE,by go_num,by rw[HN.out],by rw[HN.out],below_drewN HB.out _⟩
    case measure=>simp[ft];omega
   |true=>
    rw[hb]at y68;cases hw:((r.P k).pe.who==x)with
    |false=>
     have HN:Hid _:=yb (P:=r.P) (n:=x) (k:=k) (λhc=>by have:=hc.2.1;simp[this]at hw)
     go_wp2
     go_quiet(fail)
     go_wp2
     go_roundw
     case rel=>exact⟨k+1,eE,by go_num,by rw[HN.out],by rw[HN.out],below_drewN HB.out _⟩
     case measure=>simp[ft];omega
    |true=>
     have Vn:(r.P k).pe.who=x:=by simpa using hw
     cases Cb:kd r.P x k with
     |none=>
      have HY:Hid _:=zg (P:=r.P) (n:=x) (k:=k) ⟨hb,Vn,by rw[Cb]⟩;have e1:EE ν=0:=rfl;have e2:(ν:Option Nat).isSome=false:=rfl;rw[e1,e2]
      go_wp2
      go_quiet(fail)
      go_wp2
      go_roundw
      case rel=>exact⟨k+1,eE,by go_num,by rw[HY.out];rfl,by rw[HY.out];rfl,below_drewN HB.out _⟩
      case measure=>simp[ft];omega
     |some b=>
      have hbk:=IL _ _ _ _ Cb;have hM:=Oc.out b Cb;have kt:(b:Int)<(n:Int):=eE;have wT:(0:Int)<=(b:Int):=eE;have e1:EE (μ b)=(b:Int):=rfl;have e2:(μ b:Option Nat).isSome=true:=rfl;by_cases hm:(r.P k).m<(r.P b).m
      ·have HY:Hid _:=zg (P:=r.P) (n:=x) (k:=k) ⟨hb,Vn,by rw[Cb];simp[hm]⟩;have hmd:decide ((r.P k).m<(r.P b).m)=true:=by simp[hm]
       rw[e1,e2];clear hm Cb
       go_wp2
       go_quiet(fail)
       go_wp2
       go_roundw
       case rel=>exact⟨k+1,eE,by go_num,by rw[HY.out];rfl,by rw[HY.out];rfl,below_drewN HB.out _⟩
       case measure=>simp[ft];omega
      ·have HN:Hid (kd r.P x (k+1)=μ b):=(yb (P:=r.P) (n:=x) (k:=k) (λhc=>by have:=hc.2.2;rw[Cb]at this;simp[hm]at this)).trans Cb;have hmd:decide ((r.P k).m<(r.P b).m)=false:=by simp[hm]
       rw[e1,e2];clear hm Cb
       go_wp2
       go_quiet(fail)
       go_wp2
       go_roundw
       case rel=>exact⟨k+1,eE,by go_num,by rw[HN.out];rfl,by rw[HN.out];rfl,below_drewN HB.out _⟩
       case measure=>simp[ft];omega
  ·have FN:k=n:=eE;subst FN
   go_wp2
   go_ret2
   exact⟨rfl,ja⟩
def DY(r:iY)(k:Nat):List j2:=(List.range k).filterMap λ(j:Nat)=>(kd r.P ((j:Int)+1) r.n).map λb=>((j:Int)+1,(r.P b).m)
theorem Ov(h:kd r.P ((k:Int)+1) r.n=ν):DY r (k+1)=DY r k:=by
 unfold DY;rw[cQ,dg];simp[h]
theorem Ow {b:Nat} (h:kd r.P ((k:Int)+1) r.n=μ b):DY r (k+1)=DY r k++ [((k:Int)+1,(r.P b).m)] :=by
 unfold DY;rw[cQ,dg];simp[h]
theorem Cx(z:Zt)(r:iY)(w:eB)(h:lW w z r):
 fj fk 179 #[π (μ ⟨z.R,0,ν⟩)] w λe w'=>∃v,e=ρ v/\Made w w' v (jZ r):=by
 obtain⟨i0,hi,oz,mW,nT⟩:=aW BL;have HR:Hid _:=h;clear h
 go_in
 go_wp2
 go_loopw [3,7] (λout i wr=>∃(k:Nat) (ao:Option Addr) (m cp:Nat),k<=6/\out=σ ao m cp/\i=ι κ k/\m<=k/\Row wr 2 (σ ao m cp) m (jh (DY r k))/\(∀j,eF (σ ao m cp)=μ j->w.heap.size<=j)/\eN w wr) (λ_ i _=>6-(ft i).toNat)
 case atStart=>exact⟨0,ν,0,0,Nat.zero_le _,rfl,rfl,Nat.le_refl _,by simpa[DY,jh]using Row.nil w 2,λj hj=>mZ hj,au _ _⟩
 case round=>
  obtain⟨k,ao,m,cp,hk,rfl,rfl,T6,ji,jw,ja⟩:=hrel;by_cases kH:k<6
  ·have nG:(k:Int)<6:=eE;have Ht:(0:Int)<=(k:Int):=eE;have R:=HR.out.below ja;have Ad:=Cw z r ((k:Int)+1) wr R;cases hb:kd r.P ((k:Int)+1) r.n with
   |none=>
    have Ad:fj fk 200 #[π (μ ⟨z.R,0,ν⟩),ι κ ((k:Int)+1)] wr λe w'=>e=ρ (τ #[ι κ 0,.bool false])/\eN wr w':=by
     rw[hb]at Ad;exact Ad
    have HU:Hid _:=Ov hb;have HRw:Hid _:=ji;have HB:Hid _:=ja;clear R hb ji ja;go_wp2_with(fail);refine Ad.mono ?_;rintro e w1 ⟨rfl,b1⟩;clear Ad
    go_wp2
    go_roundw
    case rel=>exact⟨k+1,_,m,cp,eE,rfl,by go_num,eE,by rw[HU.out];exact Row.below HRw.out b1,jw,iA HB.out b1⟩
    case measure=>simp[ft];omega
   |some b=>
    have Ad:fj fk 200 #[π (μ ⟨z.R,0,ν⟩),ι κ ((k:Int)+1)] wr λe w'=>e=ρ (τ #[ι κ (b:Int),.bool true])/\eN wr w':=by
     rw[hb]at Ad;exact Ad
    have HU:Hid _:=Ow hb;have hbn:=(pW hb).1;have HR1:Hid _:=R;have HRw:Hid _:=ji;have HB:Hid _:=ja;clear R hb ji ja;go_wp2_with(fail);refine Ad.mono ?_;rintro e w1 ⟨rfl,b1⟩;have R2:=HR1.out.below b1;have d1:=R2.c1;have dl:=R2.lt;have gl:=R2.G6;have g0:=(R2.pt b hbn).c0;have kt:(b:Int)<(r.n:Int):=eE;have wT:(0:Int)<=(b:Int):=eE;have uI:=Row.below HRw.out b1;have Cy:=iA HB.out b1;clear Ad R2;go_wp2_with(at_builtin;go_must(refine iX _ rfl (.tmp 18) (.tmp 30) 38 rfl 123 i0 (.agg #[ι κ 0,ι κ 0]) 2 16 cW hi oz mW nT rfl eH (σ ao m cp) m (jh (DY r k)) rfl (uI.alloc _) _ 1 1 [ι κ ((k:Int)+1),ι κ (r.P b).m] rfl rfl eH (nA _ _ _ _ _ iC) (lM _ _ _ _) (by unfold maxLen;omega) eE ?_));intro g' jL w2 kU ki jD;have mf:=lJ (Cy.alloc Cy.size _) ki jw;have mM:=nE (B:=w.heap.size) jD (by have:=Cy.size;omega) jw;rw[show [eI .i64 ((k:Int)+1),eI .i64 (r.P b).m] =[eI .i64 (((k:Int)+1,(r.P b).m):j2).1,eI .i64 (((k:Int)+1,(r.P b).m):j2).2]from rfl,<-mS,<-HU.out]at kU;clear ki jD
    go_wp2
    go_roundw
    case rel=>exact⟨k+1,_,m+1,jL,eE,rfl,by go_num,eE,kU,λj hj=>kG mM hj,mf⟩
    case measure=>simp[ft];omega
  ·have hk6:k=6:=eE;subst hk6;have Mg:m=(jZ r).length:=by have:=ji.1;rw[lI]at this;show m=(DY r 6).length;omega
   go_wp2
   go_ret;exact⟨_,rfl,⟨by rw[<-Mg];exact ji,jw,ja⟩⟩
theorem yW(a b:Option Addr)(ca cb n m:Nat)(os qs:List j2)(w:eB)(ha:jm w a n os)(hb:jm w b m qs)(hn:n<=1000000)(hm:m<=1000000):
 fj fk 178 #[σ a n ca,σ b m cb] w λe w'=>e=ρ (.bool (decide (os=qs)))/\∃k,w'=w.drewN k:=by
 have hl:=ha.1;have FC:=hb.1;by_cases Mr:n=m
 ·subst Mr;have heq:((n:Int) !=(n:Int))=false:=iC
  go_in
  go_wp2
  go_loopw [13] (λi wr=>∃k m:Nat,k<=n/\i=ι κ k/\os.take k=qs.take k/\wr=w.drewN m) (λi _=>n-(ft i).toNat)
  case atStart=>exact⟨0,0,Nat.zero_le _,rfl,rfl,rfl⟩
  case round=>
   obtain⟨k,m,hk,rfl,hT,rfl⟩:=hrel;have HT:Hid _:=hT;clear hT;by_cases kH:k<n
   ·rcases ha.2 with hA|⟨b1,o1,rfl,hA⟩
    ·omega
    rcases hb.2 with hB|⟨b2,o2,rfl,hB⟩
    ·omega
    obtain⟨c1,c2⟩:=hA k eE;obtain⟨c3,c4⟩:=hB k eE;have H1:Hid (os.take (k+1)=os.take k++ [os[k]'(by omega)]):=ax eE;have H2:Hid (qs.take (k+1)=qs.take k++ [qs[k]'(by omega)]):=ax eE;have H3:Hid (os=qs->os[k]'(by omega)=qs[k]'(by omega)):=λh=>by subst h;rfl
    clear hA hB;generalize os[k]'(by omega)=o at c1 c2 H1 H3;generalize qs[k]'(by omega)=q at c3 c4 H2 H3;have nG:(k:Int)<(n:Int):=eE;cases q1:(o.1==q.1)
    ·have jV:Hid (decide (os=qs)=false):=by
      show _=_;rw[bE];intro h;have:=H3.out h;rw[this]at q1;simp at q1
     go_wp2
     go_quiet(fail)
     go_wp2_with(fail);rw[jV.out];go_ret;exact⟨rfl,_,drewN_drewN _ _ _⟩
    ·cases q2:(o.2==q.2)
     ·have jV:Hid (decide (os=qs)=false):=by
       show _=_;rw[bE];intro h;have:=H3.out h;rw[this]at q2;simp at q2
      go_wp2
      go_quiet(fail)
      go_wp2_with(fail);rw[jV.out];go_ret;exact⟨rfl,_,drewN_drewN _ _ _⟩
     ·have HE:Hid (os.take (k+1)=qs.take (k+1)):=by
       show _=_;rw[H1.out,H2.out,HT.out];simp at q1 q2;congr 2;exact bu q1 q2
      go_wp2
      go_quiet(fail)
      go_wp2
      go_roundw
      case rel=>exact⟨k+1,_,eE,by go_num,HE.out,rfl⟩
      case measure=>simp[ft];omega
   ·have sO:decide (os=qs)=true:=by
     have h1:os.take k=os:=aK eE;have h2:qs.take k=qs:=aK eE;have:=HT.out;rw[h1,h2]at this;simp[this]
    go_wp2_with(fail);rw[sO];go_ret;exact⟨rfl,m,rfl⟩
 ·have heq:((n:Int) !=(m:Int))=true:=by simp;omega
  have jV:decide (os=qs)=false:=by
   rw[bE];intro h;subst h;omega
  rw[jV]
  go_in
  go_wp2
  go_ret;exact⟨rfl,0,rfl⟩
theorem Ox(C:nj)(o:Nat)(e:j2)(es:List j2):yT C o (e::es)=yT (xP C o e.1.toNat e.2) o es:=rfl
theorem MO(o:Nat)(own:Int)(x y:Nat):∀(es:List j2) (ah:Int) (C:nj),qt own ah es=0->yT C o es x y=if x=o then((es.find? λe=>e.1==(y:Int)).map (·.2)).getD (C x y)else C x y
 |[],_,C,_=>by
  show C x y=_;split<;>simp
 |e::es,ah,C,h=>by
  unfold qt at h;split at h
  ·simp at h
  ·rename_i h1
   split at h
   ·simp at h
   ·rw[Ox,MO o own x y es e.1 _ h];by_cases hx:x=o
    ·rw[ag hx,ag hx,List.find?_cons];by_cases hy:e.1=(y:Int)
     ·have e1:(e.1==(y:Int))=true:=by simp[hy]
      rw[e1];have hn:es.find? (λe=>e.1==(y:Int))=ν:=by
       rw[List.find?_eq_none];intro f hf;have:=MP own es e.1 h f hf;simp;omega
      rw[hn];simp only[Option.map_none,Option.getD_none,Option.map_some,Option.getD_some,xP];rw[ag ⟨hx,eE⟩]
     ·have e1:(e.1==(y:Int))=false:=by simp[hy]
      rw[e1];have:xP C o e.1.toNat e.2 x y=C x y:=by
       simp only[xP];rw[ae eE]
      rw[this]
    ·rw[ae hx,ae hx];simp only[xP];rw[ae eE]
where
 MP (own:Int):∀(es:List j2) (ah:Int),qt own ah es=0->∀f∈es,ah<f.1
  |[],_,_,f,hf=>by simp at hf
  |e::es,ah,h,f,hf=>by
   unfold qt at h;split at h
   ·simp at h
   ·split at h
    ·simp at h
    ·rcases bn.1 hf with rfl|hf
     ·omega
     ·have:=MP own es e.1 h f hf;omega
def gAt(es:List j2)(y:Nat):Int:=((es.find? λe=>e.1==(y:Int)).map (·.2)).getD 0
theorem IP {K:Int->Option PS} {n:Nat} {S:Nat->SV} {E:Nat->List j2} (h:wB K n S E)(x y:Nat):∀k,k<=n->(∀j,j<k->(S j).own=(x:Int)->lP S E k x y=gAt (E j) y)/\((∀j,j<k->(S j).own≠(x:Int))->lP S E k x y=0)
 |0,_=>⟨λj hj=>eE,λ_=>rfl⟩
 |k+1,hk=>by
  have ih:=IP h x y k eE;have kD:=h.ok k eE;obtain⟨ho,_,_,he⟩:=jT kD;have e1:lP S E (k+1) x y=if x=(S k).own.toNat then(((E k).find? λe=>e.1==(y:Int)).map (·.2)).getD (lP S E k x y)else lP S E k x y:=MO (S k).own.toNat (S k).own x y (E k) 0 (lP S E k) he
  rw[e1];by_cases hx:x=(S k).own.toNat
  ·rw[ag hx];have hz:lP S E k x y=0:=ih.2 (λj hj e=>by
    have:=h.P8 j k hj eE;omega)
   rw[hz];refine⟨λj hj hs=> ?_,λhn=>absurd eE (hn k eE)⟩;by_cases WW:j=k
   ·subst WW;rfl
   ·have:=h.P8 j k eE eE;omega
  ·rw[ae hx];refine⟨λj hj hs=> ?_,λhn=>ih.2 (λj hj=>hn j eE)⟩;by_cases WW:j=k
   ·subst WW;omega
   ·exact ih.1 j eE hs
theorem wB.grid {S:Nat->SV} {E:Nat->List j2} (h:wB K n S E)(hK:Vl K):lP S E n=MK K:=by
 funext x y
 have ha:=IP h x y n (Nat.le_refl _);unfold MK;cases hk:K (x:Int)with
 |none=>
  simp only;refine ha.2 (λj hj e=> ?_);have:=(h.at_ j hj).2;rw[e,hk]at this;cases this
 |some q=>
  simp only;have hr:=hK x (by rw[hk];rfl);obtain⟨j,hj,ho⟩:=h.all x ⟨eE,eE⟩ (by rw[hk];rfl);rw[ha.1 j hj ho];have:=(h.at_ j hj).2;rw[ho,hk]at this;have:=(dW (Option.some.inj this)).2;unfold gAt;rw[<-this]
end Rt
end Go.Proofs.YtieklnlbljejdaaGreatDoor
