import Derived.Test.YtieklnlbljejdaaGreatDoorW05
open Go.Value renaming int → ι, slice → σ, pointer → π, tuple → τ, nilIface → η
open Go.IntKind renaming i64 → κ
open Go.Ending renaming returned → ρ
open Go.Obj renaming cells → γ
open Option renaming none → ν, some → μ
open List renaming length_append → eR, map_cons → eN, map_nil → eO, length_cons → eT
open Go renaming Value → dZ, World → dY, Calls → eZ, Addr → dX
open Go.Proofs.Tryz renaming prog → e7
open Go.RowKit renaming intOf → fa
open Go.Value renaming ownBlock → eu, int → eB
open And renaming intro → gb
open Go.Instr renaming loadAt → fT
open Go.Sem renaming run_bind → fV
open BitVec renaming ofInt → fc, ofInt_natCast → gw, toNat_ofNat → gA
open Go.IntKind renaming i64 → fJ
set_option maxRecDepth 100000
set_option maxHeartbeats 4000000
open Go.Proofs.Tryz
namespace Go.Proofs.YtieklnlbljejdaaGreatDoor
open Go.RowKit St
namespace Rt
variable {B g o:Nat} {out:List kP} {p:jy} {v:Value} {w w1:World}
theorem HJ(L:LS):(je L).2.length<=12:=by
 unfold je;have h1:=Hx L;have h2:=zJ (kt L) 1;have h3:=zJ (k8 (kt L) 1).1 0;split
 ·simp only[eR];omega
 ·simp only;omega
theorem Rv(g o B:Nat)(v:dZ)(p:jy)(w:dY)(h:qE w g o B v p)(M:jh w)(A:p.out.length<=800000000):
 eZ e7 82 #[π (μ ⟨g,o,ν⟩)] w λe w'=>e=ρ (τ #[])/\lU w w' g o B v p.tick:=by
 have D:=Cg.tick h M;have c1:=h.c1;have hl:=h.lt;have hlen:=HJ p.L;clear h
 go_in
 go_wp2_with(fail);refine D.mono ?_;rintro e w1 ⟨rfl,V⟩;have y:=V.state;obtain⟨d1,dl⟩:=V.ptr;clear D c1 hl;go_wp2_with(fail);refine y.mono ?_;rintro e w2 ⟨rfl,rfl⟩;clear y;cases E:((kt p.L).st==3)
 ·have U:(kt p.L).st≠3:=by simpa using E
  have Z:je p.L=(kt p.L,lT p.L):=by unfold je;rw[af U]
  have X:p.tick=({p with L:=kt p.L}:jy).say (lT p.L):=by unfold jy.tick;rw[Z]
  rw[Z]at hlen;have hs:=V.say (by simp only at hlen;omega) A;rw[<-X]at hs;have H:Hid _:=X;clear Z X U V;go_wp2_with(fail);refine hs.mono ?_;rintro e w3 ⟨rfl,J⟩;clear hs
  go_wp2
  first|go_end0|refine iM rfl rfl ?_
  exact⟨rfl,J⟩
 ·have U:(kt p.L).st=3:=by simpa using E
  have l1:=Hx p.L;have l2:=zJ (kt p.L) 1;have S:=V.do_ M eh 1;have Z:je p.L=((k8 (k8 (kt p.L) 1).1 0).1,lT p.L++(k8 (kt p.L) 1).2.1++(k8 (k8 (kt p.L) 1).1 0).2.1):=by unfold je;rw[ai U]
  have X:p.tick=({p with L:=(k8 (k8 (kt p.L) 1).1 0).1}:jy).say (lT p.L++(k8 (kt p.L) 1).2.1++(k8 (k8 (kt p.L) 1).1 0).2.1):=by unfold jy.tick;rw[Z]
  rw[Z]at hlen;have H:Hid _:=X;clear Z X U V;go_wp2_with(fail);refine S.mono ?_;rintro e w3 ⟨rfl,Y⟩;have G:=Y.do_ M (by simp only[eR];omega) 0;obtain⟨f1,fl⟩:=Y.ptr;clear S Y;go_wp2_with(fail);refine G.mono ?_;rintro e w4 ⟨rfl,T⟩;have hs:=T.say (Nat.le_trans (show _<=12 from hlen) eA) A;clear G T;go_wp2_with(fail);refine hs.mono ?_;rintro e w5 ⟨rfl,J⟩;clear hs
  go_wp2
  first|go_end0|refine iM rfl rfl ?_
  refine⟨rfl,?_⟩;rw[H.out];exact J
theorem acr(ev:Int)(T:ev=0 \/ev=1)(B:Nat)(X:Nat->Prop)(s:LS)(v:dZ)(ps:List PV)(w:dY)(V:jh w)(h:rK w B X s v ps)(hf:(k8 s ev).2.2≠0):
 eZ e7 120 #[π (μ ⟨B,0,ν⟩),ι κ ev] w λe w'=>e=ρ (.iface 128 (ι κ ((k8 s ev).2.2:Int)))/\eE w w':=by
 have hz:=sO;have ed:k8 s ev=tr s ev (0,0,[]):=by unfold k8;rw[ai eh]
 rw[ed]at hf⊢;have Z:(jj s.st ev).2.2≠0:=λe=>hf (by rw[tW _ e]);rw[wC _ Z];obtain⟨D,nx,f,Y⟩:∃D nx f,jj s.st ev=(D,nx,f):=⟨_,_,_,rfl⟩
 rw[Y]at Z⊢;have hc:=Pz B X s v ps ⟨0,0,ν,0,0,[]⟩ ev D nx f w V h Y Z;clear h V Y Z hf ed;rcases T with rfl|rfl
 all_goals
  go_in
  go_wp2_with(fail);refine hc.mono ?_;rintro e w1 ⟨rfl,U⟩;clear hc
  go_wp2
  go_ret;exact⟨rfl,U⟩
theorem Vm(p:jy)(B:Nat)(v:dZ)(F G:Nat->dZ)(r:kE):∀j,j<71->(if 2<=j/\j<2+65 then G (j-2)else xB p B v F j)=xB {p with rd:=r} B v G j:=by
 intro j hj;by_cases e:2<=j/\j<2+65
 ·rw[ai e];unfold xB;rw[af eh,af eh,ai eh]
 ·rw[af e];unfold xB;by_cases Z:j=0
  ·simp[Z]
  ·by_cases Y:j=1
   ·simp[Y]
   ·have X:¬j<67:=eh;simp[Z,Y,X]
theorem Cg.read {w2:dY} (h:Cg w w1 g o B v p out)(r:kE)(J:Rd w2 g (o+2) r.1 r.2.1 r.2.2)(Y:lp w1 w2 g (o+2) 65):Cg w w2 g o B v {p with rd:=r} out:=by
 obtain⟨E,qs,Z,M⟩:=h.ex;obtain⟨F,hC,hF⟩:=Z.xC;obtain⟨G,S,X⟩:=J;have V:Kept w1 w2 g ν:=⟨Y.os,Y.tape,Y.output,Y.size,λi hi H _=>Y.block i hi H⟩
 have hl:=hC.lt eA;refine⟨⟨E,qs,⟨⟨G,(hC.join Y S).congr (Vm p B v F G r),X⟩,Z.rep.far V Z.xg (λe=>Z.gB e.symm),Z.ou.keep Y.size (λk U=>Y.block k (Z.ou.lt k U) (λe=>Z.vg (by rw[U,e]))),Z.few,Z.ok,Z.gB,Z.vg,Z.vB,Z.nz,Z.xg,Z.xv⟩,M⟩,?_⟩;refine h.kept.trans (v':=v) ⟨Y.os,Y.tape,Y.output,Y.size,λi hi T _ _=>Y.block i hi T,λj hj=>Y.cell j eh,Y.fz⟩ (λ_ e=>.inl e)
theorem Cg.rdC(h:Cg w w1 g o B v p out):∃F,qz w1 g (o+2) 65 F/\Dp F p.rd.1 p.rd.2.1 p.rd.2.2:=by
 obtain⟨vl,qs,Z,ho⟩:=h.ex;obtain⟨F,hC,hF⟩:=Z.xC;refine⟨F,(hC.sub 2 65 eA).congr (λj hj=> ?_),hF⟩;unfold xB;rw[af eh,af eh,ai eh,show 2+j-2=j by omega]
theorem Rw(up:Bool)(g o B:Nat)(v:dZ)(p:jy)(w:dY)(h:qE w g o B v p)(U:jh w)(M:p.out.length<=800000000):
 eZ e7 73 #[π (μ ⟨g,o,ν⟩),.bool up] w λe w'=>e=ρ (jk (p.iL up).2)/\lU w w' g o B v (p.iL up).1:=by
 obtain⟨ev,Z⟩:∃ev:Int,(if up=true then(0:Int)else 1)=ev:=⟨_,rfl⟩
 have V:ev=0 \/ev=1:=by rw[<-Z];cases up<;>simp
 have c1:=h.c1;have hl:=h.lt;by_cases hf:(k8 p.L ev).2.2=0
 ·have Y:p.iL up=(({p with L:=(k8 p.L ev).1,rd:=([],false,false)}:jy).say (k8 p.L ev).2.1,0):=by
   unfold jy.iL;rw[Z];simp only;rw[af (by simpa using hf)]
  rw[Y];have hd:=h.begin.do_ U gZ ev;rw[hf]at hd;have T:jk 0=η:=rfl;rw[T]at hd⊢;have hlen:=zJ p.L ev;have hz:=Ut.1;have hZ:=zy;have HE:Hid _:=Y;clear Y hf h;cases up
  all_goals
   simp only[if_true,if_false,Bool.false_eq_true]at Z;subst Z
   go_in
   go_wp2_with(fail);refine hd.mono ?_;rintro e w1 ⟨rfl,X⟩;obtain⟨F,hC,hF⟩:=X.rdC;obtain⟨k1,k2,k3⟩:=D9 hC;have hs:=(X.read ([],false,false) ⟨Nk,k2,Dp.zero⟩ k3).say (by simp only[List.nil_append];omega) M;obtain⟨d1,dl⟩:=X.ptr;have dl2:g<(w1.setCells g (o+2) Hk.toList).heap.size:=Nat.lt_of_lt_of_le dl k3.size;clear hd X hC hF k2 k3;go_wp2_with(fail);refine hs.mono ?_;rintro e w3 ⟨rfl,S⟩;clear hs
   go_wp2
   go_ret;exact⟨rfl,S⟩
 ·have Y:p.iL up=(p,(k8 p.L ev).2.2):=by
   unfold jy.iL;rw[Z];simp only;rw[ai hf]
  rw[Y];have hd:=acr ev V B _ p.L _ [] w U (rK.rest h.lk) hf;have ee:jk (k8 p.L ev).2.2=.iface 128 (ι κ ((k8 p.L ev).2.2:Int)):=by simp only[jk];rw[af hf]
  simp only;rw[ee];have HP:Hid _:=h;clear Y hf h ee;generalize (k8 p.L ev).2.2=f at hd⊢;cases up
  all_goals
   simp only[if_true,if_false,Bool.false_eq_true]at Z;subst Z
   go_in
   go_wp2_with(fail);refine hd.mono ?_;rintro e w1 ⟨rfl,hb⟩;clear hd
   go_wp2
   go_ret;exact⟨rfl,lU.still HP.out hb⟩
end Rt
theorem Vn:(e7.info? 5).map (λi=>(i.zero,i.size,i.bytes))=μ (μ (.int .u8 0),1,1):=gX
def stH(own seq:Int):List UInt8:=[St.u8 own,St.u8 (seq%256),St.u8 (seq/256%256),St.u8 (seq/65536)]
theorem YR(own seq:Int):(stH own seq).length=4:=rfl
theorem Vo(w:dY)(own seq:Int)(p1:1<=own)(p2:own<=6)(p3:1<=seq)(p4:seq<=1000000):Row (w.alloc (γ #[.int .u8 own,.int .u8 (seq%256),.int .u8 (seq/256%256),.int .u8 (seq/65536)] 5)) 1 (σ (μ ⟨w.heap.size,0,ν⟩) 4 4) 4 (iR [St.u8 own,St.u8 (seq%256),St.u8 (seq/256%256),St.u8 (seq/65536)]):=by
 refine Row.made w 1 _ _ (0,0) 4 4 _ rfl rfl (Nat.le_refl _) eA (.inl rfl) ?_;intro j u Z;simp only[iR,eN,eO,pJ own eh eh,pJ (seq%256) eh eh,pJ (seq/256%256) eh eh,pJ (seq/65536) eh eh]at Z;simpa using Z
theorem NS(own seq:Int)(a:Option dX)(n cap:Nat)(os:List jH)(w:dY)(M:jg w a n os)(hf:oD own seq os=0):
 eZ e7 198 #[.agg #[ι κ own,ι κ seq,σ a n cap]] w λe w'=>e=ρ (τ #[.string ⟨(ru own seq os).toArray⟩,η])/\eE w w':=by
 obtain⟨i0,hi,oB,np,mI⟩:=aX Vn;obtain⟨⟨p1,p2⟩,⟨p3,p4⟩,p5,p6⟩:=jw hf;have nO:=qb own os 0 p6;have hl:=M.1;have G:=gY w (γ #[ι κ own,ι κ seq,σ a n cap] 40);have H:=yv own seq a n cap os _ eh (M.below G);have e0:jk 0=η:=rfl;rw[hf,e0]at H;clear e0 p6 hf
 go_in
 go_wp2_with(fail);refine H.mono ?_;rintro e w1 ⟨rfl,J⟩;obtain⟨q0,q1,q2,hz⟩:=ajS J;have vR:=gu G J;clear J H G;go_wp2_with(fail);have ur:Row (w1.alloc (γ #[.int .u8 own,.int .u8 (seq%256),.int .u8 (seq/256%256),.int .u8 (seq/65536)] 5)) 1 (σ (μ ⟨w1.heap.size,0,ν⟩) 4 4) 4 (iR [St.u8 own,St.u8 (seq%256),St.u8 (seq/256%256),St.u8 (seq/65536)]):=Vo w1 own seq p1 p2 p3 p4;have yB:eE w (w1.alloc (γ #[.int .u8 own,.int .u8 (seq%256),.int .u8 (seq/256%256),.int .u8 (seq/65536)] 5)):=vR.alloc vR.size _
 go_loopw [5,31] (λv i wr=>∃(k g cp:Nat) (E:List UInt8),E=stH own seq++MF (os.take k)/\k<=n/\i=ι κ k/\v=σ (μ ⟨g,0,ν⟩) E.length cp/\Row wr 1 v E.length (iR E)/\
  w.heap.size<=g/\eE w wr)
  (λ_ i _=>n-(fa i).toNat)
 case atStart=>exact⟨0,w1.heap.size,4,_,rfl,Nat.zero_le _,rfl,rfl,ur,vR.size,yB⟩
 case round=>
  obtain⟨k,g,cp,E,S,hk,rfl,rfl,U,Kj,X⟩:=hrel;have Ph:E.length<=19:=by
   have h1:=yr (os.take k);have h2:(os.take k).length<=6:=by simp;omega
   rw[S,az,YR];omega
  have HE:Hid _:=S;have HL:Hid _:=hl;clear S ur yB hl;have m2:E.length+2<=maxLen:=by unfold maxLen;omega
  have b2:(E.length+2)*1<=140737488355328:=eh;by_cases kD:k<n
  ·have Ax:=M.below X;rcases Ax.2 with h0|⟨b,off,rfl,hc⟩
   ·omega
   have qK:k<os.length:=by rw[HL.out];exact kD
   obtain⟨c1,c2⟩:=hc k qK;obtain⟨⟨D,A⟩,⟨y,o2b⟩⟩:=nO os[k] (aF _);have HT:Hid (os.take (k+1)=os.take k++ [os[k]]):=aA qK;generalize os[k] =o at c1 c2 HT D A y o2b;clear hc Ax;have nS:(k:Int)<(n:Int):=eh;have Y:eE w (wr.alloc (γ #[ι κ o.1,ι κ o.2] 123)):=X.alloc X.size _;have Z:Row (wr.alloc (γ #[ι κ o.1,ι κ o.2] 123)) 1 (σ (μ ⟨g,0,ν⟩) E.length cp) E.length (iR E):=U.alloc _;go_wp2_with(at_builtin;go_must(refine iI _ rfl (.tmp 35) (.tmp 42) 140 rfl 5 i0 (.int .u8 0) 1 1 underlying140 hi oB np mI rfl eA _ E.length (iR E) rfl (Z.alloc _) _ 2 2 [.int .u8 o.1,.int .u8 o.2] rfl rfl eA ?hcc (lR _ _ _ _) m2 b2 ?_))
   case hcc=>
    have:=pP (wr.alloc (γ #[ι κ o.1,ι κ o.2] 123)) (.int .u8 o.1) (.int .u8 o.2) 5;simpa using this
   intro V cap2 w2 tj sL k7;have sN:μ g=μ V \/(wr.alloc (γ #[ι κ o.1,ι κ o.2] 123)).heap.size+1<=V:=by
    rcases k7 with h|h
    ·exact .inl h
    ·exact .inr (by simp;omega)
   have R:=GZ sL sN Kj Y;have sM:Row w2 1 (σ (μ ⟨V,0,ν⟩) (E.length+2) cap2) (E++ [St.u8 o.1,St.u8 o.2]).length (iR (E++ [St.u8 o.1,St.u8 o.2])):=by
    rw[lM,az];simp only[iR,eN,eO,pJ o.1 (show 0<=o.1 by omega) (show o.1<=255 by omega),pJ o.2 (show 0<=o.2 by omega) (show o.2<=255 by omega)];exact tj
   have HN:Hid (E++ [St.u8 o.1,St.u8 o.2] =stH own seq++MF (os.take (k+1))):=by
    show E++ [St.u8 o.1,St.u8 o.2] =_;rw[HE.out,HT.out,Ua,aD]
   have T:Hid ((E++ [St.u8 o.1,St.u8 o.2]).length=E.length+2):=by show(E++ [St.u8 o.1,St.u8 o.2]).length=E.length+2;simp
   clear tj sL k7 sN U X Y Z
   go_wp2
   go_roundw
   case rel=>exact⟨k+1,V,cap2,_,HN.out,eh,by go_num,by rw[T.out],sM,R.1,R.2⟩
   case measure=>simp[fa];omega
  ·have aau:(convert 140 9 (σ (μ ⟨g,0,ν⟩) E.length cp)).run e7 wr=.ok (.string ⟨E.toArray⟩) wr:=Row.back U 140 9 5 underlying140 underlying5 underlying9;have HF:Hid (ru own seq os=E):=by
    show ru own seq os=E;have zn:os.take k=os:=aI (by rw[HL.out];omega);rw[HE.out,zn];rfl
   clear U;go_wp2_with(fail);rw[HF.out]
   go_ret2
   exact⟨rfl,X⟩
theorem EC(w:dY)(x y:dZ)(t:TypeId):∀(j:Nat) (u:dZ),[x,y][j]? =μ u->(w.alloc (γ #[x,y] t)).drew.cell? ((⟨w.heap.size,0,ν⟩:dX).add j)=μ u:=λj u Z=>pP w x y t j u Z
namespace Rt
variable {B g i j k n o:Nat} {F:Nat->Value} {Q:Exit->Act->World->Prop} {a b c w w':World} {ops:Array Oper} {p:jy} {r r':iO} {v:Value}
theorem qE.rest {w w1:dY} {g o B:Nat} {v:dZ} {p:jy} (h:qE w g o B v p)(hb:eE w w1):PtQ w1 g o B v p (λk=>k<w.heap.size) (σ ν 0 0) [] :=by
 have Z:=h.below hb;exact⟨Z.xC,(rK.rest h.lk).below hb,Z.ou,h.few,h.ok,h.gB,h.vg,h.vB,h.nz,h.lt,λk Y=>h.ou.lt k Y⟩
theorem qE.take {w1:dY} (h:qE w g o B v p)(hb:eE w w1)(T:jh w)(code id:Int)(a:Option dX)(n cap:Nat)(os:List jH)(H:jg w1 a n os)(G:kN a cap)(Y:n<=cap)(J:n<=1000)
 (E:∀j,eu (σ a n cap)=μ j->w.heap.size<=j/\j<w1.heap.size):
 eZ e7 185 #[π (μ ⟨B,0,ν⟩),.agg #[ι κ code,ι κ id,σ a n cap]] w1 λe w'=>e=ρ (jk (jN p.L (code,id,os)).2.2)/\Cg w w' g o B v {p with L:=(jN p.L (code,id,os)).1} (jN p.L (code,id,os)).2.1:=by
 have Z:=h.rest hb;have X:vK w1 (λk=>k<w.heap.size) (σ ν 0 0) ⟨code,id,a,n,cap,os⟩:=⟨H,G,Y,J,λk M=>by
  have D:eu (σ a n cap)=μ k:=DQ M;obtain⟨h1,U⟩:=E k D;exact⟨eh,by simp[eu],U⟩⟩
 refine(U5 B _ p.L _ [] ⟨code,id,a,n,cap,os⟩ w1 (T.below hb) Z.nz.2.1 (by simp[eu]) Z.rep Z.ok.bd gZ X Z.ok.m1 Z.ok.m2).mono ?_;rintro e w' ⟨rfl,S⟩;refine⟨rfl,?_⟩;have V:=Cg.went Z rfl (nR.iW o B v hb h.lt) S (Z.ok.jN _);rw[eO,bT]at V;exact V
theorem Ll(s:ByteArray)(g o B:Nat)(v:dZ)(p:jy)(w:dY)(h:qE w g o B v p)(hT:jh w)(hs:s.size<=1000)(hn:p.out.length<=800000000):
 eZ e7 133 #[π (μ ⟨g,o,ν⟩),.string s] w λe w'=>e=ρ (τ #[])/\lU w w' g o B v (p.packet s.data.toList):=by
 have hp:=KN s w hs;have HP:Hid _:=h;clear h
 go_in
 go_wp2_with(fail);refine hp.mono ?_;rintro e w1 ⟨a,n,cap,f,code,id,os,rfl,H,D,S,hb,G,hz⟩;clear hp;by_cases hf:f=0
 ·subst hf;have e0:jk 0=η:=rfl;rw[e0];have qK:os.length<=1000:=by
   have Y:ja s.data.toList=(code,id,os,0):=S;unfold ja at Y;split at Y
   ·simp at Y
   ·split at Y
    ·rename_i X
     have h3:mS (s.data.toList.drop 3)=os:=(dO (dO (dO Y).2).2).1;rw[h3]at X;unfold jU at X;split at X
     ·simp at X
     ·split at X
      ·simp at X
      ·omega
    ·simp at Y
  have mT:n<=1000:=by have:=H.1;omega
  have T:p.packet s.data.toList=({p with L:=(jN p.L (code,id,os)).1}:jy).say (jN p.L (code,id,os)).2.1:=by
   unfold jy.packet;rw[S];rfl
  have ba:=gY w1 (γ #[ι κ code,ι κ id,σ a n cap] 37);have E:=gu hb ba;have hA:=λj=>aq w1 #[ι κ code,ι κ id,σ a n cap] 37 (0,0) j;have A:=HP.out.take (jG E) hT code id a n cap os (H.below (jG ba)) hz D mT (λj hj=>⟨(G j hj).1,Nat.lt_of_lt_of_le (G j hj).2 ba.size⟩);have hlen:=Hy p.L (code,id,os);obtain⟨U,V⟩:=gq (w1.alloc (γ #[ι κ code,ι κ id,σ a n cap] 37));obtain⟨Z,M⟩:=gq (w1.heap.size);rw[V]at E A;have d0:U.cell? ⟨Z,0,ν⟩=μ (ι κ code):=by rw[<-V,<-M];exact hA 0
  have d1':U.cell? ⟨Z,1,ν⟩=μ (ι κ id):=by rw[<-V,<-M];exact hA 1
  have d2:U.cell? ⟨Z,2,ν⟩=μ (σ a n cap):=by rw[<-V,<-M];exact hA 2
  have zl:Z<U.heap.size:=ag U _ d0;have d1:=(HP.out.below E).c1;have dl:=(HP.out.below E).lt;have HE:Hid _:=T;have UM:Hid _:=V;have HZ:Hid _:=M;clear T S H G hA V M ba hb;go_wp2_with(fail);rw[UM.out,HZ.out]
  go_region_with(go_at_call 185;refine A.mono ?_;rintro e w3 ⟨rfl,y⟩)
  all_goals
   have J:=y.say eh hn;clear A y;go_wp2_with(fail);refine J.mono ?_;rintro e w4 ⟨rfl,hW⟩;clear J
   go_wp2
   first|go_end0|refine iM rfl rfl ?_
   refine⟨rfl,?_⟩;rw[HE.out];exact hW
 ·have ee:jk f=.iface 128 (ι κ (f:Int)):=by simp only[jk];rw[af hf]
  rw[ee];have T:p.packet s.data.toList=p:=by
   unfold jy.packet;rw[S];simp only;rw[af hf]
  have HW:Hid (lU w (w1.alloc (γ #[ι κ code,ι κ id,σ a n cap] 37)) g o B v (p.packet s.data.toList)):=by
   show lU _ _ _ _ _ _ _;rw[T];exact lU.still HP.out (gu hb (gY _ _))
  clear T S H G hf ee
  go_wp2
  first|go_end0|refine iM rfl rfl ?_
  exact⟨rfl,HW.out⟩
theorem yc(T:ByteArray)(c:UInt8)(own seq:Int)(a:Option dX)(n cap:Nat)(es:List jH)(g o B:Nat)(v:dZ)(p:jy)(w:dY)(h:qE w g o B v p)(H:T.data.toList=[c])(U:jg w a n es)(hf:oD own seq es=0)(hn:p.out.length<=800000000):
 eZ e7 152 #[π (μ ⟨g,o,ν⟩),.string T,.agg #[ι κ own,ι κ seq,σ a n cap]] w λe w'=>e=ρ (τ #[])/\lU w w' g o B v (p.put c (ru own seq es)):=by
 have V:=gY w (γ #[ι κ own,ι κ seq,σ a n cap] 40);have hA:=λj=>aq w #[ι κ own,ι κ seq,σ a n cap] 40 (0,0) j;have X:=NS own seq a n cap es _ (U.below V) hf;have J:=(jw hf).2.2.1;have E:(ru own seq es).length<=100:=by
  have M:∀l:List jH,(MF l).length=2*l.length:=by
   intro l
   induction l with
   |nil=>rfl
   |cons x l ih=>
    have e:MF (x::l)=u8 x.1::u8 x.2::MF l:=rfl;rw[e];simp only[eT,ih];omega
  simp only[ru,eT,M];omega
 obtain⟨L,Z⟩:=gq (ru own seq es);rw[Z]at X E;rw[Z];have HP:Hid _:=h;clear h Z U hf J
 go_in
 go_wp2_with(fail);refine X.mono ?_;rintro e w1 ⟨rfl,b1⟩;have k1:=gu V b1;have Y:=Dv g o B v p T ⟨L.toArray⟩ c w1 (HP.out.below k1) H (by show L.toArray.size<=1000;simp;omega) eh;have S:(⟨L.toArray⟩:ByteArray).data.toList=L:=gZ;rw[S]at Y;clear X b1;go_wp2_with(fail);refine Y.mono ?_;rintro e w2 ⟨rfl,G⟩;clear Y
 go_wp2
 first|go_end0|refine iM rfl rfl ?_
 exact⟨rfl,lU.trans (nR.iW o B v k1 HP.out.lt) (λ_ e=>.inl e) G⟩
def rR(l:List zi):List dZ:=l.flatMap λt=>[ι κ t.1,ι κ t.2.1,.string ⟨t.2.2.toArray⟩]
structure Zt where
 R:Nat
 g:Nat
 cap:Nat
 B:Nat->Nat
 v:Nat->dZ
 Bb:Nat
 fm:FM
 iv:dZ
def Zt.mine(z:Zt)(n k:Nat):Prop:=k=z.R \/k=z.g \/(∃i,i<n/\(k=z.B i \/(z.v i).ownBlock=μ k)) \/z.iv.ownBlock=μ k
structure mC(w:dY)(z:Zt)(r:iO):Prop where
 n1:1<=r.n
 n3:r.n<=3
 NT:r.n<=z.cap
 id:1<=r.id/\r.id<=6
 oh:iZ w z.R #[ι κ r.id,σ (μ ⟨z.g,0,ν⟩) r.n z.cap,π (μ ⟨z.Bb,0,ν⟩),z.iv,ι κ r.drop] 135
 pt:∀i,i<r.n->qE w z.g (i*71) (z.B i) (z.v i) (r.P i)
 ib:Row w 3 z.iv r.kd.length (rR r.kd)
 bs:BR w z.Bb z.fm 6 r.K r.O
 bl:z.fm.bs.length=r.n
 no:∀k,z.mine r.n k->z.fm.no k
 nb:¬z.fm.no z.Bb/\¬z.fm.no z.fm.g/\∀b,(b=z.fm.bm \/b∈z.fm.bs)->¬z.fm.no b
 sR:z.R≠z.g/\z.R≠0/\∀i,i<r.n->z.B i≠z.R/\(z.v i).ownBlock≠μ z.R
 sB:∀i j,i<r.n->j<r.n->i≠j->z.B i≠z.B j/\∀k,(z.v i).ownBlock=μ k->(z.v j).ownBlock≠μ k
 sV:∀i j,i<r.n->j<r.n->(z.v i).ownBlock≠μ (z.B j)
 sI:∀k,z.iv.ownBlock=μ k->k≠z.R/\k≠z.g/\∀i,i<r.n->k≠z.B i/\(z.v i).ownBlock≠μ k
 Rx:z.iv.ownBlock≠μ 0/\∀b,(b=z.fm.bm \/b∈z.fm.bs)->b≠0
structure zO(w w':dY)(z:Zt)(n:Nat):Prop where
 os:w'.os=w.os
 tape:w'.tape=w.tape
 output:w'.output=w.output
 size:w.heap.size<=w'.heap.size
 block:∀k,k<w.heap.size->¬z.mine n k->k≠z.fm.bm->k∉z.fm.bs->w'.heap[k]? =w.heap[k]?
structure Zt.like(z z':Zt):Prop where
 R:z'.R=z.R
 g:z'.g=z.g
 cap:z'.cap=z.cap
 B:z'.B=z.B
 Bb:z'.Bb=z.Bb
 bm:z'.fm.bm=z.fm.bm
 fg:z'.fm.g=z.fm.g
 bs:z'.fm.bs=z.fm.bs
structure iG(w w':dY)(z:Zt)(r:iO)(n:Nat):Prop where
 ex:∃z',mC w' z' r/\z.like z'/\(∀k,z'.mine n k->z.mine n k \/w.heap.size<=k)/\(∀k,z.fm.no k->z'.fm.no k)
 kept:zO w w' z n
def Bf(v:Nat->dZ)(i:Nat)(x:dZ):Nat->dZ:=λj=>if j=i then x else v j
theorem pU(v:Nat->dZ)(i:Nat)(x:dZ):Bf v i x i=x:=by simp[Bf]
theorem nV(v:Nat->dZ)(x:dZ)(h:j≠i):Bf v i x j=v j:=by simp[Bf,h]
theorem jB(P:Nat->jy)(i:Nat)(p:jy):ll P i p i=p:=by simp[ll]
theorem ju(P:Nat->jy)(p:jy)(h:j≠i):ll P i p j=P j:=by simp[ll,h]
theorem mC.port {z:Zt} (h:mC w z r)(hi:i<r.n)(hW:lU w w' z.g (i*71) (z.B i) (z.v i) p):iG w w' z (r.iU i p) r.n:=by
 obtain⟨⟨v',hP,hv⟩,X⟩:=hW;have kD:∀k,z.mine r.n k->k<w.heap.size:=λk Z=>h.bs.Ro k (h.no k Z);have KF:=(h.pt i hi).lt;have D:∀k,k<w.heap.size->v'.ownBlock=μ k->(z.v i).ownBlock=μ k:=λk Z e=>by
  rcases hv k e with T|T
  ·exact T
  ·omega
 have M:z.mine r.n z.g/\z.mine r.n (z.B i)/\∀k,(z.v i).ownBlock=μ k->z.mine r.n k:=⟨.inr (.inl rfl),.inr (.inr (.inl ⟨i,hi,.inl rfl⟩)),λk Z=>.inr (.inr (.inl ⟨i,hi,.inr Z⟩))⟩
 have zP:∀k,k<w.heap.size->¬z.mine r.n k->w'.heap[k]? =w.heap[k]? :=λk Z E=>X.block k Z (λe=>E (by rw[e];exact M.1)) (λe=>E (by rw[e];exact M.2.1)) (λe=>E (M.2.2 k e));have Ga:=h.bs.still X.size (λj Y hn=>zP j Y (λe=>hn (h.no j e))) h.nb.1 h.nb.2.1 h.nb.2.2 (λk=>z.fm.no k \/(w.heap.size<=k/\k<w'.heap.size/\v'.ownBlock=μ k)) (λj Y=>by
  rcases Y with e|e
  ·exact .inl e
  ·exact .inr e.1) (λj Y=>by
  rcases Y with e|e
  ·exact Nat.lt_of_lt_of_le (h.bs.Ro j e) X.size
  ·exact e.2.1)
 have y:∀b,(b=z.fm.bm \/b∈z.fm.bs)->b<w.heap.size:=h.bs.mlt;have acv:z.Bb<w.heap.size:=by obtain⟨_,_,hF,_⟩:=h.bs.ex;exact hF.lt
 have acw:z.fm.g<w.heap.size:=by obtain⟨_,_,hF,_⟩:=h.bs.ex;exact hF.row.lt _ rfl
 refine⟨⟨{z with v:=Bf z.v i v',fm:={z.fm with no:=λk=>z.fm.no k \/(w.heap.size<=k/\k<w'.heap.size/\v'.ownBlock=μ k)}},⟨h.n1,h.n3,h.NT,h.id,?_,?_,?_,Ga,h.bl,?_,?_,⟨h.sR.1,h.sR.2.1,?_⟩,?_,?_,?_,h.Rx⟩,⟨rfl,rfl,rfl,rfl,rfl,rfl,rfl,rfl⟩,?_,λk Z=>.inl Z⟩,⟨X.os,X.tape,X.output,X.size,λk Z E _ _=>zP k Z E⟩⟩
 ·exact h.oh.keep (X.block z.R h.oh.lt h.sR.1 (λe=>(h.sR.2.2 i hi).1 e.symm) (h.sR.2.2 i hi).2)
 ·intro j Y;by_cases e:j=i
  ·subst e;show qE w' z.g (j*71) (z.B j) (Bf z.v j v' j) (ll r.P j p j);rw[pU,jB];exact hP
  ·show qE w' z.g (j*71) (z.B j) (Bf z.v i v' j) (ll r.P i p j);rw[nV _ _ e,ju _ _ e];have V:=h.pt j Y;obtain⟨F,hC,hF⟩:=V.xC;have hs:=h.sB j i Y hi e;refine⟨⟨F,λx hx=>⟨(X.cell (j*71+x) ?_).trans (hC.cell x hx),(X.fz _).trans (hC.fz x hx)⟩,hF⟩,V.lk.keep (X.block (z.B j) V.lk.lt (λe=>V.gB e.symm) hs.1 (h.sV i j hi Y)),V.ou.keep X.size (λk Z=>X.block k (V.ou.lt k Z) (λe=>V.vg (by rw[Z,e])) (λe=>h.sV j i Y hi (by rw[Z,e])) (hs.2 k Z)),V.few,V.ok,V.gB,V.vg,V.vB,V.nz⟩;rcases Nat.lt_or_gt_of_ne e with h1|h1
   ·exact .inl eh
   ·exact .inr eh
 ·exact h.ib.keep X.size (λk Z=>X.block k (h.ib.lt k Z) (h.sI k Z).2.1 ((h.sI k Z).2.2 i hi).1 ((h.sI k Z).2.2 i hi).2)
 ·intro k Z;rcases Z with e|e|⟨j,Y,e|e⟩|e
  ·exact .inl (h.no k (.inl e))
  ·exact .inl (h.no k (.inr (.inl e)))
  ·exact .inl (h.no k (.inr (.inr (.inl ⟨j,Y,.inl e⟩))))
  ·by_cases U:j=i
   ·subst U;have e':v'.ownBlock=μ k:=by have:=e;simp only[pU]at this;exact this
    rcases hv k e' with T|T
    ·exact .inl (h.no k (.inr (.inr (.inl ⟨j,Y,.inr T⟩))))
    ·exact .inr ⟨T,hP.ou.lt k e',e'⟩
   ·have e':(z.v j).ownBlock=μ k:=by have:=e;simp only[nV _ _ U]at this;exact this
    exact .inl (h.no k (.inr (.inr (.inl ⟨j,Y,.inr e'⟩))))
  ·exact .inl (h.no k (.inr (.inr (.inr e))))
 ·refine⟨λe=> ?_,λe=> ?_,λb hb e=> ?_⟩
  ·rcases e with e|e
   ·exact h.nb.1 e
   ·have h8:w.heap.size<=z.Bb:=e.1;omega
  ·rcases e with e|e
   ·exact h.nb.2.1 e
   ·have h8:w.heap.size<=z.fm.g:=e.1;omega
  ·rcases e with e|e
   ·exact h.nb.2.2 b hb e
   ·have h9:=y b hb;omega
 ·intro j Y;refine⟨(h.sR.2.2 j Y).1,?_⟩;by_cases U:j=i
  ·subst U;show(Bf z.v j v' j).ownBlock≠_;rw[pU];exact λe=>(h.sR.2.2 j Y).2 (D _ h.oh.lt e)
  ·show(Bf z.v i v' j).ownBlock≠_;rw[nV _ _ U];exact(h.sR.2.2 j Y).2
 ·intro a b S hb H;refine⟨(h.sB a b S hb H).1,λk Z=> ?_⟩;show(Bf z.v i v' b).ownBlock≠μ k;have J:(Bf z.v i v' a).ownBlock=μ k:=Z;by_cases G:a=i
  ·subst G;rw[pU]at J;rw[nV _ _ (λe=>H e.symm)];intro e;have A:=(h.pt b hb).ou.lt k e;exact(h.sB a b S hb H).2 k (D k A J) e
  ·rw[nV _ _ G]at J;by_cases eb:b=i
   ·subst eb;rw[pU];intro e;have A:=(h.pt a S).ou.lt k J;exact(h.sB a b S hb H).2 k J (D k A e)
   ·rw[nV _ _ eb];exact(h.sB a b S hb H).2 k J
 ·intro a b S hb;show(Bf z.v i v' a).ownBlock≠μ (z.B b);by_cases G:a=i
  ·subst G;rw[pU];exact λe=>h.sV a b S hb (D _ (h.pt b hb).lk.lt e)
  ·rw[nV _ _ G];exact h.sV a b S hb
 ·intro k Z;obtain⟨h1,h2,h3⟩:=h.sI k Z;refine⟨h1,h2,λj Y=>⟨(h3 j Y).1,?_⟩⟩;show(Bf z.v i v' j).ownBlock≠μ k;by_cases U:j=i
  ·subst U;rw[pU];exact λe=>(h3 j Y).2 (D k (h.ib.lt k Z) e)
  ·rw[nV _ _ U];exact(h3 j Y).2
 ·intro k Z;rcases Z with e|e|⟨j,Y,e|e⟩|e
  ·exact .inl (.inl e)
  ·exact .inl (.inr (.inl e))
  ·exact .inl (.inr (.inr (.inl ⟨j,Y,.inl e⟩)))
  ·by_cases U:j=i
   ·subst U;have e':v'.ownBlock=μ k:=by have:=e;simp only[pU]at this;exact this
    rcases hv k e' with T|T
    ·exact .inl (.inr (.inr (.inl ⟨j,Y,.inr T⟩)))
    ·exact .inr T
   ·have e':(z.v j).ownBlock=μ k:=by have:=e;simp only[nV _ _ U]at this;exact this
    exact .inl (.inr (.inr (.inl ⟨j,Y,.inr e'⟩)))
  ·exact .inl (.inr (.inr (.inr e)))
theorem zO.refl(w:dY)(z:Zt)(n:Nat):zO w w z n:=⟨rfl,rfl,rfl,Nat.le_refl _,λ_ _ _ _ _=>rfl⟩
theorem zO.iW(z:Zt)(n:Nat)(h:eE w w'):zO w w' z n:=⟨h.os,h.tape,h.output,h.size,λk Z _ _ _=>h.block k Z⟩
theorem Zt.sA(z:Zt):z.like z:=⟨rfl,rfl,rfl,rfl,rfl,rfl,rfl,rfl⟩
theorem Zt.ED {a b c:Zt} (h:a.like b)(k:b.like c):a.like c:=⟨k.R.trans h.R,k.g.trans h.g,k.cap.trans h.cap,k.B.trans h.B,k.Bb.trans h.Bb,k.bm.trans h.bm,k.fg.trans h.fg,k.bs.trans h.bs⟩
theorem mC.Bg {z:Zt} (h:mC w z r):∀k,z.mine r.n k->k<w.heap.size:=λk Z=>h.bs.Ro k (h.no k Z)
theorem mC.below {w w':dY} {z:Zt} {r:iO} (h:mC w z r)(hb:eE w w'):mC w' z r:=
 ⟨h.n1,h.n3,h.NT,h.id,h.oh.keep (hb.block _ h.oh.lt),λi hi=>(h.pt i hi).below hb,h.ib.below hb,h.bs.below hb,h.bl,h.no,h.nb,h.sR,h.sB,h.sV,h.sI,h.Rx⟩
theorem iG.still {z:Zt} (h:mC w z r)(hb:eE w w'):iG w w' z r r.n:=
 ⟨⟨z,h.below hb,z.sA,λ_ e=>.inl e,λ_ e=>e⟩,zO.iW z r.n hb⟩
theorem iG.refl {w:dY} {z:Zt} {r:iO} (h:mC w z r):iG w w z r r.n:=⟨⟨z,h,z.sA,λ_ e=>.inl e,λ_ e=>e⟩,zO.refl w z r.n⟩
theorem iG.step {z:Zt} (h:iG a b z r n)(k:∀z',mC b z' r->z.like z'->iG b c z' r' n):iG a c z r' n:=by
 obtain⟨⟨z',E,hl,S,D⟩,Z⟩:=h;obtain⟨⟨A,J,H,M,G⟩,Y⟩:=k z' E hl;refine⟨⟨A,J,Zt.ED hl H,λx hx=> ?_,λx hx=>G x (D x hx)⟩,⟨Y.os.trans Z.os,Y.tape.trans Z.tape,Y.output.trans Z.output,Nat.le_trans Z.size Y.size,λx hx V U T=>(Y.block x (Nat.lt_of_lt_of_le hx Z.size) (λe=> ?_) (by rw[hl.bm];exact U) (by rw[hl.bs];exact T)).trans (Z.block x hx V U T)⟩⟩
 ·rcases M x hx with e|e
  ·exact S x e
  ·exact .inr (Nat.le_trans Z.size e)
 ·rcases S x e with X|X
  ·exact V X
  ·omega
theorem iG.below {z:Zt} (h:iG a b z r n)(Y:r.n=n)(hb:eE b c):iG a c z r n:=by
 subst Y;exact h.step λz' Z _=>iG.still Z hb
theorem iG.first {z:Zt} (J:mC a z r)(H:r.n=n)(hb:eE a b)(k:mC b z r->iG b c z r' n):iG a c z r' n:=by
 subst H;obtain⟨⟨G,X,V,Y,U⟩,Z⟩:=k (J.below hb);exact⟨⟨G,X,V,λx hx=>(Y x hx).imp_right (λe=>Nat.le_trans hb.size e),U⟩,⟨Z.os.trans hb.os,Z.tape.trans hb.tape,Z.output.trans hb.output,Nat.le_trans hb.size Z.size,λx hx T S M=>(Z.block x (Nat.lt_of_lt_of_le hx hb.size) T S M).trans (hb.block x hx)⟩⟩
theorem iG.tab {z:Zt} {r0:iO} (h:iG a b z r n)(Z:mC a z r0)(U:r0.n=n)(X:jh a):jh b:=λe s V hs=>by
 subst U;refine(aj (a:=⟨0,e*10+s,ν⟩) (h.kept.block 0 X.lt (λY=> ?_) (λY=> ?_) (λY=> ?_))).trans (X e s V hs)
 ·rcases Y with e|e|⟨i,hi,e|e⟩|e
  ·exact Z.sR.2.1 e.symm
  ·exact(Z.pt 0 Z.n1).nz.1 e.symm
  ·exact(Z.pt i hi).nz.2.1 e.symm
  ·exact(Z.pt i hi).nz.2.2 e
  ·exact Z.Rx.1 e
 ·exact Z.Rx.2 0 (.inl Y) rfl
 ·exact Z.Rx.2 0 (.inr Y) rfl
theorem mC.base {z:Zt} {K':Int->Option PS} {O':Nat->Int->Option PS} (h:mC w z r)(U:BR w' z.Bb z.fm k K' O')(Y:jF w w' z.fm):iG w w' z {r with K:=K',O:=O'} r.n:=by
 have hb:∀x,z.mine r.n x->w'.heap[x]? =w.heap[x]? :=λx hx=>Y.block x (h.Bg x hx) (λe=>h.nb.2.2 x (.inl e) (h.no x hx)) (λe=>h.nb.2.2 x (.inr e) (h.no x hx));refine⟨⟨z,⟨h.n1,h.n3,h.NT,h.id,h.oh.keep (hb _ (.inl rfl)),λi hi=> ?_,h.ib.keep Y.size (λx hx=>hb x (.inr (.inr (.inr hx)))),U.six,h.bl,h.no,h.nb,h.sR,h.sB,h.sV,h.sI,h.Rx⟩,z.sA,λ_ e=>.inl e,λ_ e=>e⟩,⟨Y.os,Y.tape,Y.output,Y.size,λx hx _ X V=>Y.block x hx X V⟩⟩;have Z:=h.pt i hi;obtain⟨F,hC,hF⟩:=Z.xC;exact⟨⟨F,hC.keep (hb _ (.inr (.inl rfl))),hF⟩,Z.lk.keep (hb _ (.inr (.inr (.inl ⟨i,hi,.inl rfl⟩)))),Z.ou.keep Y.size (λx hx=>hb x (.inr (.inr (.inl ⟨i,hi,.inr hx⟩)))),Z.few,Z.ok,Z.gB,Z.vg,Z.vB,Z.nz⟩
theorem acx(p:jy)(B:Nat)(v:dZ)(F:Nat->dZ)(q:lr):∀j,j<71->tC (tC (tC (xB p B v F) 67 (.int .i64 q.who)) 68 (.bool q.both)) 69 (.int .i64 q.left) j=xB {p with pe:=q} B v F j:=by
 intro j hj;by_cases Z:j=69
 ·subst Z;simp[tC,xB]
 by_cases Y:j=68
 ·subst Y;simp[tC,xB]
 by_cases X:j=67
 ·subst X;simp[tC,xB]
 rw[jM _ _ Z,jM _ _ Y,jM _ _ X];simp only[xB,Z,Y,X,if_false]
theorem qE.peer(h:qE w g o B v p)(q:lr):
 lU w (((w.setCell ⟨g,o+67,ν⟩ (.int .i64 q.who)).setCell ⟨g,o+68,ν⟩ (.bool q.both)).setCell ⟨g,o+69,ν⟩ (.int .i64 q.left)) g o B v {p with pe:=q}:=by
 obtain⟨F,hC,hF⟩:=h.xC;have Z:lp w (((w.setCell ⟨g,o+67,ν⟩ (.int .i64 q.who)).setCell ⟨g,o+68,ν⟩ (.bool q.both)).setCell ⟨g,o+69,ν⟩ (.int .i64 q.left)) g o 71:=(((lp.refl w g o 71).set (o+67) eh eh _).set (o+68) eh eh _).set (o+69) eh eh _;have hb:∀x,x<w.heap.size->x≠g->_:=Z.block;refine⟨⟨v,⟨⟨F,(((hC.set 67 eA _).set 68 eA _).set 69 eA _).congr (acx p B v F q),hF⟩,h.lk.keep (hb B h.lk.lt (λe=>h.gB e.symm)),h.ou.keep Z.size (λx hx=>hb x (h.ou.lt x hx) (λe=>h.vg (by rw[hx,e]))),h.few,h.ok,h.gB,h.vg,h.vB,h.nz⟩,λ_ e=>.inl e⟩,⟨Z.os,Z.tape,Z.output,Z.size,λi hi Y _ _=>Z.block i hi Y,Z.cell,Z.fz⟩⟩
theorem mC.own {z:Zt} (h:mC w z r)(Y:dZ)(kd:List zi)(d:Int)(hs:w.heap.size<=w'.heap.size)(A:w'.os=w.os)(PF:w'.tape=w.tape)(MI:w'.output=w.output)(Z:∀k,k<w.heap.size->k≠z.R->z.iv.ownBlock≠μ k->w'.heap[k]? =w.heap[k]?)
 (oz:iZ w' z.R #[ι κ r.id,σ (μ ⟨z.g,0,ν⟩) r.n z.cap,π (μ ⟨z.Bb,0,ν⟩),Y,ι κ d] 135) (G:Row w' 3 Y kd.length (rR kd)) (T:∀k,Y.ownBlock=μ k->z.iv.ownBlock=μ k \/w.heap.size<=k):iG w w' z {r with kd:=kd,drop:=d} r.n:=by
 have M:∀k,z.iv.ownBlock=μ k->z.mine r.n k:=λk Z=>.inr (.inr (.inr Z));have D:∀k,k<w.heap.size->¬z.mine r.n k->w'.heap[k]? =w.heap[k]? :=λk H S=>Z k H (λe=>S (.inl e)) (λe=>S (M k e));have y:=h.bs.still hs (λj U hn=>D j U (λe=>hn (h.no j e))) h.nb.1 h.nb.2.1 h.nb.2.2 (λk=>z.fm.no k \/(w.heap.size<=k/\k<w'.heap.size/\Y.ownBlock=μ k)) (λj U=>by
  rcases U with e|e
  ·exact .inl e
  ·exact .inr e.1) (λj U=>by
  rcases U with e|e
  ·exact Nat.lt_of_lt_of_le (h.bs.Ro j e) hs
  ·exact e.2.1)
 have J:∀b,(b=z.fm.bm \/b∈z.fm.bs)->b<w.heap.size:=h.bs.mlt;have acv:z.Bb<w.heap.size:=by obtain⟨_,_,hF,_⟩:=h.bs.ex;exact hF.lt
 have acw:z.fm.g<w.heap.size:=by obtain⟨_,_,hF,_⟩:=h.bs.ex;exact hF.row.lt _ rfl
 have hI':∀k,k<w.heap.size->Y.ownBlock=μ k->z.iv.ownBlock=μ k:=λk Z e=>by
  rcases T k e with X|X
  ·exact X
  ·omega
 refine⟨⟨{z with iv:=Y,fm:={z.fm with no:=λk=>z.fm.no k \/(w.heap.size<=k/\k<w'.heap.size/\Y.ownBlock=μ k)}},⟨h.n1,h.n3,h.NT,h.id,oz,λi hi=> ?_,G,y,h.bl,?_,?_,h.sR,h.sB,h.sV,?_,?_⟩,⟨rfl,rfl,rfl,rfl,rfl,rfl,rfl,rfl⟩,?_,λk Z=>.inl Z⟩,⟨A,PF,MI,hs,λk H S _ _=>D k H S⟩⟩
 ·have V:=h.pt i hi;obtain⟨F,hC,hF⟩:=V.xC;have E:=h.sR.2.2 i hi;refine⟨⟨F,hC.keep (Z _ V.lt (λe=>h.sR.1 e.symm) (λe=>(h.sI _ e).2.1 rfl)),hF⟩,V.lk.keep (Z _ V.lk.lt E.1 (λe=>((h.sI _ e).2.2 i hi).1 rfl)),V.ou.keep hs (λx hx=>Z x (V.ou.lt x hx) (λe=>E.2 (by rw[hx,e])) (λe=>((h.sI x e).2.2 i hi).2 hx)),V.few,V.ok,V.gB,V.vg,V.vB,V.nz⟩
 ·intro k Z;rcases Z with e|e|e|e
  ·exact .inl (h.no k (.inl e))
  ·exact .inl (h.no k (.inr (.inl e)))
  ·exact .inl (h.no k (.inr (.inr (.inl e))))
  ·rcases T k e with X|X
   ·exact .inl (h.no k (M k X))
   ·exact .inr ⟨X,G.lt k e,e⟩
 ·refine⟨λe=> ?_,λe=> ?_,λb hb e=> ?_⟩
  ·rcases e with e|e
   ·exact h.nb.1 e
   ·have h8:w.heap.size<=z.Bb:=e.1;omega
  ·rcases e with e|e
   ·exact h.nb.2.1 e
   ·have h8:w.heap.size<=z.fm.g:=e.1;omega
  ·rcases e with e|e
   ·exact h.nb.2.2 b hb e
   ·have h9:=J b hb;omega
 ·intro k Z;rcases T k Z with X|X
  ·exact h.sI k X
  ·refine⟨λe=> ?_,λe=> ?_,λi hi=>⟨λe=> ?_,λe=> ?_⟩⟩
   ·have e':k=z.R:=e;have:=h.oh.lt;omega
   ·have e':k=z.g:=e;have:=(h.pt 0 h.n1).lt;omega
   ·have e':k=z.B i:=e;have:=(h.pt i hi).lk.lt;omega
   ·have:=(h.pt i hi).ou.lt k e;omega
 ·refine⟨λe=> ?_,h.Rx.2⟩;rcases T 0 e with X|X
  ·exact h.Rx.1 X
  ·have:=h.oh.lt;omega
 ·intro k Z;rcases Z with e|e|e|e
  ·exact .inl (.inl e)
  ·exact .inl (.inr (.inl e))
  ·exact .inl (.inr (.inr (.inl e)))
  ·exact(T k e).imp_left (M k)
theorem mC.c0 {z:Zt} (h:mC w z r):w.cell? ⟨z.R,0,ν⟩=μ (ι κ r.id):=h.oh.cell 0
theorem mC.c1 {z:Zt} (h:mC w z r):w.cell? ⟨z.R,1,ν⟩=μ (σ (μ ⟨z.g,0,ν⟩) r.n z.cap):=h.oh.cell 1
theorem mC.c2 {z:Zt} (h:mC w z r):w.cell? ⟨z.R,2,ν⟩=μ (π (μ ⟨z.Bb,0,ν⟩)):=h.oh.cell 2
theorem mC.c3 {z:Zt} (h:mC w z r):w.cell? ⟨z.R,3,ν⟩=μ z.iv:=h.oh.cell 3
theorem mC.c4 {z:Zt} (h:mC w z r):w.cell? ⟨z.R,4,ν⟩=μ (ι κ r.drop):=h.oh.cell 4
theorem mC.lt {w:dY} {z:Zt} {r:iO} (h:mC w z r):z.R<w.heap.size:=h.oh.lt
theorem mC.Kd {z:Zt} (h:mC w z r):z.g<w.heap.size:=(h.pt 0 h.n1).lt
def hasB(i:Int)(n:Nat):Bool:=decide (0<=i)&&decide (i<(n:Int))
theorem zQ(h:i<n):hasB (i:Int) n=true:=by simp[hasB];omega
theorem NV(i:Int)(n:Nat):hasB i n=false \/ ∃k:Nat,k<n/\i=(k:Int):=by
 by_cases Z:0<=i
 ·by_cases Y:i<(n:Int)
  ·exact .inr ⟨i.toNat,eh,eh⟩
  ·exact .inl (by simp[hasB,Y])
 ·exact .inl (by simp[hasB,Z])
theorem EE(z:Zt)(r:iO)(i:Int)(w:dY)(h:mC w z r):
 eZ e7 72 #[π (μ ⟨z.R,0,ν⟩),ι κ i] w λe w'=>e=ρ (.bool (hasB i r.n))/\w=w':=by
 have hl:=h.lt;have c1:=h.c1;unfold hasB;by_cases Z:0<=i
 ·by_cases Y:i<(r.n:Int)
  ·have hv:(decide (0<=i)&&decide (i<(r.n:Int)))=true:=by simp[Z,Y]
   rw[hv];clear hv h
   go_in
   go_wp2
   go_ret;exact⟨by first|rfl|(simp;omega),rfl⟩
  ·have hv:(decide (0<=i)&&decide (i<(r.n:Int)))=false:=by simp[Y]
   rw[hv];clear hv h
   go_in
   go_wp2
   go_ret;exact⟨by first|rfl|(simp;omega),rfl⟩
 ·have hv:(decide (0<=i)&&decide (i<(r.n:Int)))=false:=by simp[Z]
  rw[hv];clear hv h
  go_in
  go_wp2
  go_ret;exact⟨by first|rfl|(simp;omega),rfl⟩
theorem Lm(z:Zt)(r:iO)(w:dY)(h:mC w z r):
 eZ e7 50 #[π (μ ⟨z.R,0,ν⟩)] w λe w'=>∃a n cap S E,e=ρ (σ a n cap)/\uv w' a n S E/\sQ r.K n S E/\n<=6/\aco w a n cap S/\eE w w':=by
 have hl:=h.lt;have c1:=h.c2;have hs:=Cf z.Bb z.fm 6 r.K r.O w h.bs;clear h
 go_in
 go_wp2_with(fail);refine hs.mono ?_;rintro e w1 ⟨a,n,cap,S,E,rfl,Z,Y,X,V,U⟩;clear hs;have H:Hid _:=gb Z (gb Y (gb X (gb V U)));clear Z Y X V U
 go_wp2
 go_ret
 first|exact⟨a,n,cap,S,E,rfl,H.out⟩|exact⟨a,n,cap,⟨S,E,rfl,H.out⟩⟩
def rowOf(m:Nat)(F:Nat->dZ):Array dZ:=(Array.range m).map F
theorem mM(m:Nat)(F:Nat->dZ):(rowOf m F).size=m:=by simp[rowOf]
theorem sS(m:Nat)(F:Nat->dZ)(j:Nat)(h:j<m):(rowOf m F)[j]? =μ (F j):=by simp[rowOf,h]
section
variable {P:Program}
theorem qz.loadAt {w:dY} {g o m:Nat} {F:Nat->dZ} (h:qz w g o m F)(t:TypeId)(d:TypeDesc)(T:P.underlying t=some d)(hd:(match d with| .struct _| .array _ _=>true|_=>false)=true)(hi:(P.info? t).map (·.size)=some m):
 (fT t (π (μ ⟨g,o,ν⟩))).run P w=.ok (.agg (rowOf m F)) w:=by
 have hl:(loadCells ⟨g,o,ν⟩ (rowOf m F).toList.length).run P w=.ok (rowOf m F).toList.toArray w:=
  run_loadCells_list (P:=P) w ⟨g,o,ν⟩ (rowOf m F).toList (λj v hv=>by
   have V:(⟨g,o,ν⟩:dX).add j=⟨g,o+j,ν⟩:=by unfold Addr.add;split<;>simp_all
   have X:j<m:=by
    have:=(aK.1 hv).1;simpa[rowOf]using this
   have U:(rowOf m F).toList[j]? =μ (F j):=by simpa using sS m F j X
   rw[V,h.cell j X];exact U.symm.trans hv)
 cases Y:P.info? t with
 |none=>simp[Y]at hi
 |some i=>
  have hs:i.size=m:=by simpa[Y]using hi
  have Z:(isAgg t).run P w=.ok true w:=by
   unfold isAgg;rw[fV,run_underlying T w];cases d<;>simp_all
  simp only[Array.length_toList,Array.toArray_toList,mM]at hl;simp[fT,Instr.sureAddr,loadVar,fV,Z,sizeOf,typeInfo,Y,hs,hl]
theorem C6(w:dY) {rest:List Oper} {o:Oper} {a:Act} (Z:o.guard=ν)(x:Operand)(t:TypeId)(X:o.op=.load t x)
 (g off m:Nat) (F:Nat->dZ) (d:TypeDesc) (hx:a.eval x=.pointer (some ⟨g,off,none⟩)) (hb:qz w g off m F) (U:P.underlying t=some d) (hd:(match d with| .struct _| .array _ _=>true|_=>false)=true) (hi:(P.info? t).map (·.size)=some m)
 (h:wpList P ops Q rest (a.put o.dst (.agg (rowOf m F))) w):wpList P ops Q (o::rest) a w:=by
 refine wpList_plain Z λK Y=> ?_;have V:=qz.loadAt hb t d U hd hi;unfold Oper.wp execOp;simp only[X,fV,Sem.run_pure,Result.andThen_ok,hx,V];exact Y _ _ h
theorem oo(w:dY) {rest:List Oper} {o:Oper} {a:Act} (Z:o.guard=ν)(x y:Operand)(t:TypeId)(X:o.op=.store t x y)(hd:o.dst=ν)
 (B:Nat) (C D:Array dZ) (hx:a.eval x=π (μ ⟨B,0,ν⟩)) (hy:a.eval y=.agg D) (hb:iZ w B C t) (hs:C.size=D.size) (hi:(P.info? t).map (·.size)=μ D.size) (Y:D.all (·.oneCell')=true)
 (h:wpList P ops Q rest a (w.setRow B D)):wpList P ops Q (o::rest) a w:=by
 refine mG w Z x y t X B C D hx hy hb hs hi Y ?_;rw[hd];exact h
end
def zPt:Nat->dZ:=λj=>if j=0 then ι κ 0 else if j=1 then π ν else if j<67 then Nk (j-2)else if j=67 then ι κ 0 else if j=68 then .bool false else if j=69 then ι κ 0 else σ ν 0 0
theorem Vq:(e7.info? 142).map (λi=>(i.zero,i.size))=μ (μ (.agg (rowOf 71 zPt)),71):=gX
theorem NW(w:dY):(zeroValue 142).run e7 w=.ok (.agg (rowOf 71 zPt)) w:=(bS Vq).1 w
theorem NY:(e7.info? 142).map (·.size)=μ 71:=(bS Vq).2
theorem Dp.one {l:List UInt8} {e d:Bool} (h:Dp F l e d)(j:Nat)(hj:j<65):(F j).oneCell'=true:=by
 by_cases Z:j<62
 ·obtain⟨x,hx⟩:=h.live j Z;rw[hx];rfl
 ·have:j=62 \/j=63 \/j=64:=eh;rcases this with rfl|rfl|rfl
  ·rw[h.many];rfl
  ·rw[h.esc];rfl
  ·rw[h.bad];rfl
theorem Js(h:Dp F p.rd.1 p.rd.2.1 p.rd.2.2)(hv:v.oneCell'=true):(rowOf 71 (xB p B v F)).all (·.oneCell')=true:=by
 rw[Array.all_eq_true];intro j S;rw[mM]at S;have e:(rowOf 71 (xB p B v F))[j] =xB p B v F j:=by simp[rowOf]
 rw[e];unfold xB;by_cases Z:j=0
 ·simp[Z];rfl
 by_cases Y:j=1
 ·simp[Y];rfl
 by_cases X:j<67
 ·simp only[Z,Y,X,if_false,if_true];exact Dp.one h (j-2) eh
 by_cases V:j=67
 ·simp[V];rfl
 by_cases U:j=68
 ·simp[U];rfl
 by_cases T:j=69
 ·simp[T];rfl
 ·simp only[Z,Y,X,V,U,T,if_false];exact hv
theorem Row.one {xs:List dZ} (h:Row w k v n xs):v.oneCell'=true:=by
 rcases h.2 with⟨e,_⟩|⟨g,c,e,_⟩
 ·rw[e];rfl
 ·rw[e];rfl
def H4:Option Nat->Int
 |none=>0
 |some b=>(b:Int)
theorem Ln(P:Nat->jy)(n:Int)(k b:Nat)(h:jR P n k=μ b):b<k:=(oE h).1
theorem EG(z:Zt)(r:iO)(x:Int)(w:dY)(h:mC w z r):
 eZ e7 200 #[π (μ ⟨z.R,0,ν⟩),ι κ x] w λe w'=>e=ρ (τ #[ι κ (H4 (jR r.P x r.n)),.bool (jR r.P x r.n).isSome])/\eE w w':=by
 have hl:=h.lt;have c1:=h.c1;have hz:=NW;have rV:=NY;have ye:=h.n3;have Dm:=h.NT;obtain⟨n,hn⟩:=gq (r.n);have HR:Hid _:=h;have Y:Hid _:=hn;rw[hn]at c1 ye Dm;rw[hn];obtain⟨Zp,TE⟩:=gq (rowOf 71 zPt);have Ry:Zp.size=71:=by rw[<-TE];exact mM _ _
 rw[TE]at hz;clear h hn TE
 go_in
 go_wp2
 go_loopw [6,7,15] (λb f i wr=>∃k:Nat,k<=n/\i=ι κ k/\b=ι κ (H4 (jR r.P x k))/\f=.bool (jR r.P x k).isSome/\eE w wr) (λ_ _ i _=>n-(fa i).toNat)
 case atStart=>exact⟨0,Nat.zero_le _,rfl,rfl,rfl,au _ _⟩
 case round=>
  obtain⟨k,hk,rfl,rfl,rfl,iN⟩:=hrel;by_cases kD:k<n
  ·have nS:(k:Int)<(n:Int):=eh;have Hr:(0:Int)<=(k:Int):=eh;have R:=HR.out.below iN;have AY:k<r.n:=by rw[Y.out];exact kD
   have hp:=R.pt k AY;obtain⟨F,hC,hF⟩:=hp.xC;have py:=Js (B:=z.B k) (v:=z.v k) hF (Row.one hp.ou);have gl:=R.Kd;have d1:=R.c1;have dl:=R.lt;rw[Y.out]at d1;have HM:Hid (∀b,jR r.P x k=μ b->wr.cell? ⟨z.g,b*71,ν⟩=μ (ι κ (r.P b).m)):=λb hb=>(R.pt b (by have:=Ln _ _ _ _ hb;omega)).c0;obtain⟨D,U⟩:=gq (rowOf 71 (xB (r.P k) (z.B k) (z.v k) F));have Ke:D.size=71:=by rw[<-U];exact mM _ _
   have a0:D[0]? =μ (ι κ (r.P k).m):=by rw[<-U];exact sS 71 _ 0 eA
   have J:D[67]? =μ (ι κ (r.P k).pe.who):=by rw[<-U];exact sS 71 _ 67 eA
   have H:D[68]? =μ (.bool (r.P k).pe.both):=by rw[<-U];exact sS 71 _ 68 eA
   rw[U]at py;have ba:=gY wr (γ D 142);have hB:iZ (wr.alloc (γ D 142)) wr.heap.size D 142:=iZ.new _ _ _;have T:Hid (eE w (wr.alloc (γ D 142))):=gu iN ba;have d1':=(aj (a:=⟨z.R,1,ν⟩) (ba.block z.R dl)).trans d1;have dl':z.R<(wr.alloc (γ D 142)).heap.size:=Nat.lt_of_lt_of_le dl ba.size;have Hq:Hid (∀b,jR r.P x k=μ b->(wr.alloc (γ D 142)).cell? ⟨z.g,b*71,ν⟩=μ (ι κ (r.P b).m)):=λb hb=>(aj (a:=⟨z.g,b*71,ν⟩) (ba.block z.g gl)).trans (HM.out b hb);have gl':z.g<(wr.alloc (γ D 142)).heap.size:=Nat.lt_of_lt_of_le gl ba.size;have jn:=dP wr Zp D 142;go_wp2_with(first
    |(refine C6 _ rfl (.tmp 18) 142 rfl z.g (k*71) 71 (xB (r.P k) (z.B k) (z.v k) F) _ rfl hC underlying142 rfl rV ?_;rw[U])
    |(refine oo _ rfl (.tmp 9) (.tmp 19) 142 rfl rfl wr.heap.size Zp D rfl rfl (iZ.new _ _ _) (by rw[Ry,Ke]) (by rw[Ke];exact rV) py ?_;rw[jn]))
   have y0:=(hB.cell 0).trans a0;have E:=(hB.cell 67).trans J;have X:=(hB.cell 68).trans H;have yl:wr.heap.size<(wr.alloc (γ D 142)).heap.size:=ag _ _ y0;obtain⟨W,hW⟩:=gq (wr.alloc (γ D 142));obtain⟨Z,hZ⟩:=gq (wr.heap.size);rw[hW]at T Hq d1' dl' gl' y0 E X yl;rw[hZ]at y0 E X yl;rw[hW,hZ];clear hW hZ jn hB ba HM py hC hF hp R U a0 J H Ke d1 dl gl;cases hb:(r.P k).pe.both with
   |false=>
    have Y:Hid _:=wF (P:=r.P) (n:=x) (k:=k) (λhc=>by have:=hc.1;rw[hb]at this;cases this);rw[hb]at X
    go_wp2
    go_quiet(fail)
    go_wp2
    go_roundw
    case rel=>exact⟨k+1,eh,by go_num,by rw[Y.out],by rw[Y.out],below_drewN T.out _⟩
    case measure=>simp[fa];omega
   |true=>
    rw[hb]at X;cases hw:((r.P k).pe.who==x)with
    |false=>
     have Y:Hid _:=wF (P:=r.P) (n:=x) (k:=k) (λhc=>by have:=hc.2.1;simp[this]at hw)
     go_wp2
     go_quiet(fail)
     go_wp2
     go_roundw
     case rel=>exact⟨k+1,eh,by go_num,by rw[Y.out],by rw[Y.out],below_drewN T.out _⟩
     case measure=>simp[fa];omega
    |true=>
     have G:(r.P k).pe.who=x:=by simpa using hw
     cases V:jR r.P x k with
     |none=>
      have M:Hid _:=xE (P:=r.P) (n:=x) (k:=k) ⟨hb,G,by rw[V]⟩;have A:H4 ν=0:=rfl;have y:(ν:Option Nat).isSome=false:=rfl;rw[A,y]
      go_wp2
      go_quiet(fail)
      go_wp2
      go_roundw
      case rel=>exact⟨k+1,eh,by go_num,by rw[M.out];rfl,by rw[M.out];rfl,below_drewN T.out _⟩
      case measure=>simp[fa];omega
     |some b=>
      have hbk:=Ln _ _ _ _ V;have hM:=Hq.out b V;have kC:(b:Int)<(n:Int):=eh;have yB:(0:Int)<=(b:Int):=eh;have A:H4 (μ b)=(b:Int):=rfl;have y:(μ b:Option Nat).isSome=true:=rfl;by_cases S:(r.P k).m<(r.P b).m
      ·have M:Hid _:=xE (P:=r.P) (n:=x) (k:=k) ⟨hb,G,by rw[V];simp[S]⟩;have hmd:decide ((r.P k).m<(r.P b).m)=true:=by simp[S]
       rw[A,y];clear S V
       go_wp2
       go_quiet(fail)
       go_wp2
       go_roundw
       case rel=>exact⟨k+1,eh,by go_num,by rw[M.out];rfl,by rw[M.out];rfl,below_drewN T.out _⟩
       case measure=>simp[fa];omega
      ·have Y:Hid (jR r.P x (k+1)=μ b):=(wF (P:=r.P) (n:=x) (k:=k) (λhc=>by have:=hc.2.2;rw[V]at this;simp[S]at this)).trans V;have hmd:decide ((r.P k).m<(r.P b).m)=false:=by simp[S]
       rw[A,y];clear S V
       go_wp2
       go_quiet(fail)
       go_wp2
       go_roundw
       case rel=>exact⟨k+1,eh,by go_num,by rw[Y.out];rfl,by rw[Y.out];rfl,below_drewN T.out _⟩
       case measure=>simp[fa];omega
  ·have AY:k=n:=eh;subst AY
   go_wp2
   go_ret2
   exact⟨rfl,iN⟩
def GD(r:iO)(k:Nat):List jH:=(List.range k).filterMap λ(j:Nat)=>(jR r.P ((j:Int)+1) r.n).map λb=>((j:Int)+1,(r.P b).m)
theorem RA(h:jR r.P ((k:Int)+1) r.n=ν):GD r (k+1)=GD r k:=by
 unfold GD;rw[bX,bG];simp[h]
theorem RB {b:Nat} (h:jR r.P ((k:Int)+1) r.n=μ b):GD r (k+1)=GD r k++ [((k:Int)+1,(r.P b).m)] :=by
 unfold GD;rw[bX,bG];simp[h]
theorem EH(z:Zt)(r:iO)(w:dY)(h:mC w z r):
 eZ e7 179 #[π (μ ⟨z.R,0,ν⟩)] w λe w'=>∃v,e=ρ v/\Made w w' v (jz r):=by
 obtain⟨i0,hi,oB,np,mI⟩:=aX zr;have HR:Hid _:=h;clear h
 go_in
 go_wp2
 go_loopw [3,7] (λout i wr=>∃(k:Nat) (ao:Option dX) (m cp:Nat),k<=6/\out=σ ao m cp/\i=ι κ k/\m<=k/\Row wr 2 (σ ao m cp) m (iV (GD r k))/\(∀j,eu (σ ao m cp)=μ j->w.heap.size<=j)/\eE w wr) (λ_ i _=>6-(fa i).toNat)
 case atStart=>exact⟨0,ν,0,0,Nat.zero_le _,rfl,rfl,Nat.le_refl _,by simpa[GD,iV]using Row.nil w 2,λj E=>m9 E,au _ _⟩
 case round=>
  obtain⟨k,ao,m,cp,hk,rfl,rfl,hmk,V,T,X⟩:=hrel;by_cases kD:k<6
  ·have nS:(k:Int)<6:=eh;have Hr:(0:Int)<=(k:Int):=eh;have R:=HR.out.below X;have Z:=EG z r ((k:Int)+1) wr R;cases hb:jR r.P ((k:Int)+1) r.n with
   |none=>
    have Z:eZ e7 200 #[π (μ ⟨z.R,0,ν⟩),ι κ ((k:Int)+1)] wr λe w'=>e=ρ (τ #[ι κ 0,.bool false])/\eE wr w':=by
     rw[hb]at Z;exact Z
    have H:Hid _:=RA hb;have Y:Hid _:=V;have M:Hid _:=X;clear R hb V X;go_wp2_with(fail);refine Z.mono ?_;rintro e w1 ⟨rfl,b1⟩;clear Z
    go_wp2
    go_roundw
    case rel=>exact⟨k+1,_,m,cp,eh,rfl,by go_num,eh,by rw[H.out];exact Row.below Y.out b1,T,gu M.out b1⟩
    case measure=>simp[fa];omega
   |some b=>
    have Z:eZ e7 200 #[π (μ ⟨z.R,0,ν⟩),ι κ ((k:Int)+1)] wr λe w'=>e=ρ (τ #[ι κ (b:Int),.bool true])/\eE wr w':=by
     rw[hb]at Z;exact Z
    have H:Hid _:=RB hb;have G:=(oE hb).1;have J:Hid _:=R;have Y:Hid _:=V;have M:Hid _:=X;clear R hb V X;go_wp2_with(fail);refine Z.mono ?_;rintro e w1 ⟨rfl,b1⟩;have U:=J.out.below b1;have d1:=U.c1;have dl:=U.lt;have gl:=U.Kd;have g0:=(U.pt b G).c0;have kC:(b:Int)<(r.n:Int):=eh;have yB:(0:Int)<=(b:Int):=eh;have wA:=Row.below Y.out b1;have S:=gu M.out b1;clear Z U;go_wp2_with(at_builtin;go_must(refine iI _ rfl (.tmp 18) (.tmp 30) 38 rfl 123 i0 (.agg #[ι κ 0,ι κ 0]) 2 16 underlying38 hi oB np mI rfl eA (σ ao m cp) m (iV (GD r k)) rfl (wA.alloc _) _ 1 1 [ι κ ((k:Int)+1),ι κ (r.P b).m] rfl rfl eA (nj _ _ _ _ _ gZ) (lR _ _ _ _) (by unfold maxLen;omega) eh ?_));intro g' jv w2 lg y A;have mX:=l9 (S.alloc S.size _) y T;have mT:=nW (B:=w.heap.size) A (by have:=S.size;omega) T;rw[show [eB .i64 ((k:Int)+1),eB .i64 (r.P b).m] =[eB .i64 (((k:Int)+1,(r.P b).m):jH).1,eB .i64 (((k:Int)+1,(r.P b).m):jH).2]from rfl,<-mE,<-H.out]at lg;clear y A
    go_wp2
    go_roundw
    case rel=>exact⟨k+1,_,m+1,jv,eh,rfl,by go_num,eh,lg,λj E=>kH mT E,mX⟩
    case measure=>simp[fa];omega
  ·have D:k=6:=eh;subst D;have CR:m=(jz r).length:=by have:=V.1;rw[ln]at this;show m=(GD r 6).length;omega
   go_wp2
   go_ret;exact⟨_,rfl,⟨by rw[<-CR];exact V,T,X⟩⟩
theorem A8(a b:Option dX)(ca G n m:Nat)(os qs:List jH)(w:dY)(M:jg w a n os)(hb:jg w b m qs)(hn:n<=1000000)(hm:m<=1000000):
 eZ e7 178 #[σ a n ca,σ b m G] w λe w'=>e=ρ (.bool (decide (os=qs)))/\∃k,w'=w.drewN k:=by
 have hl:=M.1;have I2:=hb.1;by_cases H:n=m
 ·subst H;have heq:((n:Int) !=(n:Int))=false:=gZ
  go_in
  go_wp2
  go_loopw [13] (λi wr=>∃k m:Nat,k<=n/\i=ι κ k/\os.take k=qs.take k/\wr=w.drewN m) (λi _=>n-(fa i).toNat)
  case atStart=>exact⟨0,0,Nat.zero_le _,rfl,rfl,rfl⟩
  case round=>
   obtain⟨k,m,hk,rfl,S,rfl⟩:=hrel;have T:Hid _:=S;clear S;by_cases kD:k<n
   ·rcases M.2 with hA|⟨b1,o1,rfl,hA⟩
    ·omega
    rcases hb.2 with X|⟨b2,o2,rfl,X⟩
    ·omega
    obtain⟨c1,c2⟩:=hA k eh;obtain⟨c3,c4⟩:=X k eh;have V:Hid (os.take (k+1)=os.take k++ [os[k]'(by omega)]):=aA eh;have U:Hid (qs.take (k+1)=qs.take k++ [qs[k]'(by omega)]):=aA eh;have Y:Hid (os=qs->os[k]'(by omega)=qs[k]'(by omega)):=λh=>by subst h;rfl
    clear hA X;generalize os[k]'(by omega)=o at c1 c2 V Y;generalize qs[k]'(by omega)=q at c3 c4 U Y;have nS:(k:Int)<(n:Int):=eh;cases q1:(o.1==q.1)
    ·have Z:Hid (decide (os=qs)=false):=by
      show _=_;rw[bK];intro h;have:=Y.out h;rw[this]at q1;simp at q1
     go_wp2
     go_quiet(fail)
     go_wp2_with(fail);rw[Z.out];go_ret;exact⟨rfl,_,drewN_drewN _ _ _⟩
    ·cases q2:(o.2==q.2)
     ·have Z:Hid (decide (os=qs)=false):=by
       show _=_;rw[bK];intro h;have:=Y.out h;rw[this]at q2;simp at q2
      go_wp2
      go_quiet(fail)
      go_wp2_with(fail);rw[Z.out];go_ret;exact⟨rfl,_,drewN_drewN _ _ _⟩
     ·have J:Hid (os.take (k+1)=qs.take (k+1)):=by
       show _=_;rw[V.out,U.out,T.out];simp at q1 q2;congr 2;exact aV q1 q2
      go_wp2
      go_quiet(fail)
      go_wp2
      go_roundw
      case rel=>exact⟨k+1,_,eh,by go_num,J.out,rfl⟩
      case measure=>simp[fa];omega
   ·have A:decide (os=qs)=true:=by
     have E:os.take k=os:=aI eh;have D:qs.take k=qs:=aI eh;have:=T.out;rw[E,D]at this;simp[this]
    go_wp2_with(fail);rw[A];go_ret;exact⟨rfl,m,rfl⟩
 ·have heq:((n:Int) !=(m:Int))=true:=by simp;omega
  have Z:decide (os=qs)=false:=by
   rw[bK];intro h;subst h;omega
  rw[Z]
  go_in
  go_wp2
  go_ret;exact⟨rfl,0,rfl⟩
theorem RC(C:kT)(o:Nat)(e:jH)(es:List jH):nr C o (e::es)=nr (tV C o e.1.toNat e.2) o es:=rfl
theorem PG(o:Nat)(own:Int)(x y:Nat):∀(es:List jH) (Y:Int) (C:kT),qy own Y es=0->nr C o es x y=if x=o then((es.find? λe=>e.1==(y:Int)).map (·.2)).getD (C x y)else C x y
 |[],_,C,_=>by
  show C x y=_;split<;>simp
 |e::es,Y,C,h=>by
  unfold qy at h;split at h
  ·simp at h
  ·rename_i h1
   split at h
   ·simp at h
   ·rw[RC,PG o own x y es e.1 _ h];by_cases hx:x=o
    ·rw[ai hx,ai hx,List.find?_cons];by_cases hy:e.1=(y:Int)
     ·have Z:(e.1==(y:Int))=true:=by simp[hy]
      rw[Z];have X:es.find? (λe=>e.1==(y:Int))=ν:=by
       rw[List.find?_eq_none];intro f hf;have:=PH own es e.1 h f hf;simp;omega
      rw[X];simp only[Option.map_none,Option.getD_none,Option.map_some,Option.getD_some,tV];rw[ai ⟨hx,eh⟩]
     ·have Z:(e.1==(y:Int))=false:=by simp[hy]
      rw[Z];have:tV C o e.1.toNat e.2 x y=C x y:=by
       simp only[tV];rw[af eh]
      rw[this]
    ·rw[af hx,af hx];simp only[tV];rw[af eh]
where
 PH (own:Int):∀(es:List jH) (ah:Int),qy own ah es=0->∀f∈es,ah<f.1
  |[],_,_,f,hf=>by simp at hf
  |e::es,ah,h,f,hf=>by
   unfold qy at h;split at h
   ·simp at h
   ·split at h
    ·simp at h
    ·rcases aO.1 hf with rfl|hf
     ·omega
     ·have:=PH own es e.1 h f hf;omega
def gAt(es:List jH)(y:Nat):Int:=((es.find? λe=>e.1==(y:Int)).map (·.2)).getD 0
theorem Lp {K:Int->Option PS} {n:Nat} {S:Nat->SV} {E:Nat->List jH} (h:sQ K n S E)(x y:Nat):∀k,k<=n->(∀j,j<k->(S j).own=(x:Int)->jX S E k x y=gAt (E j) y)/\((∀j,j<k->(S j).own≠(x:Int))->jX S E k x y=0)
 |0,_=>⟨λj Y=>eh,λ_=>rfl⟩
 |k+1,hk=>by
  have ih:=Lp h x y k eh;have M:=h.ok k eh;obtain⟨ho,_,_,U⟩:=jw M;have V:jX S E (k+1) x y=if x=(S k).own.toNat then(((E k).find? λe=>e.1==(y:Int)).map (·.2)).getD (jX S E k x y)else jX S E k x y:=PG (S k).own.toNat (S k).own x y (E k) 0 (jX S E k) U
  rw[V];by_cases hx:x=(S k).own.toNat
  ·rw[ai hx];have T:jX S E k x y=0:=ih.2 (λj Y e=>by
    have:=h.Q6 j k Y eh;omega)
   rw[T];refine⟨λj Y hs=> ?_,λX=>absurd eh (X k eh)⟩;by_cases Z:j=k
   ·subst Z;rfl
   ·have:=h.Q6 j k eh eh;omega
  ·rw[af hx];refine⟨λj Y hs=> ?_,λX=>ih.2 (λj Y=>X j eh)⟩;by_cases Z:j=k
   ·subst Z;omega
   ·exact ih.1 j eh hs
theorem sQ.grid {K:Int->Option PS} {S:Nat->SV} {E:Nat->List jH} (h:sQ K n S E)(U:XO K):jX S E n=uC K:=by
 funext x y
 have X:=Lp h x y n (Nat.le_refl _);unfold uC;cases Y:K (x:Int)with
 |none=>
  simp only;refine X.2 (λj Z e=> ?_);have:=(h.at_ j Z).2;rw[e,Y]at this;cases this
 |some q=>
  simp only;have hr:=U x (by rw[Y];rfl);obtain⟨j,Z,V⟩:=h.all x ⟨eh,eh⟩ (by rw[Y];rfl);rw[X.1 j Z V];have:=(h.at_ j Z).2;rw[V,Y]at this;have:=(dO (Option.some.inj this)).2;unfold gAt;rw[<-this]
end Rt
variable {ao:Option Addr} {cp j k lo:Nat} {o:Obj} {ok:List jH} {u v:Value} {w w1 wr x1:World}
theorem uZ {b:Nat} (Y:∀k,v.ownBlock=μ k->lo+2<=k)(Z:(wr.alloc o).drew.grownBy x1 v.ownBlock)(hb:b<lo+2)(X:b<wr.heap.size):x1.heap[b]? =wr.heap[b]? :=by
 rw[Z.block b (by show b<(wr.alloc o).heap.size;simp;omega) (λe=>by have:=Y b e.symm;omega)];exact aU wr o b X
theorem RD(Y:∀k,v.ownBlock=μ k->lo+2<=k)(Z:(wr.alloc o).drew.grownBy x1 v.ownBlock)(hc:wr.cell? ⟨lo+1,j,ν⟩=μ u):x1.cell? ⟨lo+1,j,ν⟩=μ u:=by
 have X:lo+1<wr.heap.size:=ag wr _ hc;rw[aj (w:=wr) (a:=⟨lo+1,j,ν⟩) (uZ (b:=lo+1) Y Z eh X)];exact hc
theorem Lq(Y:∀k,v.ownBlock=μ k->lo+2<=k)(Z:(wr.alloc o).drew.grownBy x1 v.ownBlock)(hc:wr.cell? ⟨lo+1,j,ν⟩=μ u)(hf:wr.frozen? ⟨lo+1,j,ν⟩=false):x1.frozen? ⟨lo+1,j,ν⟩=false:=by
 have X:lo+1<wr.heap.size:=ag wr _ hc;rw[aL (w:=wr) (a:=⟨lo+1,j,ν⟩) (uZ (b:=lo+1) Y Z eh X)];exact hf
theorem EJ(s:ByteArray)(k:Nat)(h:k<s.size):s.data.toList.drop k=s[k] ::s.data.toList.drop (k+1):=by
 rw[aS (by simpa using h)];rfl
theorem zR(Y:wr.heap[w.heap.size]? =μ (γ #[ι κ 0,ι κ 0,σ ν 0 0] 40 (0,0)))(hb:eE wr w1):
 w1.cell? ⟨w.heap.size,0,ν⟩=μ (ι κ 0)/\w1.cell? ⟨w.heap.size,1,ν⟩=μ (ι κ 0)/\w1.cell? ⟨w.heap.size,2,ν⟩=μ (σ ν 0 0)/\∀j,w1.frozen? ⟨w.heap.size,j,ν⟩=false:=by
 have X:w.heap.size<wr.heap.size:=(ax.1 Y).1;have Z:w1.heap[w.heap.size]? =μ (γ #[ι κ 0,ι κ 0,σ ν 0 0] 40 (0,0)):=by rw[hb.block _ X];exact Y
 exact⟨aw w1 _ 0 _ 40 (0,0) Z,aw w1 _ 1 _ 40 (0,0) Z,aw w1 _ 2 _ 40 (0,0) Z,λj=>bB w1 _ j _ 40 Z⟩
theorem Vr(x y k:Nat)(hx:x<2^k)(hs:2^k*y+x<2^62):bits .or .i64 (x:Int) ((2^k*y:Nat):Int)=((2^k*y+x:Nat):Int):=by
 have Z:(fc 64 (x:Int)|||BitVec.ofInt 64 ((2^k*y:Nat):Int)).toNat=2^k*y+x:=by
  rw[BitVec.toNat_or,gw,gw,gA,gA,Nat.mod_eq_of_lt eh,Nat.mod_eq_of_lt eh,Nat.or_comm];exact(Nat.two_pow_add_eq_or_of_lt hx y).symm
 show fJ.wrap ((fc 64 (x:Int)|||BitVec.ofInt 64 ((2^k*y:Nat):Int)).toNat:Int)=_;rw[Z,dD];omega
theorem akU(x y:Nat)(hx:x<256)(hy:y<256):bits .or .i64 (x:Int) ((y:Int)*(256:Int))=(x:Int)+(256:Int)*(y:Int):=by
 have h:=Vr x y 8 eh eh;have e:((2^8*y:Nat):Int)=(y:Int)*256:=eh;rw[e]at h;rw[h];omega
theorem akV(x y:Nat)(hx:x<65536)(hy:y<256):bits .or .i64 (x:Int) ((y:Int)*(65536:Int))=(x:Int)+(65536:Int)*(y:Int):=by
 have h:=Vr x y 16 eh eh;have e:((2^16*y:Nat):Int)=(y:Int)*65536:=eh;rw[e]at h;rw[h];omega
def Bh(E:Nat->dZ)(l:List UInt8)(w:dY)(e:Ending)(w':dY):Prop:=
 ∃(a:Option dX) (n cap f:Nat) (own seq:Int) (os:List jH),e=ρ (τ #[.agg #[ι κ own,ι κ seq,σ a n cap],E f])/\jg w' a n os/\n<=cap/\iu l=(own,seq,os,f)/\eE w w'/\kN a cap
theorem Ck(s:ByteArray)(Q:Int)(h4:4<=s.size)(heq:s.size%2=0)(Z:(s[1].toNat:Int)+(256:Int)*(s[2].toNat:Int)+(65536:Int)*(s[3].toNat:Int)=Q):
 iu s.data.toList=if oD (s[0].toNat:Int) Q (pairs (s.data.toList.drop 4))=0 then((s[0].toNat:Int),Q,pairs (s.data.toList.drop 4),0)else(0,0,[],4):=by
 have hl:s.data.toList.length=s.size:=gZ;have Y:Kw s.data.toList=Q:=by
  unfold Kw;rw[nX s 1 eh,nX s 2 eh,nX s 3 eh,Z]
 unfold iu;rw[Y,nX s 0 eh,hl,af eh]
theorem H5 {x y z:dZ} (Y:Row w1 2 (σ ao k cp) k (iV ok))(X:∀j,eu (σ ao k cp)=μ j->w.heap.size+2<=j)(hb:eE w w1):
 jg (((w1.setCell ⟨w.heap.size,0,ν⟩ x).setCell ⟨w.heap.size,1,ν⟩ y).setCell ⟨w.heap.size,2,ν⟩ z) ao k ok/\eE w (((w1.setCell ⟨w.heap.size,0,ν⟩ x).setCell ⟨w.heap.size,1,ν⟩ y).setCell ⟨w.heap.size,2,ν⟩ z):=by
 refine⟨Row.opts (Y.keep gZ (λj Z=> ?_)),((hb.setCell (Nat.le_refl _) _).setCell (Nat.le_refl _) _).setCell (Nat.le_refl _) _⟩;have:=X j Z;rw[ak _ _ _ _ (by show j≠w.heap.size;omega),ak _ _ _ _ (by show j≠w.heap.size;omega),ak _ _ _ _ (by show j≠w.heap.size;omega)]
theorem GF(w:dY)(a b:Obj):((w.alloc a).alloc b).drew.heap[w.heap.size+1]? =μ b:=by
 have h:=aY (w.alloc a) b;have e:(w.alloc a).heap.size=w.heap.size+1:=gZ;rw[e]at h;exact h
theorem EK(w:dY)(a b:Obj):((w.alloc a).alloc b).drew.heap[w.heap.size]? =μ a:=by
 show((w.alloc a).alloc b).heap[w.heap.size]? =μ a;rw[aU (w.alloc a) b w.heap.size gZ];exact aY w a
theorem NZ {ob:Obj} {g' jv:Nat} {c d:Int} {x y:Nat}
 (U:wr.heap[w.heap.size+1]? =μ (γ #[ι κ c,ι κ d,σ ao k cp] 40 (0,0)))
 (M:wr.heap[w.heap.size]? =μ (γ #[ι κ 0,ι κ 0,σ ν 0 0] 40 (0,0)))
 (_hrow:Row wr 2 (σ ao k cp) k (iV ok)) (Y:∀j,eu (σ ao k cp)=μ j->w.heap.size+2<=j) (S:eE w wr)
 (T:Row x1 2 (σ (μ ⟨g',0,ν⟩) (k+1) jv) (k+1) (iV ok++ [ι κ (fJ.wrap (x:Int)),ι κ (fJ.wrap (y:Int))]))
 (X:(wr.alloc ob).drew.grownBy x1 (eu (σ ao k cp))) (H:eu (σ ao k cp)=μ g' \/(wr.alloc ob).drew.heap.size<=g') (hx:x<2^8) (hy:y<2^8):
 Row (x1.setCell ⟨w.heap.size+1,2,ν⟩ (σ (μ ⟨g',0,ν⟩) (k+1) jv)) 2 (σ (μ ⟨g',0,ν⟩) (k+1) jv) (k+1) (iV (ok++ [((x:Int),(y:Int))]))/\
 (x1.setCell ⟨w.heap.size+1,2,ν⟩ (σ (μ ⟨g',0,ν⟩) (k+1) jv)).heap[w.heap.size+1]? =μ (γ #[ι κ c,ι κ d,σ (μ ⟨g',0,ν⟩) (k+1) jv] 40 (0,0))/\
 (x1.setCell ⟨w.heap.size+1,2,ν⟩ (σ (μ ⟨g',0,ν⟩) (k+1) jv)).heap[w.heap.size]? =μ (γ #[ι κ 0,ι κ 0,σ ν 0 0] 40 (0,0))/\
 (∀j,eu (σ (μ ⟨g',0,ν⟩) (k+1) jv)=μ j->w.heap.size+2<=j)/\eE w (x1.setCell ⟨w.heap.size+1,2,ν⟩ (σ (μ ⟨g',0,ν⟩) (k+1) jv)):=by
 have G:w.heap.size+1<wr.heap.size:=(ax.1 U).1;have k1:=uZ (b:=w.heap.size+1) Y X eh G;have k0:=uZ (b:=w.heap.size) Y X eh eh;have hs0:(wr.alloc ob).drew.heap.size=wr.heap.size+1:=by show(wr.alloc ob).heap.size=_;simp
 have KF:w.heap.size+2<=g':=by
  rcases H with h|h
  ·exact Y g' h
  ·omega
 have V:x1.heap[w.heap.size+1]? =μ (γ #[ι κ c,ι κ d,σ ao k cp] 40 (0,0)):=by rw[k1];exact U
 refine⟨?_,?_,?_,?_,?_⟩
 ·have ex:fJ.wrap (x:Int)=(x:Int):=aQ _ ⟨eh,eh⟩;have J:fJ.wrap (y:Int)=(y:Int):=aQ _ ⟨eh,eh⟩;rw[ex,J,<-mE ok ((x:Int),(y:Int))]at T;refine T.keep gZ (λj Z=> ?_);have:g'=j:=by simpa[eu]using Z
  exact ak _ _ _ _ (by show j≠w.heap.size+1;omega)
 ·rw[bL x1 (w.heap.size+1) 2 _ 40 (0,0) _ V];exact cC x1 _ _ _ 40 (0,0) V
 ·rw[ak _ _ _ _ (by show w.heap.size≠w.heap.size+1;omega),k0];exact M
 ·intro j Z;have:g'=j:=by simpa[eu]using Z
  omega
 ·have E:eE w (wr.alloc ob).drew:=(S.alloc S.size _).drew;refine bw ?_ (by show w.heap.size<=w.heap.size+1;omega) _;refine E.grown X eh (λj Z=> ?_);have:=Y j Z;omega
theorem N1(s:ByteArray)(w:dY)(h4:4<=s.size)(hs:s.size<=16)(heq:s.size%2=0):
 eZ e7 188 #[.string s] w λe w'=>Bh jk s.data.toList w e w':=by
 obtain⟨i0,hi,oB,np,mI⟩:=aX zr;have hz:=pQ;have g1:¬(s.size:Int)<4:=eh;have g2:¬(16:Int)<(s.size:Int):=eh;have g3:(((s.size:Int)-4) %2 !=0)=false:=by rw[bne_eq_false_iff_eq];omega
 have HE:Hid _:=heq;clear heq;have b0:0<s.size:=eh;have b1:1<s.size:=eh;have b2:2<s.size:=eh;have b3:3<s.size:=eh;have yB:=s[0].toNat_lt;have Y:=s[1].toNat_lt;have mX:=s[2].toNat_lt;have sy:=s[3].toNat_lt;have z0:(0:Int)<(s.size:Int):=eh;have z1:(1:Int)<(s.size:Int):=eh;have z2:(2:Int)<(s.size:Int):=eh;have z3:(3:Int)<(s.size:Int):=eh;obtain⟨Q,hQ⟩:∃Q:Int,(s[1].toNat:Int)+(256:Int)*(s[2].toNat:Int)+(65536:Int)*(s[3].toNat:Int)=Q:=⟨_,rfl⟩
 have ho1:=akU s[1].toNat s[2].toNat eh eh;have YP:bits .or .i64 ((s[1].toNat:Int)+(256:Int)*(s[2].toNat:Int)) ((s[3].toNat:Int)*(65536:Int))=Q:=by
  have:=akV (s[1].toNat+256*s[2].toNat) s[3].toNat eh eh;push_cast at this;rw[this,hQ]
 have U:Hid _:=hQ
 go_in
 go_wp2
 go_region
 go_wp2_with(fail)
 try rw[U.out]
 try clear hQ
 try clear ho1
 try clear YP
 obtain⟨Z,S⟩:∃Z:Int,(s[0].toNat:Int)=Z:=⟨_,rfl⟩
 have H:Hid _:=S;rw[S];clear S yB Y mX sy
 go_loopw [5] (λi wr=>∃(k cp:Nat) (ao:Option dX) (ok:List jH),4+2*k<=s.size/\i=ι κ ((4+2*k:Nat):Int)/\ok.length=k/\pairs (s.data.toList.drop 4)=ok++pairs (s.data.toList.drop (4+2*k))/\Row wr 2 (σ ao k cp) k (iV ok)/\
  wr.heap[w.heap.size+1]? =μ (γ #[ι κ Z,ι κ Q,σ ao k cp] 40 (0,0))/\wr.heap[w.heap.size]? =μ (γ #[ι κ 0,ι κ 0,σ ν 0 0] 40 (0,0))/\
  (∀j,eu (σ ao k cp)=μ j->w.heap.size+2<=j)/\eE w wr)
  (λi _=>s.size-(fa i).toNat)
 case atStart=>
  refine⟨0,0,ν,[],eh,rfl,rfl,rfl,Row.nil _ _,?_,?_,λj hj=>by simp[eu]at hj,(((au _ _).alloc (Nat.le_refl _) _).alloc gZ _).drew⟩
  ·exact GF w _ _
  ·exact EK w _ _
 case round=>
  obtain⟨k,cp,ao,ok,hk,rfl,iQ,D,X,h,Ec,jn,iN⟩:=hrel;have hP:Hid _:=D;clear D;have cv:wr.cell? ⟨w.heap.size+1,2,ν⟩=μ (σ ao k cp):=aw wr _ 2 _ 40 (0,0) h;have fv:wr.frozen? ⟨w.heap.size+1,2,ν⟩=false:=bB wr _ 2 _ 40 h;have Yp:w.heap.size+1<wr.heap.size:=ag wr _ cv;have V:Hid _:=h;have T:Hid _:=Ec;clear h Ec;by_cases kD:4+2*k<s.size
  ·have Gn:4+2*k+1<s.size:=by have:=HE.out;omega
   obtain⟨q,hq⟩:∃q,q=4+2*k:=⟨_,rfl⟩
   rw[<-hq]at kD Gn;have A:Hid _:=hq;have y0:(0:Int)<=(q:Int):=eh;have y1:(q:Int)<(s.size:Int):=eh;have y2:(q:Int)+1<(s.size:Int):=eh;have y3:(0:Int)<=(q:Int)+1:=eh;have yw:fJ.wrap ((q:Int)+1)=(q:Int)+1:=aQ _ ⟨eh,eh⟩;have hbq:=s[q].toNat_lt;have aj8:=s[q+1].toNat_lt;have m1:k+1<=maxLen:=by unfold maxLen;omega
   have bb1:(k+1)*16<=140737488355328:=eh;rw[<-hq];clear hq;have HP2:Hid (pairs (s.data.toList.drop 4)=(ok++ [((s[q].toNat:Int),(s[q+1].toNat:Int))])++pairs (s.data.toList.drop (4+2*(k+1)))):=by
    show pairs (s.data.toList.drop 4)=_;rw[hP.out,<-A.out,EJ s q kD,EJ s (q+1) Gn];have J:q+1+1=4+2*(k+1):=by have:=A.out;omega
    rw[J];simp[pairs]
   go_wp2
   go_region_law ((refine l8 (by rfl) (.tmp 47) (.tmp 58) 38 (by rfl) 123 i0 (.agg #[ι κ 0,ι κ 0]) 2 16 underlying38 hi oB np mI (by rfl) eA (σ ao k cp) k (iV ok) (by rfl) ((X.alloc _).drew) _ 1 1 [ι κ (fJ.wrap (s[q].toNat:Int)),ι κ (fJ.wrap (s[q+1].toNat:Int))] (by rfl) (by rfl) eA (EC _ _ _ _) (lR _ _ _ _) m1 bb1 ?_;intro g' jv x1 lg kG jI;have c1:=RD jn kG cv;have f1:=Lq jn kG cv fv))
   all_goals have hS:=NZ (c:=Z) (d:=Q) V.out T.out X jn iN lg kG jI s[q].toNat_lt s[q+1].toNat_lt
   all_goals clear lg kG jI c1 f1
   all_goals go_wp2_with(fail)
   all_goals go_roundw
   all_goals first
    |exact⟨k+1,jv,some ⟨g',0,none⟩,_,by have:=A.out;omega,by have:=A.out;go_num,by simp[iQ],HP2.out,hS⟩
    |(simp[fa];omega)
  ·have MZ:4+2*k=s.size:=eh;have UA:pairs (s.data.toList.drop 4)=ok:=by
    rw[hP.out,MZ,a8 (by show s.size<=s.size;omega)];simp[pairs]
   have CV:=X.opts;have Dm:k<=cp/\kN ao cp:=⟨X.TL,λe=>by
    rcases X.2 with⟨J,_⟩|⟨g,c,J,_⟩
    ·exact(bO J).2.2
    ·rw[e]at J;cases (bO J).1⟩
   have c0:wr.cell? ⟨w.heap.size+1,0,ν⟩=μ (ι κ Z):=aw wr _ 0 _ 40 (0,0) V.out;have c1:wr.cell? ⟨w.heap.size+1,1,ν⟩=μ (ι κ Q):=aw wr _ 1 _ 40 (0,0) V.out;have M:=yv Z Q ao k cp ok wr eh CV;have HK:Hid _:=UA;clear hP UA MZ;by_cases hf:oD Z Q ok=0
   ·have G:jk 0=η:=rfl;rw[hf,G]at M;clear G;have HF:Hid _:=hf;clear hf;go_wp2_with(fail);refine M.mono ?_;rintro e w1 ⟨rfl,Y⟩;have d0:=(Y.cell (p:=⟨w.heap.size+1,0,ν⟩) Yp).trans c0;have d1:=(Y.cell (p:=⟨w.heap.size+1,1,ν⟩) Yp).trans c1;have d2:=(Y.cell (p:=⟨w.heap.size+1,2,ν⟩) Yp).trans cv;obtain⟨r0,r1,r2,r3⟩:=zR T.out Y;have vR:=gu iN Y;have E:=H5 (x:=ι κ Z) (y:=ι κ Q) (z:=σ ao k cp) (X.below Y) jn vR;have HV:Hid (iu s.data.toList=(Z,Q,ok,0)):=by
     show iu s.data.toList=_;rw[Ck s Q h4 HE.out U.out,H.out,HK.out,ai HF.out]
    clear M Y c0 c1 cv X;go_wp2_with(fail);refine aE (v:=τ #[.agg #[ι κ Z,ι κ Q,σ ao k cp],η]) (by simp[results,results188,go_sem,r0,r1,r2]) rfl ?_;exact⟨ao,k,cp,0,_,_,ok,rfl,E.1,Dm.1,HV.out,E.2,Dm.2⟩
   ·have G:jk (oD Z Q ok)=.iface 128 (ι κ (oD Z Q ok:Int)):=by simp[jk,hf]
    rw[G]at M;clear G;have HF:Hid _:=hf;clear hf;have HV:Hid (iu s.data.toList=(0,0,[],4)):=by
     show iu s.data.toList=_;rw[Ck s Q h4 HE.out U.out,H.out,HK.out,af HF.out]
    generalize oD Z Q ok=ff at M;go_wp2_with(fail);refine M.mono ?_;rintro e w1 ⟨rfl,Y⟩;obtain⟨r0,r1,r2,r3⟩:=zR T.out Y;have vR:=gu iN Y;have E:=H5 (ok:=[]) (ao:=ν) (k:=0) (cp:=0) (x:=ι κ 0) (y:=ι κ 0) (z:=σ ν 0 0) (Row.nil w1 2) (λj hj=>by simp[eu]at hj) vR;clear M Y c0 c1 cv X CV;go_wp2_with(fail);refine aE (v:=τ #[.agg #[ι κ 0,ι κ 0,σ ν 0 0],.iface 128 (ι κ 4)]) (by simp[results,results188,go_sem,r0,r1,r2]) rfl ?_;exact⟨ν,0,0,4,0,0,[],rfl,E.1,Nat.le_refl _,HV.out,E.2,λ_=>rfl⟩
theorem RE(s:ByteArray)(w:dY)(hs:s.size<=maxLen)(h:iu s.data.toList=(0,0,[],4))(hb:s.size<4 \/16<s.size \/s.size%2=1):
 eZ e7 188 #[.string s] w λe w'=>Bh jk s.data.toList w e w':=by
 have hz:=pQ;have Z:Hid _:=h;clear h;unfold maxLen at hs;have V:=gY w (γ #[ι κ 0,ι κ 0,σ ν 0 0] 40);have X:jg (w.alloc (γ #[ι κ 0,ι κ 0,σ ν 0 0] 40)) ν 0 [] :=⟨rfl,.inl rfl⟩
 have g0:(0:Int)<=(s.size:Int):=eh;rcases(show s.size<4 \/(4<=s.size/\16<s.size) \/(4<=s.size/\s.size<=16/\s.size%2=1) by omega)with Y|Y|Y
 ·have g1:(s.size:Int)<4:=eh
  go_in
  go_wp2_with(fail);refine aE (v:=τ #[.agg #[ι κ 0,ι κ 0,σ ν 0 0],.iface 128 (ι κ 4)]) (by simp[results,results188,go_sem]) rfl ?_;exact⟨ν,0,0,4,0,0,[],rfl,X,Nat.le_refl _,Z.out,V,λ_=>rfl⟩
 ·have g1:¬(s.size:Int)<4:=eh;have U:(16:Int)<(s.size:Int):=eh
  go_in
  go_wp2_with(fail);refine aE (v:=τ #[.agg #[ι κ 0,ι κ 0,σ ν 0 0],.iface 128 (ι κ 4)]) (by simp[results,results188,go_sem]) rfl ?_;exact⟨ν,0,0,4,0,0,[],rfl,X,Nat.le_refl _,Z.out,V,λ_=>rfl⟩
 ·have g1:¬(s.size:Int)<4:=eh;have U:¬(16:Int)<(s.size:Int):=eh;have g3:(((s.size:Int)-4) %2 !=0)=true:=by rw[bne_iff_ne];omega
  clear hb Y
  go_in
  go_wp2_with(fail);refine aE (v:=τ #[.agg #[ι κ 0,ι κ 0,σ ν 0 0],.iface 128 (ι κ 4)]) (by simp[results,results188,go_sem]) rfl ?_;exact⟨ν,0,0,4,0,0,[],rfl,X,Nat.le_refl _,Z.out,V,λ_=>rfl⟩
theorem EL(s:ByteArray)(w:dY)(hs:s.size<=maxLen):eZ e7 188 #[.string s] w λe w'=>Bh jk s.data.toList w e w':=by
 have hl:s.data.toList.length=s.size:=gZ;by_cases Z:s.size<4 \/16<s.size \/s.size%2=1
 ·refine RE s w hs ?_ Z;by_cases h16:16<s.size
  ·exact Kx _ eh
  ·unfold iu;rw[hl,ai eh]
 ·exact N1 s w eh eh eh
