import Derived.Test.YtieklnlbljejdaaGreatDoorC05
open Go.Value renaming int → ι, slice → σ, pointer → π, tuple → τ, nilIface → η, ownBlock → eh
open Go.IntKind renaming i64 → κ
open Go.Ending renaming returned → ρ
open Go.Obj renaming cells → γ
open Option renaming none → ν, some → μ
open List renaming length_append → eP, map_cons → eI, map_nil → eM, length_cons → eQ
open Go renaming Value → dY, World → dX, Calls → eX, Addr → dW
open Go.Proofs.Tryz renaming prog → eY
open Go.RowKit renaming intOf → eZ
open Go.Instr renaming loadAt → fO
open Go.Sem renaming run_bind → fQ
open BitVec renaming ofInt → fa, ofInt_natCast → gj, toNat_ofNat → gk
set_option maxRecDepth 100000
set_option maxHeartbeats 4000000
open Go.Proofs.Tryz
namespace Go.Proofs.YtieklnlbljejdaaGreatDoor
open Go.RowKit St
namespace Rt
variable {B g o:Nat} {out:List kN} {p:jv} {v:Value} {w w1:World}
theorem Hv(L:LS):(jd L).2.length<=12:=by
 unfold jd;have h1:=Ho L;have h2:=zA (kj L) 1;have h3:=zA (kY (kj L) 1).1 0;split;{simp only[eP];omega};{simp only;omega}
theorem Rq(g o B:Nat)(v:dY)(p:jv)(w:dX)(h:qB w g o B v p)(M:jf w)(A:p.out.length<=800000000):
 eX eY 82 #[π (μ ⟨g,o,ν⟩)] w λe w'=>e=ρ (τ #[])/\lP w w' g o B v p.tick:=by
 have D:=Ca.tick h M;have c1:=h.c1;have hl:=h.lt;have hlen:=Hv p.L;clear h
 go_in
 go_wp2_with(fail);refine D.mono ?_;rintro e w1 ⟨rfl,V⟩;have y:=V.state;obtain⟨d1,dl⟩:=V.ptr;clear D c1 hl;go_wp2_with(fail);refine y.mono ?_;rintro e w2 ⟨rfl,rfl⟩;clear y;cases E:((kj p.L).st==3)
 ·have U:(kj p.L).st≠3:=by simpa using E
  have Z:jd p.L=(kj p.L,lO p.L):=by unfold jd;rw[af U]
  have X:p.tick=({p with L:=kj p.L}:jv).say (lO p.L):=by unfold jv.tick;rw[Z]
  rw[Z]at hlen;have hs:=V.say (by simp only at hlen;omega) A;rw[<-X]at hs;have H:Hid _:=X;clear Z X U V;go_wp2_with(fail);refine hs.mono ?_;rintro e w3 ⟨rfl,J⟩;clear hs
  go_wp2
  first|go_end0|refine iK rfl rfl ?_
  exact⟨rfl,J⟩
 ·have U:(kj p.L).st=3:=by simpa using E
  have l1:=Ho p.L;have l2:=zA (kj p.L) 1;have S:=V.do_ M dZ 1;have Z:jd p.L=((kY (kY (kj p.L) 1).1 0).1,lO p.L++(kY (kj p.L) 1).2.1++(kY (kY (kj p.L) 1).1 0).2.1):=by unfold jd;rw[ai U]
  have X:p.tick=({p with L:=(kY (kY (kj p.L) 1).1 0).1}:jv).say (lO p.L++(kY (kj p.L) 1).2.1++(kY (kY (kj p.L) 1).1 0).2.1):=by unfold jv.tick;rw[Z]
  rw[Z]at hlen;have H:Hid _:=X;clear Z X U V;go_wp2_with(fail);refine S.mono ?_;rintro e w3 ⟨rfl,Y⟩;have G:=Y.do_ M (by simp only[eP];omega) 0;obtain⟨f1,fl⟩:=Y.ptr;clear S Y;go_wp2_with(fail);refine G.mono ?_;rintro e w4 ⟨rfl,T⟩;have hs:=T.say (Nat.le_trans (show _<=12 from hlen) ew) A;clear G T;go_wp2_with(fail);refine hs.mono ?_;rintro e w5 ⟨rfl,J⟩;clear hs
  go_wp2
  first|go_end0|refine iK rfl rfl ?_
  refine⟨rfl,?_⟩;rw[H.out];exact J
theorem acs(ev:Int)(T:ev=0 \/ev=1)(B:Nat)(X:Nat->Prop)(s:LS)(v:dY)(ps:List PV)(w:dX)(V:jf w)(h:rH w B X s v ps)(hf:(kY s ev).2.2≠0):
 eX eY 120 #[π (μ ⟨B,0,ν⟩),ι κ ev] w λe w'=>e=ρ (.iface 128 (ι κ ((kY s ev).2.2:Int)))/\eB w w':=by
 have hz:=sH;have ed:kY s ev=sY s ev (0,0,[]):=by unfold kY;rw[ai dZ]
 rw[ed]at hf⊢;have Z:(jh s.st ev).2.2≠0:=λe=>hf (by rw[tP _ e]);rw[wa _ Z];obtain⟨D,nx,f,Y⟩:∃D nx f,jh s.st ev=(D,nx,f):=⟨_,_,_,rfl⟩
 rw[Y]at Z⊢;have hc:=O2 B X s v ps ⟨0,0,ν,0,0,[]⟩ ev D nx f w V h Y Z;clear h V Y Z hf ed;rcases T with rfl|rfl
 all_goals
  go_in
  go_wp2_with(fail);refine hc.mono ?_;rintro e w1 ⟨rfl,U⟩;clear hc
  go_wp2
  go_ret;exact⟨rfl,U⟩
theorem Vh(p:jv)(B:Nat)(v:dY)(F G:Nat->dY)(r:kB):∀j,j<71->(if 2<=j/\j<2+65 then G (j-2)else xu p B v F j)=xu {p with rd:=r} B v G j:=by
 intro j hj;by_cases e:2<=j/\j<2+65;{rw[ai e];unfold xu;rw[af dZ,af dZ,ai dZ]};{rw[af e];unfold xu;by_cases Z:j=0;{simp[Z]};{by_cases Y:j=1;{simp[Y]};{have X:¬j<67:=dZ;simp[Z,Y,X]}}}
theorem Ca.read {w2:dX} (h:Ca w w1 g o B v p out)(r:kB)(J:Rd w2 g (o+2) r.1 r.2.1 r.2.2)(Y:lh w1 w2 g (o+2) 65):Ca w w2 g o B v {p with rd:=r} out:=by
 obtain⟨E,qs,Z,M⟩:=h.ex;obtain⟨F,hC,hF⟩:=Z.xw;obtain⟨G,S,X⟩:=J;have V:Kept w1 w2 g ν:=⟨Y.os,Y.tape,Y.output,Y.size,λi hi H _=>Y.block i hi H⟩
 have hl:=hC.lt ew;refine⟨⟨E,qs,⟨⟨G,(hC.join Y S).congr (Vh p B v F G r),X⟩,Z.rep.far V Z.xg (λe=>Z.gB e.symm),Z.ou.keep Y.size (λk U=>Y.block k (Z.ou.lt k U) (λe=>Z.vg (by rw[U,e]))),Z.few,Z.ok,Z.gB,Z.vg,Z.vB,Z.nz,Z.xg,Z.xv⟩,M⟩,?_⟩;refine h.kept.trans (v':=v) ⟨Y.os,Y.tape,Y.output,Y.size,λi hi T _ _=>Y.block i hi T,λj hj=>Y.cell j dZ,Y.fz⟩ (λ_ e=>.inl e)
theorem Ca.rdC(h:Ca w w1 g o B v p out):∃F,qg w1 g (o+2) 65 F/\Dp F p.rd.1 p.rd.2.1 p.rd.2.2:=by
 obtain⟨vl,qs,Z,ho⟩:=h.ex;obtain⟨F,hC,hF⟩:=Z.xw;refine⟨F,(hC.sub 2 65 ew).congr (λj hj=> ?_),hF⟩;unfold xu;rw[af dZ,af dZ,ai dZ,show 2+j-2=j by omega]
theorem Rr(up:Bool)(g o B:Nat)(v:dY)(p:jv)(w:dX)(h:qB w g o B v p)(U:jf w)(M:p.out.length<=800000000):
 eX eY 73 #[π (μ ⟨g,o,ν⟩),.bool up] w λe w'=>e=ρ (ji (p.iH up).2)/\lP w w' g o B v (p.iH up).1:=by
 obtain⟨ev,Z⟩:∃ev:Int,(if up=true then(0:Int)else 1)=ev:=⟨_,rfl⟩
 have V:ev=0 \/ev=1:=by rw[<-Z];cases up<;>simp
 have c1:=h.c1;have hl:=h.lt;by_cases hf:(kY p.L ev).2.2=0
 ·have Y:p.iH up=(({p with L:=(kY p.L ev).1,rd:=([],false,false)}:jv).say (kY p.L ev).2.1,0):=by
   unfold jv.iH;rw[Z];simp only;rw[af (by simpa using hf)]
  rw[Y];have hd:=h.begin.do_ U gU ev;rw[hf]at hd;have T:ji 0=η:=rfl;rw[T]at hd⊢;have hlen:=zA p.L ev;have hz:=UU.1;have hZ:=zD;have HE:Hid _:=Y;clear Y hf h;cases up
  all_goals
   simp only[if_true,if_false,Bool.false_eq_true]at Z;subst Z
   go_in
   go_wp2_with(fail);refine hd.mono ?_;rintro e w1 ⟨rfl,X⟩;obtain⟨F,hC,hF⟩:=X.rdC;obtain⟨k1,k2,k3⟩:=Eh hC;have hs:=(X.read ([],false,false) ⟨NC,k2,Dp.zero⟩ k3).say (by simp only[List.nil_append];omega) M;obtain⟨d1,dl⟩:=X.ptr;have dl2:g<(w1.setCells g (o+2) Hr.toList).heap.size:=Nat.lt_of_lt_of_le dl k3.size;clear hd X hC hF k2 k3;go_wp2_with(fail);refine hs.mono ?_;rintro e w3 ⟨rfl,S⟩;clear hs
   go_wp2
   go_ret;exact⟨rfl,S⟩
 ·have Y:p.iH up=(p,(kY p.L ev).2.2):=by
   unfold jv.iH;rw[Z];simp only;rw[ai hf]
  rw[Y];have hd:=acs ev V B _ p.L _ [] w U (rH.rest h.lk) hf;have ee:ji (kY p.L ev).2.2=.iface 128 (ι κ ((kY p.L ev).2.2:Int)):=by simp only[ji];rw[af hf]
  simp only;rw[ee];have HP:Hid _:=h;clear Y hf h ee;generalize (kY p.L ev).2.2=f at hd⊢;cases up
  all_goals
   simp only[if_true,if_false,Bool.false_eq_true]at Z;subst Z
   go_in
   go_wp2_with(fail);refine hd.mono ?_;rintro e w1 ⟨rfl,hb⟩;clear hd
   go_wp2
   go_ret;exact⟨rfl,lP.still HP.out hb⟩
end Rt
theorem Vi:(eY.info? 5).map (λi=>(i.zero,i.size,i.bytes))=μ (μ (.int .u8 0),1,1):=gS
def stH(own seq:Int):List UInt8:=[St.u8 own,St.u8 (seq%256),St.u8 (seq/256%256),St.u8 (seq/65536)]
theorem YK(own seq:Int):(stH own seq).length=4:=rfl
theorem Vj(w:dX)(own seq:Int)(p1:1<=own)(p2:own<=6)(p3:1<=seq)(p4:seq<=1000000):Row (w.alloc (γ #[.int .u8 own,.int .u8 (seq%256),.int .u8 (seq/256%256),.int .u8 (seq/65536)] 5)) 1 (σ (μ ⟨w.heap.size,0,ν⟩) 4 4) 4 (iP [St.u8 own,St.u8 (seq%256),St.u8 (seq/256%256),St.u8 (seq/65536)]):=by
 refine Row.made w 1 _ _ (0,0) 4 4 _ rfl rfl (Nat.le_refl _) ew (.inl rfl) ?_;intro j u Z;simp only[iP,eI,eM,pB own dZ dZ,pB (seq%256) dZ dZ,pB (seq/256%256) dZ dZ,pB (seq/65536) dZ dZ]at Z;simpa using Z
theorem NN(own seq:Int)(a:Option dW)(n cap:Nat)(os:List jJ)(w:dX)(M:jc w a n os)(hf:oA own seq os=0):
 eX eY 198 #[.agg #[ι κ own,ι κ seq,σ a n cap]] w λe w'=>e=ρ (τ #[.string ⟨(rh own seq os).toArray⟩,η])/\eB w w':=by
 obtain⟨i0,hi,og,mZ,mc⟩:=aW Vi;obtain⟨⟨p1,p2⟩,⟨p3,p4⟩,p5,p6⟩:=ju hf;have nN:=pV own os 0 p6;have hl:=M.1;have G:=gT w (γ #[ι κ own,ι κ seq,σ a n cap] 40);have J:=yr own seq a n cap os _ dZ (M.below G);have e0:ji 0=η:=rfl;rw[hf,e0]at J;clear e0 p6 hf
 go_in
 go_wp2_with(fail);refine J.mono ?_;rintro e w1 ⟨rfl,H⟩;obtain⟨q0,q1,q2,hz⟩:=ajL H;have vK:=gh G H;clear H J G;go_wp2_with(fail);have uf:Row (w1.alloc (γ #[.int .u8 own,.int .u8 (seq%256),.int .u8 (seq/256%256),.int .u8 (seq/65536)] 5)) 1 (σ (μ ⟨w1.heap.size,0,ν⟩) 4 4) 4 (iP [St.u8 own,St.u8 (seq%256),St.u8 (seq/256%256),St.u8 (seq/65536)]):=Vj w1 own seq p1 p2 p3 p4;have xh:eB w (w1.alloc (γ #[.int .u8 own,.int .u8 (seq%256),.int .u8 (seq/256%256),.int .u8 (seq/65536)] 5)):=vK.alloc vK.size _
 go_loopw [5,31] (λv i wr=>∃(k g cp:Nat) (E:List UInt8),E=stH own seq++MA (os.take k)/\k<=n/\i=ι κ k/\v=σ (μ ⟨g,0,ν⟩) E.length cp/\Row wr 1 v E.length (iP E)/\
  w.heap.size<=g/\eB w wr)
  (λ_ i _=>n-(eZ i).toNat)
 case atStart=>exact⟨0,w1.heap.size,4,_,rfl,Nat.zero_le _,rfl,rfl,uf,vK.size,xh⟩
 case round=>
  obtain⟨k,g,cp,E,S,hk,rfl,rfl,U,Kh,X⟩:=hrel;have Pv:E.length<=19:=by
   have h1:=yn (os.take k);have h2:(os.take k).length<=6:=by simp;omega
   rw[S,az,YK];omega
  have HE:Hid _:=S;have HL:Hid _:=hl;clear S uf xh hl;have m2:E.length+2<=maxLen:=by unfold maxLen;omega
  have b2:(E.length+2)*1<=140737488355328:=dZ;by_cases kA:k<n
  ·have Ap:=M.below X;rcases Ap.2 with h0|⟨b,off,rfl,hc⟩
   ·omega
   have qG:k<os.length:=by rw[HL.out];exact kA
   obtain⟨c1,c2⟩:=hc k qG;obtain⟨⟨D,A⟩,⟨y,o2b⟩⟩:=nN os[k] (aF _);have HT:Hid (os.take (k+1)=os.take k++ [os[k]]):=aA qG;generalize os[k] =o at c1 c2 HT D A y o2b;clear hc Ap;have nL:(k:Int)<(n:Int):=dZ;have Y:eB w (wr.alloc (γ #[ι κ o.1,ι κ o.2] 123)):=X.alloc X.size _;have Z:Row (wr.alloc (γ #[ι κ o.1,ι κ o.2] 123)) 1 (σ (μ ⟨g,0,ν⟩) E.length cp) E.length (iP E):=U.alloc _;go_wp2_with(at_builtin;go_must(refine iG _ rfl (.tmp 35) (.tmp 42) 140 rfl 5 i0 (.int .u8 0) 1 1 underlying140 hi og mZ mc rfl ew _ E.length (iP E) rfl (Z.alloc _) _ 2 2 [.int .u8 o.1,.int .u8 o.2] rfl rfl ew ?hcc (lL _ _ _ _) m2 b2 ?_))
   case hcc=>
    have:=pI (wr.alloc (γ #[ι κ o.1,ι κ o.2] 123)) (.int .u8 o.1) (.int .u8 o.2) 5;simpa using this
   intro V cap2 w2 sW sK kV;have sG:μ g=μ V \/(wr.alloc (γ #[ι κ o.1,ι κ o.2] 123)).heap.size+1<=V:=by
    rcases kV with h|h
    {exact .inl h};{exact .inr (by simp;omega)}
   have R:=GU sK sG Kh Y;have sD:Row w2 1 (σ (μ ⟨V,0,ν⟩) (E.length+2) cap2) (E++ [St.u8 o.1,St.u8 o.2]).length (iP (E++ [St.u8 o.1,St.u8 o.2])):=by
    rw[lI,az];simp only[iP,eI,eM,pB o.1 (show 0<=o.1 by omega) (show o.1<=255 by omega),pB o.2 (show 0<=o.2 by omega) (show o.2<=255 by omega)];exact sW
   have HN:Hid (E++ [St.u8 o.1,St.u8 o.2] =stH own seq++MA (os.take (k+1))):=by
    show E++ [St.u8 o.1,St.u8 o.2] =_;rw[HE.out,HT.out,TY,aD]
   have T:Hid ((E++ [St.u8 o.1,St.u8 o.2]).length=E.length+2):=by show(E++ [St.u8 o.1,St.u8 o.2]).length=E.length+2;simp
   clear sW sK kV sG U X Y Z
   go_wp2
   go_roundw
   case rel=>exact⟨k+1,V,cap2,_,HN.out,dZ,by go_num,by rw[T.out],sD,R.1,R.2⟩
   case measure=>simp[eZ];omega
  ·have aaD:(convert 140 9 (σ (μ ⟨g,0,ν⟩) E.length cp)).run eY wr=.ok (.string ⟨E.toArray⟩) wr:=Row.back U 140 9 5 underlying140 underlying5 underlying9;have HF:Hid (rh own seq os=E):=by
    show rh own seq os=E;have zf:os.take k=os:=aI (by rw[HL.out];omega);rw[HE.out,zf];rfl
   clear U;go_wp2_with(fail);rw[HF.out]
   go_ret2
   exact⟨rfl,X⟩
theorem Ev(w:dX)(x y:dY)(t:TypeId):∀(j:Nat) (u:dY),[x,y][j]? =μ u->(w.alloc (γ #[x,y] t)).drew.cell? ((⟨w.heap.size,0,ν⟩:dW).add j)=μ u:=λj u Z=>pI w x y t j u Z
namespace Rt
variable {B g i j k n o:Nat} {F:Nat->Value} {K:Int->Option PS} {P:Nat->jv} {Q:Exit->Act->World->Prop} {a b c w w':World} {id:Int} {ops:Array Oper} {p:jv} {r r':iN} {v:Value}
theorem qB.rest {w w1:dX} {g o B:Nat} {v:dY} {p:jv} (h:qB w g o B v p)(hb:eB w w1):PtQ w1 g o B v p (λk=>k<w.heap.size) (σ ν 0 0) [] :=by
 have Z:=h.below hb;exact⟨Z.xw,(rH.rest h.lk).below hb,Z.ou,h.few,h.ok,h.gB,h.vg,h.vB,h.nz,h.lt,λk Y=>h.ou.lt k Y⟩
theorem qB.take {w1:dX} (h:qB w g o B v p)(hb:eB w w1)(T:jf w)(code id:Int)(a:Option dW)(n cap:Nat)(os:List jJ)(H:jc w1 a n os)(G:kJ a cap)(Y:n<=cap)(J:n<=1000)
 (E:∀j,eh (σ a n cap)=μ j->w.heap.size<=j/\j<w1.heap.size):
 eX eY 185 #[π (μ ⟨B,0,ν⟩),.agg #[ι κ code,ι κ id,σ a n cap]] w1 λe w'=>e=ρ (ji (jK p.L (code,id,os)).2.2)/\Ca w w' g o B v {p with L:=(jK p.L (code,id,os)).1} (jK p.L (code,id,os)).2.1:=by
 have Z:=h.rest hb;have X:vA w1 (λk=>k<w.heap.size) (σ ν 0 0) ⟨code,id,a,n,cap,os⟩:=⟨H,G,Y,J,λk M=>by
  have D:eh (σ a n cap)=μ k:=DK M;obtain⟨h1,U⟩:=E k D;exact⟨dZ,by simp[eh],U⟩⟩
 refine(UJ B _ p.L _ [] ⟨code,id,a,n,cap,os⟩ w1 (T.below hb) Z.nz.2.1 (by simp[eh]) Z.rep Z.ok.bd gU X Z.ok.m1 Z.ok.m2).mono ?_;rintro e w' ⟨rfl,S⟩;refine⟨rfl,?_⟩;have V:=Ca.went Z rfl (nR.iT o B v hb h.lt) S (Z.ok.jK _);rw[eM,bU]at V;exact V
theorem Lj(s:ByteArray)(g o B:Nat)(v:dY)(p:jv)(w:dX)(h:qB w g o B v p)(hT:jf w)(hs:s.size<=1000)(hn:p.out.length<=800000000):
 eX eY 133 #[π (μ ⟨g,o,ν⟩),.string s] w λe w'=>e=ρ (τ #[])/\lP w w' g o B v (p.packet s.data.toList):=by
 have hp:=Lb s w hs;have HP:Hid _:=h;clear h
 go_in
 go_wp2_with(fail);refine hp.mono ?_;rintro e w1 ⟨a,n,cap,f,code,id,os,rfl,H,D,S,hb,G,hz⟩;clear hp;by_cases hf:f=0
 ·subst hf;have e0:ji 0=η:=rfl;rw[e0];have qG:os.length<=1000:=by
   have Y:iY s.data.toList=(code,id,os,0):=S;unfold iY at Y;split at Y;{simp at Y}
   ·split at Y
    ·rename_i X
     have h3:mN (s.data.toList.drop 3)=os:=(dN (dN (dN Y).2).2).1;rw[h3]at X;unfold jS at X;split at X;{simp at X};{split at X;{simp at X};{omega}}
    ·simp at Y
  have mO:n<=1000:=by have:=H.1;omega
  have T:p.packet s.data.toList=({p with L:=(jK p.L (code,id,os)).1}:jv).say (jK p.L (code,id,os)).2.1:=by
   unfold jv.packet;rw[S];rfl
  have ba:=gT w1 (γ #[ι κ code,ι κ id,σ a n cap] 37);have E:=gh hb ba;have hA:=λj=>aq w1 #[ι κ code,ι κ id,σ a n cap] 37 (0,0) j;have A:=HP.out.take (jD E) hT code id a n cap os (H.below (jD ba)) hz D mO (λj hj=>⟨(G j hj).1,Nat.lt_of_lt_of_le (G j hj).2 ba.size⟩);have hlen:=Hp p.L (code,id,os);obtain⟨U,V⟩:=gg (w1.alloc (γ #[ι κ code,ι κ id,σ a n cap] 37));obtain⟨Z,M⟩:=gg (w1.heap.size);rw[V]at E A;have d0:U.cell? ⟨Z,0,ν⟩=μ (ι κ code):=by rw[<-V,<-M];exact hA 0
  have d1':U.cell? ⟨Z,1,ν⟩=μ (ι κ id):=by rw[<-V,<-M];exact hA 1
  have d2:U.cell? ⟨Z,2,ν⟩=μ (σ a n cap):=by rw[<-V,<-M];exact hA 2
  have zl:Z<U.heap.size:=ag U _ d0;have d1:=(HP.out.below E).c1;have dl:=(HP.out.below E).lt;have HE:Hid _:=T;have Uq:Hid _:=V;have HZ:Hid _:=M;clear T S H G hA V M ba hb;go_wp2_with(fail);rw[Uq.out,HZ.out]
  go_region_with(go_at_call 185;refine A.mono ?_;rintro e w3 ⟨rfl,y⟩)
  all_goals
   have J:=y.say dZ hn;clear A y;go_wp2_with(fail);refine J.mono ?_;rintro e w4 ⟨rfl,hW⟩;clear J
   go_wp2
   first|go_end0|refine iK rfl rfl ?_
   refine⟨rfl,?_⟩;rw[HE.out];exact hW
 ·have ee:ji f=.iface 128 (ι κ (f:Int)):=by simp only[ji];rw[af hf]
  rw[ee];have T:p.packet s.data.toList=p:=by
   unfold jv.packet;rw[S];simp only;rw[af hf]
  have HW:Hid (lP w (w1.alloc (γ #[ι κ code,ι κ id,σ a n cap] 37)) g o B v (p.packet s.data.toList)):=by
   show lP _ _ _ _ _ _ _;rw[T];exact lP.still HP.out (gh hb (gT _ _))
  clear T S H G hf ee
  go_wp2
  first|go_end0|refine iK rfl rfl ?_
  exact⟨rfl,HW.out⟩
theorem xZ(T:ByteArray)(c:UInt8)(own seq:Int)(a:Option dW)(n cap:Nat)(es:List jJ)(g o B:Nat)(v:dY)(p:jv)(w:dX)(h:qB w g o B v p)(H:T.data.toList=[c])(U:jc w a n es)(hf:oA own seq es=0)(hn:p.out.length<=800000000):
 eX eY 152 #[π (μ ⟨g,o,ν⟩),.string T,.agg #[ι κ own,ι κ seq,σ a n cap]] w λe w'=>e=ρ (τ #[])/\lP w w' g o B v (p.put c (rh own seq es)):=by
 have V:=gT w (γ #[ι κ own,ι κ seq,σ a n cap] 40);have hA:=λj=>aq w #[ι κ own,ι κ seq,σ a n cap] 40 (0,0) j;have X:=NN own seq a n cap es _ (U.below V) hf;have J:=(ju hf).2.2.1;have E:(rh own seq es).length<=100:=by
  have M:∀l:List jJ,(MA l).length=2*l.length:=by
   intro l
   induction l with
   |nil=>rfl
   |cons x l ih=>
    have e:MA (x::l)=u8 x.1::u8 x.2::MA l:=rfl;rw[e];simp only[eQ,ih];omega
  simp only[rh,eQ,M];omega
 obtain⟨L,Z⟩:=gg (rh own seq es);rw[Z]at X E;rw[Z];have HP:Hid _:=h;clear h Z U hf J
 go_in
 go_wp2_with(fail);refine X.mono ?_;rintro e w1 ⟨rfl,b1⟩;have k1:=gh V b1;have Y:=Dr g o B v p T ⟨L.toArray⟩ c w1 (HP.out.below k1) H (by show L.toArray.size<=1000;simp;omega) dZ;have S:(⟨L.toArray⟩:ByteArray).data.toList=L:=gU;rw[S]at Y;clear X b1;go_wp2_with(fail);refine Y.mono ?_;rintro e w2 ⟨rfl,G⟩;clear Y
 go_wp2
 first|go_end0|refine iK rfl rfl ?_
 exact⟨rfl,lP.trans (nR.iT o B v k1 HP.out.lt) (λ_ e=>.inl e) G⟩
def rO(l:List zb):List dY:=l.flatMap λt=>[ι κ t.1,ι κ t.2.1,.string ⟨t.2.2.toArray⟩]
structure Zt where
 R:Nat
 g:Nat
 cap:Nat
 B:Nat->Nat
 v:Nat->dY
 Bb:Nat
 fm:FM
 iv:dY
def Zt.mine(z:Zt)(n k:Nat):Prop:=k=z.R \/k=z.g \/(∃i,i<n/\(k=z.B i \/(z.v i).ownBlock=μ k)) \/z.iv.ownBlock=μ k
structure mA(w:dX)(z:Zt)(r:iN):Prop where
 n1:1<=r.n
 n3:r.n<=3
 NP:r.n<=z.cap
 id:1<=r.id/\r.id<=6
 od:iX w z.R #[ι κ r.id,σ (μ ⟨z.g,0,ν⟩) r.n z.cap,π (μ ⟨z.Bb,0,ν⟩),z.iv,ι κ r.drop] 135
 pt:∀i,i<r.n->qB w z.g (i*71) (z.B i) (z.v i) (r.P i)
 ib:Row w 3 z.iv r.j8.length (rO r.j8)
 bs:BR w z.Bb z.fm 6 r.K r.O
 bl:z.fm.bs.length=r.n
 no:∀k,z.mine r.n k->z.fm.no k
 nb:¬z.fm.no z.Bb/\¬z.fm.no z.fm.g/\∀b,(b=z.fm.bm \/b∈z.fm.bs)->¬z.fm.no b
 sR:z.R≠z.g/\z.R≠0/\∀i,i<r.n->z.B i≠z.R/\(z.v i).ownBlock≠μ z.R
 sB:∀i j,i<r.n->j<r.n->i≠j->z.B i≠z.B j/\∀k,(z.v i).ownBlock=μ k->(z.v j).ownBlock≠μ k
 sV:∀i j,i<r.n->j<r.n->(z.v i).ownBlock≠μ (z.B j)
 sI:∀k,z.iv.ownBlock=μ k->k≠z.R/\k≠z.g/\∀i,i<r.n->k≠z.B i/\(z.v i).ownBlock≠μ k
 Rs:z.iv.ownBlock≠μ 0/\∀b,(b=z.fm.bm \/b∈z.fm.bs)->b≠0
structure zG(w w':dX)(z:Zt)(n:Nat):Prop where
 os:w'.os=w.os
 tape:w'.tape=w.tape
 output:w'.output=w.output
 size:w.heap.size<=w'.heap.size
 block:∀k,k<w.heap.size->¬z.mine n k->k≠z.fm.bm->k∉z.fm.bs->w'.heap[k]? =w.heap[k]?
structure Zt.like(z z':Zt):Prop where
 R:z'.R=z.R
 g:z'.g=z.g
 cap:z'.cap=z.cap
 B:z'.B=z.B
 Bb:z'.Bb=z.Bb
 bm:z'.fm.bm=z.fm.bm
 fg:z'.fm.g=z.fm.g
 bs:z'.fm.bs=z.fm.bs
structure iD(w w':dX)(z:Zt)(r:iN)(n:Nat):Prop where
 ex:∃z',mA w' z' r/\z.like z'/\(∀k,z'.mine n k->z.mine n k \/w.heap.size<=k)/\(∀k,z.fm.no k->z'.fm.no k)
 kept:zG w w' z n
def A6(v:Nat->dY)(i:Nat)(x:dY):Nat->dY:=λj=>if j=i then x else v j
theorem pN(v:Nat->dY)(i:Nat)(x:dY):A6 v i x i=x:=by simp[A6]
theorem nT(v:Nat->dY)(x:dY)(h:j≠i):A6 v i x j=v j:=by simp[A6,h]
theorem jy(P:Nat->jv)(i:Nat)(p:jv):k9 P i p i=p:=by simp[k9]
theorem jr(P:Nat->jv)(p:jv)(h:j≠i):k9 P i p j=P j:=by simp[k9,h]
theorem mA.port {z:Zt} (h:mA w z r)(hi:i<r.n)(hW:lP w w' z.g (i*71) (z.B i) (z.v i) p):iD w w' z (r.iU i p) r.n:=by
 obtain⟨⟨v',hP,hv⟩,X⟩:=hW;have kA:∀k,z.mine r.n k->k<w.heap.size:=λk Z=>h.bs.Rl k (h.no k Z);have K0:=(h.pt i hi).lt;have D:∀k,k<w.heap.size->v'.ownBlock=μ k->(z.v i).ownBlock=μ k:=λk Z e=>by
  rcases hv k e with T|T
  {exact T};{omega}
 have M:z.mine r.n z.g/\z.mine r.n (z.B i)/\∀k,(z.v i).ownBlock=μ k->z.mine r.n k:=⟨.inr (.inl rfl),.inr (.inr (.inl ⟨i,hi,.inl rfl⟩)),λk Z=>.inr (.inr (.inl ⟨i,hi,.inr Z⟩))⟩
 have zH:∀k,k<w.heap.size->¬z.mine r.n k->w'.heap[k]? =w.heap[k]? :=λk Z E=>X.block k Z (λe=>E (by rw[e];exact M.1)) (λe=>E (by rw[e];exact M.2.1)) (λe=>E (M.2.2 k e));have FY:=h.bs.still X.size (λj Y hn=>zH j Y (λe=>hn (h.no j e))) h.nb.1 h.nb.2.1 h.nb.2.2 (λk=>z.fm.no k \/(w.heap.size<=k/\k<w'.heap.size/\v'.ownBlock=μ k)) (λj Y=>by
  rcases Y with e|e
  ·exact .inl e
  ·exact .inr e.1) (λj Y=>by
  rcases Y with e|e
  ·exact Nat.lt_of_lt_of_le (h.bs.Rl j e) X.size
  ·exact e.2.1)
 have y:∀b,(b=z.fm.bm \/b∈z.fm.bs)->b<w.heap.size:=h.bs.mlt;have acw:z.Bb<w.heap.size:=by obtain⟨_,_,hF,_⟩:=h.bs.ex;exact hF.lt
 have acx:z.fm.g<w.heap.size:=by obtain⟨_,_,hF,_⟩:=h.bs.ex;exact hF.row.lt _ rfl
 refine⟨⟨{z with v:=A6 z.v i v',fm:={z.fm with no:=λk=>z.fm.no k \/(w.heap.size<=k/\k<w'.heap.size/\v'.ownBlock=μ k)}},⟨h.n1,h.n3,h.NP,h.id,?_,?_,?_,FY,h.bl,?_,?_,⟨h.sR.1,h.sR.2.1,?_⟩,?_,?_,?_,h.Rs⟩,⟨rfl,rfl,rfl,rfl,rfl,rfl,rfl,rfl⟩,?_,λk Z=>.inl Z⟩,⟨X.os,X.tape,X.output,X.size,λk Z E _ _=>zH k Z E⟩⟩;{exact h.od.keep (X.block z.R h.od.lt h.sR.1 (λe=>(h.sR.2.2 i hi).1 e.symm) (h.sR.2.2 i hi).2)}
 ·intro j Y;by_cases e:j=i;{subst e;show qB w' z.g (j*71) (z.B j) (A6 z.v j v' j) (k9 r.P j p j);rw[pN,jy];exact hP}
  ·show qB w' z.g (j*71) (z.B j) (A6 z.v i v' j) (k9 r.P i p j);rw[nT _ _ e,jr _ _ e];have V:=h.pt j Y;obtain⟨F,hC,hF⟩:=V.xw;have hs:=h.sB j i Y hi e;refine⟨⟨F,λx hx=>⟨(X.cell (j*71+x) ?_).trans (hC.cell x hx),(X.fz _).trans (hC.fz x hx)⟩,hF⟩,V.lk.keep (X.block (z.B j) V.lk.lt (λe=>V.gB e.symm) hs.1 (h.sV i j hi Y)),V.ou.keep X.size (λk Z=>X.block k (V.ou.lt k Z) (λe=>V.vg (by rw[Z,e])) (λe=>h.sV j i Y hi (by rw[Z,e])) (hs.2 k Z)),V.few,V.ok,V.gB,V.vg,V.vB,V.nz⟩;rcases Nat.lt_or_gt_of_ne e with h1|h1
   {exact .inl dZ};{exact .inr dZ}
 ·exact h.ib.keep X.size (λk Z=>X.block k (h.ib.lt k Z) (h.sI k Z).2.1 ((h.sI k Z).2.2 i hi).1 ((h.sI k Z).2.2 i hi).2)
 ·intro k Z;rcases Z with e|e|⟨j,Y,e|e⟩|e
  {exact .inl (h.no k (.inl e))};{exact .inl (h.no k (.inr (.inl e)))};{exact .inl (h.no k (.inr (.inr (.inl ⟨j,Y,.inl e⟩))))}
  ·by_cases U:j=i
   ·subst U;have e':v'.ownBlock=μ k:=by have:=e;simp only[pN]at this;exact this
    rcases hv k e' with T|T
    {exact .inl (h.no k (.inr (.inr (.inl ⟨j,Y,.inr T⟩))))};{exact .inr ⟨T,hP.ou.lt k e',e'⟩}
   ·have e':(z.v j).ownBlock=μ k:=by have:=e;simp only[nT _ _ U]at this;exact this
    exact .inl (h.no k (.inr (.inr (.inl ⟨j,Y,.inr e'⟩))))
  ·exact .inl (h.no k (.inr (.inr (.inr e))))
 ·refine⟨λe=> ?_,λe=> ?_,λb hb e=> ?_⟩
  ·rcases e with e|e
   {exact h.nb.1 e};{have h8:w.heap.size<=z.Bb:=e.1;omega}
  ·rcases e with e|e
   {exact h.nb.2.1 e};{have h8:w.heap.size<=z.fm.g:=e.1;omega}
  ·rcases e with e|e
   {exact h.nb.2.2 b hb e};{have h9:=y b hb;omega}
 {intro j Y;refine⟨(h.sR.2.2 j Y).1,?_⟩;by_cases U:j=i;{subst U;show(A6 z.v j v' j).ownBlock≠_;rw[pN];exact λe=>(h.sR.2.2 j Y).2 (D _ h.od.lt e)};{show(A6 z.v i v' j).ownBlock≠_;rw[nT _ _ U];exact(h.sR.2.2 j Y).2}};{intro a b S hb H;refine⟨(h.sB a b S hb H).1,λk Z=> ?_⟩;show(A6 z.v i v' b).ownBlock≠μ k;have J:(A6 z.v i v' a).ownBlock=μ k:=Z;by_cases G:a=i;{subst G;rw[pN]at J;rw[nT _ _ (λe=>H e.symm)];intro e;have A:=(h.pt b hb).ou.lt k e;exact(h.sB a b S hb H).2 k (D k A J) e};{rw[nT _ _ G]at J;by_cases eb:b=i;{subst eb;rw[pN];intro e;have A:=(h.pt a S).ou.lt k J;exact(h.sB a b S hb H).2 k J (D k A e)};{rw[nT _ _ eb];exact(h.sB a b S hb H).2 k J}}}
 {intro a b S hb;show(A6 z.v i v' a).ownBlock≠μ (z.B b);by_cases G:a=i;{subst G;rw[pN];exact λe=>h.sV a b S hb (D _ (h.pt b hb).lk.lt e)};{rw[nT _ _ G];exact h.sV a b S hb}};{intro k Z;obtain⟨h1,h2,h3⟩:=h.sI k Z;refine⟨h1,h2,λj Y=>⟨(h3 j Y).1,?_⟩⟩;show(A6 z.v i v' j).ownBlock≠μ k;by_cases U:j=i;{subst U;rw[pN];exact λe=>(h3 j Y).2 (D k (h.ib.lt k Z) e)};{rw[nT _ _ U];exact(h3 j Y).2}}
 ·intro k Z;rcases Z with e|e|⟨j,Y,e|e⟩|e
  {exact .inl (.inl e)};{exact .inl (.inr (.inl e))};{exact .inl (.inr (.inr (.inl ⟨j,Y,.inl e⟩)))}
  ·by_cases U:j=i
   ·subst U;have e':v'.ownBlock=μ k:=by have:=e;simp only[pN]at this;exact this
    rcases hv k e' with T|T
    {exact .inl (.inr (.inr (.inl ⟨j,Y,.inr T⟩)))};{exact .inr T}
   ·have e':(z.v j).ownBlock=μ k:=by have:=e;simp only[nT _ _ U]at this;exact this
    exact .inl (.inr (.inr (.inl ⟨j,Y,.inr e'⟩)))
  ·exact .inl (.inr (.inr (.inr e)))
theorem zG.refl(w:dX)(z:Zt)(n:Nat):zG w w z n:=⟨rfl,rfl,rfl,Nat.le_refl _,λ_ _ _ _ _=>rfl⟩
theorem zG.iT(z:Zt)(n:Nat)(h:eB w w'):zG w w' z n:=⟨h.os,h.tape,h.output,h.size,λk Z _ _ _=>h.block k Z⟩
theorem Zt.si(z:Zt):z.like z:=⟨rfl,rfl,rfl,rfl,rfl,rfl,rfl,rfl⟩
theorem Zt.Ew {a b c:Zt} (h:a.like b)(k:b.like c):a.like c:=⟨k.R.trans h.R,k.g.trans h.g,k.cap.trans h.cap,k.B.trans h.B,k.Bb.trans h.Bb,k.bm.trans h.bm,k.fg.trans h.fg,k.bs.trans h.bs⟩
theorem mA.A7 {z:Zt} (h:mA w z r):∀k,z.mine r.n k->k<w.heap.size:=λk Z=>h.bs.Rl k (h.no k Z)
theorem mA.below {w w':dX} {z:Zt} {r:iN} (h:mA w z r)(hb:eB w w'):mA w' z r:=
 ⟨h.n1,h.n3,h.NP,h.id,h.od.keep (hb.block _ h.od.lt),λi hi=>(h.pt i hi).below hb,h.ib.below hb,h.bs.below hb,h.bl,h.no,h.nb,h.sR,h.sB,h.sV,h.sI,h.Rs⟩
theorem iD.still {z:Zt} (h:mA w z r)(hb:eB w w'):iD w w' z r r.n:=
 ⟨⟨z,h.below hb,z.si,λ_ e=>.inl e,λ_ e=>e⟩,zG.iT z r.n hb⟩
theorem iD.refl {w:dX} {z:Zt} {r:iN} (h:mA w z r):iD w w z r r.n:=⟨⟨z,h,z.si,λ_ e=>.inl e,λ_ e=>e⟩,zG.refl w z r.n⟩
theorem iD.step {z:Zt} (h:iD a b z r n)(k:∀z',mA b z' r->z.like z'->iD b c z' r' n):iD a c z r' n:=by
 obtain⟨⟨z',E,hl,S,D⟩,Z⟩:=h;obtain⟨⟨A,J,H,M,G⟩,Y⟩:=k z' E hl;refine⟨⟨A,J,Zt.Ew hl H,λx hx=> ?_,λx hx=>G x (D x hx)⟩,⟨Y.os.trans Z.os,Y.tape.trans Z.tape,Y.output.trans Z.output,Nat.le_trans Z.size Y.size,λx hx V U T=>(Y.block x (Nat.lt_of_lt_of_le hx Z.size) (λe=> ?_) (by rw[hl.bm];exact U) (by rw[hl.bs];exact T)).trans (Z.block x hx V U T)⟩⟩
 ·rcases M x hx with e|e
  {exact S x e};{exact .inr (Nat.le_trans Z.size e)}
 ·rcases S x e with X|X
  {exact V X};{omega}
theorem iD.below {z:Zt} (h:iD a b z r n)(Y:r.n=n)(hb:eB b c):iD a c z r n:=by
 subst Y;exact h.step λz' Z _=>iD.still Z hb
theorem iD.first {z:Zt} (J:mA a z r)(H:r.n=n)(hb:eB a b)(k:mA b z r->iD b c z r' n):iD a c z r' n:=by
 subst H;obtain⟨⟨G,X,V,Y,U⟩,Z⟩:=k (J.below hb);exact⟨⟨G,X,V,λx hx=>(Y x hx).imp_right (λe=>Nat.le_trans hb.size e),U⟩,⟨Z.os.trans hb.os,Z.tape.trans hb.tape,Z.output.trans hb.output,Nat.le_trans hb.size Z.size,λx hx T S M=>(Z.block x (Nat.lt_of_lt_of_le hx hb.size) T S M).trans (hb.block x hx)⟩⟩
theorem iD.tab {z:Zt} {r0:iN} (h:iD a b z r n)(Z:mA a z r0)(U:r0.n=n)(X:jf a):jf b:=λe s V hs=>by
 subst U;refine(aj (a:=⟨0,e*10+s,ν⟩) (h.kept.block 0 X.lt (λY=> ?_) (λY=> ?_) (λY=> ?_))).trans (X e s V hs)
 ·rcases Y with e|e|⟨i,hi,e|e⟩|e
  {exact Z.sR.2.1 e.symm};{exact(Z.pt 0 Z.n1).nz.1 e.symm};{exact(Z.pt i hi).nz.2.1 e.symm};{exact(Z.pt i hi).nz.2.2 e};{exact Z.Rs.1 e}
 {exact Z.Rs.2 0 (.inl Y) rfl};{exact Z.Rs.2 0 (.inr Y) rfl}
theorem mA.base {z:Zt} {K':Int->Option PS} {O':Nat->Int->Option PS} (h:mA w z r)(U:BR w' z.Bb z.fm k K' O')(Y:jC w w' z.fm):iD w w' z {r with K:=K',O:=O'} r.n:=by
 have hb:∀x,z.mine r.n x->w'.heap[x]? =w.heap[x]? :=λx hx=>Y.block x (h.A7 x hx) (λe=>h.nb.2.2 x (.inl e) (h.no x hx)) (λe=>h.nb.2.2 x (.inr e) (h.no x hx));refine⟨⟨z,⟨h.n1,h.n3,h.NP,h.id,h.od.keep (hb _ (.inl rfl)),λi hi=> ?_,h.ib.keep Y.size (λx hx=>hb x (.inr (.inr (.inr hx)))),U.six,h.bl,h.no,h.nb,h.sR,h.sB,h.sV,h.sI,h.Rs⟩,z.si,λ_ e=>.inl e,λ_ e=>e⟩,⟨Y.os,Y.tape,Y.output,Y.size,λx hx _ X V=>Y.block x hx X V⟩⟩;have Z:=h.pt i hi;obtain⟨F,hC,hF⟩:=Z.xw;exact⟨⟨F,hC.keep (hb _ (.inr (.inl rfl))),hF⟩,Z.lk.keep (hb _ (.inr (.inr (.inl ⟨i,hi,.inl rfl⟩)))),Z.ou.keep Y.size (λx hx=>hb x (.inr (.inr (.inl ⟨i,hi,.inr hx⟩)))),Z.few,Z.ok,Z.gB,Z.vg,Z.vB,Z.nz⟩
theorem acy(p:jv)(B:Nat)(v:dY)(F:Nat->dY)(q:lD):∀j,j<71->tg (tg (tg (xu p B v F) 67 (.int .i64 q.who)) 68 (.bool q.both)) 69 (.int .i64 q.left) j=xu {p with pe:=q} B v F j:=by
 intro j hj;by_cases Z:j=69;{subst Z;simp[tg,xu]};by_cases Y:j=68;{subst Y;simp[tg,xu]};by_cases X:j=67;{subst X;simp[tg,xu]};rw[jI _ _ Z,jI _ _ Y,jI _ _ X];simp only[xu,Z,Y,X,if_false]
theorem qB.peer(h:qB w g o B v p)(q:lD):
 lP w (((w.setCell ⟨g,o+67,ν⟩ (.int .i64 q.who)).setCell ⟨g,o+68,ν⟩ (.bool q.both)).setCell ⟨g,o+69,ν⟩ (.int .i64 q.left)) g o B v {p with pe:=q}:=by
 obtain⟨F,hC,hF⟩:=h.xw;have Z:lh w (((w.setCell ⟨g,o+67,ν⟩ (.int .i64 q.who)).setCell ⟨g,o+68,ν⟩ (.bool q.both)).setCell ⟨g,o+69,ν⟩ (.int .i64 q.left)) g o 71:=(((lh.refl w g o 71).set (o+67) dZ dZ _).set (o+68) dZ dZ _).set (o+69) dZ dZ _;have hb:∀x,x<w.heap.size->x≠g->_:=Z.block;refine⟨⟨v,⟨⟨F,(((hC.set 67 ew _).set 68 ew _).set 69 ew _).congr (acy p B v F q),hF⟩,h.lk.keep (hb B h.lk.lt (λe=>h.gB e.symm)),h.ou.keep Z.size (λx hx=>hb x (h.ou.lt x hx) (λe=>h.vg (by rw[hx,e]))),h.few,h.ok,h.gB,h.vg,h.vB,h.nz⟩,λ_ e=>.inl e⟩,⟨Z.os,Z.tape,Z.output,Z.size,λi hi Y _ _=>Z.block i hi Y,Z.cell,Z.fz⟩⟩
theorem mA.own {z:Zt} (h:mA w z r)(Y:dY)(j8:List zb)(d:Int)(hs:w.heap.size<=w'.heap.size)(y:w'.os=w.os)(PD:w'.tape=w.tape)(ME:w'.output=w.output)(Z:∀k,k<w.heap.size->k≠z.R->z.iv.ownBlock≠μ k->w'.heap[k]? =w.heap[k]?)
 (ox:iX w' z.R #[ι κ r.id,σ (μ ⟨z.g,0,ν⟩) r.n z.cap,π (μ ⟨z.Bb,0,ν⟩),Y,ι κ d] 135) (G:Row w' 3 Y j8.length (rO j8)) (T:∀k,Y.ownBlock=μ k->z.iv.ownBlock=μ k \/w.heap.size<=k):iD w w' z {r with j8:=j8,drop:=d} r.n:=by
 have M:∀k,z.iv.ownBlock=μ k->z.mine r.n k:=λk Z=>.inr (.inr (.inr Z));have D:∀k,k<w.heap.size->¬z.mine r.n k->w'.heap[k]? =w.heap[k]? :=λk H S=>Z k H (λe=>S (.inl e)) (λe=>S (M k e));have A:=h.bs.still hs (λj U hn=>D j U (λe=>hn (h.no j e))) h.nb.1 h.nb.2.1 h.nb.2.2 (λk=>z.fm.no k \/(w.heap.size<=k/\k<w'.heap.size/\Y.ownBlock=μ k)) (λj U=>by
  rcases U with e|e
  ·exact .inl e
  ·exact .inr e.1) (λj U=>by
  rcases U with e|e
  ·exact Nat.lt_of_lt_of_le (h.bs.Rl j e) hs
  ·exact e.2.1)
 have J:∀b,(b=z.fm.bm \/b∈z.fm.bs)->b<w.heap.size:=h.bs.mlt;have acw:z.Bb<w.heap.size:=by obtain⟨_,_,hF,_⟩:=h.bs.ex;exact hF.lt
 have acx:z.fm.g<w.heap.size:=by obtain⟨_,_,hF,_⟩:=h.bs.ex;exact hF.row.lt _ rfl
 have hI':∀k,k<w.heap.size->Y.ownBlock=μ k->z.iv.ownBlock=μ k:=λk Z e=>by
  rcases T k e with X|X
  {exact X};{omega}
 refine⟨⟨{z with iv:=Y,fm:={z.fm with no:=λk=>z.fm.no k \/(w.heap.size<=k/\k<w'.heap.size/\Y.ownBlock=μ k)}},⟨h.n1,h.n3,h.NP,h.id,ox,λi hi=> ?_,G,A,h.bl,?_,?_,h.sR,h.sB,h.sV,?_,?_⟩,⟨rfl,rfl,rfl,rfl,rfl,rfl,rfl,rfl⟩,?_,λk Z=>.inl Z⟩,⟨y,PD,ME,hs,λk H S _ _=>D k H S⟩⟩;{have V:=h.pt i hi;obtain⟨F,hC,hF⟩:=V.xw;have E:=h.sR.2.2 i hi;refine⟨⟨F,hC.keep (Z _ V.lt (λe=>h.sR.1 e.symm) (λe=>(h.sI _ e).2.1 rfl)),hF⟩,V.lk.keep (Z _ V.lk.lt E.1 (λe=>((h.sI _ e).2.2 i hi).1 rfl)),V.ou.keep hs (λx hx=>Z x (V.ou.lt x hx) (λe=>E.2 (by rw[hx,e])) (λe=>((h.sI x e).2.2 i hi).2 hx)),V.few,V.ok,V.gB,V.vg,V.vB,V.nz⟩}
 ·intro k Z;rcases Z with e|e|e|e
  {exact .inl (h.no k (.inl e))};{exact .inl (h.no k (.inr (.inl e)))};{exact .inl (h.no k (.inr (.inr (.inl e))))}
  ·rcases T k e with X|X
   {exact .inl (h.no k (M k X))};{exact .inr ⟨X,G.lt k e,e⟩}
 ·refine⟨λe=> ?_,λe=> ?_,λb hb e=> ?_⟩
  ·rcases e with e|e
   {exact h.nb.1 e};{have h8:w.heap.size<=z.Bb:=e.1;omega}
  ·rcases e with e|e
   {exact h.nb.2.1 e};{have h8:w.heap.size<=z.fm.g:=e.1;omega}
  ·rcases e with e|e
   {exact h.nb.2.2 b hb e};{have h9:=J b hb;omega}
 ·intro k Z;rcases T k Z with X|X
  {exact h.sI k X};{refine⟨λe=> ?_,λe=> ?_,λi hi=>⟨λe=> ?_,λe=> ?_⟩⟩;{have e':k=z.R:=e;have:=h.od.lt;omega};{have e':k=z.g:=e;have:=(h.pt 0 h.n1).lt;omega};{have e':k=z.B i:=e;have:=(h.pt i hi).lk.lt;omega};{have:=(h.pt i hi).ou.lt k e;omega}}
 ·refine⟨λe=> ?_,h.Rs.2⟩;rcases T 0 e with X|X
  {exact h.Rs.1 X};{have:=h.od.lt;omega}
 ·intro k Z;rcases Z with e|e|e|e
  {exact .inl (.inl e)};{exact .inl (.inr (.inl e))};{exact .inl (.inr (.inr (.inl e)))};{exact(T k e).imp_left (M k)}
theorem mA.c0 {z:Zt} (h:mA w z r):w.cell? ⟨z.R,0,ν⟩=μ (ι κ r.id):=h.od.cell 0
theorem mA.c1 {z:Zt} (h:mA w z r):w.cell? ⟨z.R,1,ν⟩=μ (σ (μ ⟨z.g,0,ν⟩) r.n z.cap):=h.od.cell 1
theorem mA.c2 {z:Zt} (h:mA w z r):w.cell? ⟨z.R,2,ν⟩=μ (π (μ ⟨z.Bb,0,ν⟩)):=h.od.cell 2
theorem mA.c3 {z:Zt} (h:mA w z r):w.cell? ⟨z.R,3,ν⟩=μ z.iv:=h.od.cell 3
theorem mA.c4 {z:Zt} (h:mA w z r):w.cell? ⟨z.R,4,ν⟩=μ (ι κ r.drop):=h.od.cell 4
theorem mA.lt {w:dX} {z:Zt} {r:iN} (h:mA w z r):z.R<w.heap.size:=h.od.lt
theorem mA.Ka {z:Zt} (h:mA w z r):z.g<w.heap.size:=(h.pt 0 h.n1).lt
def hasB(i:Int)(n:Nat):Bool:=decide (0<=i)&&decide (i<(n:Int))
theorem zI(h:i<n):hasB (i:Int) n=true:=by simp[hasB];omega
theorem NR(i:Int)(n:Nat):hasB i n=false \/ ∃k:Nat,k<n/\i=(k:Int):=by
 by_cases Z:0<=i;{by_cases Y:i<(n:Int);{exact .inr ⟨i.toNat,dZ,dZ⟩};{exact .inl (by simp[hasB,Y])}};{exact .inl (by simp[hasB,Z])}
theorem Ex(z:Zt)(r:iN)(i:Int)(w:dX)(h:mA w z r):
 eX eY 72 #[π (μ ⟨z.R,0,ν⟩),ι κ i] w λe w'=>e=ρ (.bool (hasB i r.n))/\w=w':=by
 have hl:=h.lt;have c1:=h.c1;unfold hasB;by_cases Z:0<=i
 ·by_cases Y:i<(r.n:Int)
  ·have hv:(decide (0<=i)&&decide (i<(r.n:Int)))=true:=by simp[Z,Y]
   rw[hv];clear hv h
   go_in
   go_wp2
   go_ret;exact⟨by first|rfl|(simp;omega),rfl⟩
  ·have hv:(decide (0<=i)&&decide (i<(r.n:Int)))=false:=by simp[Y]
   rw[hv];clear hv h
   go_in
   go_wp2
   go_ret;exact⟨by first|rfl|(simp;omega),rfl⟩
 ·have hv:(decide (0<=i)&&decide (i<(r.n:Int)))=false:=by simp[Z]
  rw[hv];clear hv h
  go_in
  go_wp2
  go_ret;exact⟨by first|rfl|(simp;omega),rfl⟩
structure oj(id:Int)(q:lD):Prop where
 who:0<=q.who/\q.who<=6
 me:q.who≠id
 both:q.both=true->1<=q.who
 left:0<=q.left/\q.left<=4
def XF(K:Int->Option PS):Prop:=∀x,(K x).isSome=true->1<=x/\x<=6
theorem XF.tM(h:XF K) {k:Int} (hk:1<=k/\k<=6)(q:PS):XF (wq K k q):=λx hx=>by
 unfold wq at hx;split at hx;{omega};{exact h x hx}
structure ln(r:iN):Prop where
 id:1<=r.id/\r.id<=6
 m:∀i,i<r.n->1<=(r.P i).m/\(r.P i).m<=20
 pe:∀i,i<r.n->oj r.id (r.P i).pe
 own:∃q,r.K r.id=μ q/\oA r.id q.1 q.2=0
 PE:XF r.K
theorem oj.nobody {id:Int} (h:1<=id):oj id Rt.nobody:=⟨⟨ew,ew⟩,λe=>(by have e2:(0:Int)=id:=e;omega),λe=>absurd e ew,⟨ew,ew⟩⟩
theorem oj.tick {q:lD} (hi:1<=id)(h:oj id q):oj id (iJ q):=by
 unfold iJ;split;{exact oj.nobody hi};{exact⟨h.who,h.me,h.both,by have:=h.left;simp;omega⟩}
theorem oj.YL {f s:Int} (hi:1<=id)(hf:1<=f/\f<=6):oj id (jg id f s):=by
 unfold jg;split;{exact oj.nobody hi}
 ·rename_i h
  exact⟨by simp;omega,by simpa using h,λ_=>by simp;omega,gU⟩
def Cb(P:Nat->jv)(n:Int)(k:Nat):Prop:=(P k).pe.both=true/\(P k).pe.who=n/\(match jQ P n k with|none=>true|some b=>decide ((P k).m<(P b).m))=true
instance(P:Nat->jv)(n:Int)(k:Nat):Decidable (Cb P n k):=by unfold Cb;infer_instance
theorem xy {n:Int} (h:Cb P n k):jQ P n (k+1)=μ k:=by
 unfold jQ;exact ai h
theorem wv {n:Int} (h:¬Cb P n k):jQ P n (k+1)=jQ P n k:=by
 have:jQ P n (k+1)=if Cb P n k then μ k else jQ P n k:=by
  rw[jQ];by_cases hc:Cb P n k;{rw[ai hc];exact ai hc};{rw[af hc];exact af hc}
 rw[this,af h]
theorem oB {P:Nat->jv} {n:Int}:∀ {k b:Nat},jQ P n k=μ b->b<k/\(P b).pe.both=true/\(P b).pe.who=n
 |0,b,h=>by simp[jQ]at h
 |k+1,b,h=>by
  by_cases hc:Cb P n k;{rw[xy hc]at h;have:=Option.some.inj h;subst this;exact⟨dZ,hc.1,hc.2.1⟩};{rw[wv hc]at h;have:=oB h;exact⟨dZ,this.2⟩}
def oN(r:iN)(j n:Nat):List jJ:=(List.range' j n).filterMap λ(j:Nat)=>(jQ r.P ((j:Int)+1) r.n).map λb=>((j:Int)+1,(r.P b).m)
theorem Cc(r:iN):jx r=oN r 0 6:=by unfold jx oN;rw[dh]
theorem r7 {r:iN} (h:ln r):∀(n j:Nat) (Z:Int),Z<=j->j+n<=6->qv r.id Z (oN r j n)=0/\(oN r j n).length<=n
 |0,j,Z,_,_=>by simp[oN,qv]
 |n+1,j,Z,h1,h2=>by
  have ih:=r7 h n (j+1) ((j:Int)+1) dZ dZ;have ih2:=r7 h n (j+1) Z dZ dZ;have e:oN r j (n+1)=(match jQ r.P ((j:Int)+1) r.n with|none=>oN r (j+1) n|some b=>((j:Int)+1,(r.P b).m)::oN r (j+1) n):=by
   unfold oN;rw[dE,bh];cases jQ r.P ((j:Int)+1) r.n<;>simp
  cases hb:jQ r.P ((j:Int)+1) r.n with
  |none=>
   rw[hb]at e;simp only at e;rw[e];exact⟨ih2.1,dZ⟩
  |some b=>
   rw[hb]at e;simp only at e;rw[e];obtain⟨Y,Jo,X⟩:=oB hb;have hm:=h.m b Y;have U:=h.pe b Y;have V:=U.me;rw[X]at V;refine⟨?_,by simp;omega⟩;unfold qv;rw[af (by simp only;omega)];simp only
   first
    |exact ih.1
    |(rw[af dZ];exact ih.1)
    |(rw[af dZ,af dZ];exact ih.1)
theorem zJ(h:ln r) {seq:Int} (hs:1<=seq/\seq<=1000000):oA r.id seq (jx r)=0:=by
 have Z:=r7 h 6 0 0 dZ dZ;rw[<-Cc]at Z;have pU:=h.id;unfold oA;rw[af dZ,af dZ];exact Z.1
theorem ln.iU {r:iN} (h:ln r)(i:Nat)(p:jv)(Y:p.m=(r.P i).m)(X:i<r.n->oj r.id p.pe):ln (r.iU i p):=by
 refine⟨h.id,λj Z=> ?_,λj Z=> ?_,h.own,h.PE⟩;{show 1<=(k9 r.P i p j).m/\(k9 r.P i p j).m<=20;by_cases e:j=i;{subst e;simp only[k9,if_true];rw[Y];exact h.m j Z};{simp only[k9,if_neg e];exact h.m j Z}};{show oj r.id (k9 r.P i p j).pe;by_cases e:j=i;{subst e;simp only[k9,if_true];exact X Z};{simp only[k9,if_neg e];exact h.pe j Z}}
theorem ln.behind {r:iN} (h:ln r) {seq:Int} (hs:0<=seq):ln (r.behind seq):=by
 unfold iN.behind;split;{refine⟨h.id,h.m,h.pe,⟨(seq+1,jx r),by simp[iN.Et,wq],zJ h dZ⟩,h.PE.tM h.id _⟩};{exact h}
theorem ln.seq(h:ln r):1<=A5 r.K r.id/\A5 r.K r.id<=1000000:=by
 obtain⟨q,Z,hs⟩:=h.own;have:=(ju hs).2.1;unfold A5;rw[Z];exact this
theorem ln.change {r:iN} (h:ln r):ln r.change:=by
 unfold iN.change;split;{exact h};{exact h.behind (by have:=h.seq;omega)}
theorem ln.yH(h:ln r)(Z:Nat->Int->Option PS):ln {r with O:=Z}:=⟨h.id,h.m,h.pe,h.own,h.PE⟩
theorem ln.meet {r:iN} (h:ln r)(i:Nat) {q:lD} (Y:oj r.id q):ln (r.meet i q):=by
 have Z:ln (r.iU i {r.P i with pe:=q}):=h.iU i _ rfl (λ_=>Y);unfold iN.meet;simp only;split;{exact Z};{split;{exact(Z.yH _).change.yH _};{exact(Z.yH _).change}}
def rowOf(m:Nat)(F:Nat->dY):Array dY:=(Array.range m).map F
theorem mH(m:Nat)(F:Nat->dY):(rowOf m F).size=m:=by simp[rowOf]
theorem sL(m:Nat)(F:Nat->dY)(j:Nat)(h:j<m):(rowOf m F)[j]? =μ (F j):=by simp[rowOf,h]
section
variable {P:Program}
theorem qg.loadAt {w:dX} {g o m:Nat} {F:Nat->dY} (h:qg w g o m F)(t:TypeId)(d:TypeDesc)(T:P.underlying t=some d)(hd:(match d with| .struct _| .array _ _=>true|_=>false)=true)(hi:(P.info? t).map (·.size)=some m):
 (fO t (π (μ ⟨g,o,ν⟩))).run P w=.ok (.agg (rowOf m F)) w:=by
 have hl:(loadCells ⟨g,o,ν⟩ (rowOf m F).toList.length).run P w=.ok (rowOf m F).toList.toArray w:=
  run_loadCells_list (P:=P) w ⟨g,o,ν⟩ (rowOf m F).toList (λj v hv=>by
   have V:(⟨g,o,ν⟩:dW).add j=⟨g,o+j,ν⟩:=by unfold Addr.add;split<;>simp_all
   have X:j<m:=by
    have:=(aK.1 hv).1;simpa[rowOf]using this
   have U:(rowOf m F).toList[j]? =μ (F j):=by simpa using sL m F j X
   rw[V,h.cell j X];exact U.symm.trans hv)
 cases Y:P.info? t with
 |none=>simp[Y]at hi
 |some i=>
  have hs:i.size=m:=by simpa[Y]using hi
  have Z:(isAgg t).run P w=.ok true w:=by
   unfold isAgg;rw[fQ,run_underlying T w];cases d<;>simp_all
  simp only[Array.length_toList,Array.toArray_toList,mH]at hl;simp[fO,Instr.sureAddr,loadVar,fQ,Z,sizeOf,typeInfo,Y,hs,hl]
theorem CZ(w:dX) {rest:List Oper} {o:Oper} {a:Act} (Z:o.guard=ν)(x:Operand)(t:TypeId)(X:o.op=.load t x)
 (g off m:Nat) (F:Nat->dY) (d:TypeDesc) (hx:a.eval x=.pointer (some ⟨g,off,none⟩)) (hb:qg w g off m F) (U:P.underlying t=some d) (hd:(match d with| .struct _| .array _ _=>true|_=>false)=true) (hi:(P.info? t).map (·.size)=some m)
 (h:wpList P ops Q rest (a.put o.dst (.agg (rowOf m F))) w):wpList P ops Q (o::rest) a w:=by
 refine wpList_plain Z λK Y=> ?_;have V:=qg.loadAt hb t d U hd hi;unfold Oper.wp execOp;simp only[X,fQ,Sem.run_pure,Result.andThen_ok,hx,V];exact Y _ _ h
theorem oe(w:dX) {rest:List Oper} {o:Oper} {a:Act} (Z:o.guard=ν)(x y:Operand)(t:TypeId)(X:o.op=.store t x y)(hd:o.dst=ν)
 (B:Nat) (C D:Array dY) (hx:a.eval x=π (μ ⟨B,0,ν⟩)) (hy:a.eval y=.agg D) (hb:iX w B C t) (hs:C.size=D.size) (hi:(P.info? t).map (·.size)=μ D.size) (Y:D.all (·.oneCell')=true)
 (h:wpList P ops Q rest a (w.setRow B D)):wpList P ops Q (o::rest) a w:=by
 refine mC w Z x y t X B C D hx hy hb hs hi Y ?_;rw[hd];exact h
end
def zPt:Nat->dY:=λj=>if j=0 then ι κ 0 else if j=1 then π ν else if j<67 then NC (j-2)else if j=67 then ι κ 0 else if j=68 then .bool false else if j=69 then ι κ 0 else σ ν 0 0
theorem Vl:(eY.info? 142).map (λi=>(i.zero,i.size))=μ (μ (.agg (rowOf 71 zPt)),71):=gS
theorem NS(w:dX):(zeroValue 142).run eY w=.ok (.agg (rowOf 71 zPt)) w:=(bT Vl).1 w
theorem NT:(eY.info? 142).map (·.size)=μ 71:=(bT Vl).2
theorem Dp.one {l:List UInt8} {e d:Bool} (h:Dp F l e d)(j:Nat)(hj:j<65):(F j).oneCell'=true:=by
 by_cases Z:j<62;{obtain⟨x,hx⟩:=h.live j Z;rw[hx];rfl}
 ·have:j=62 \/j=63 \/j=64:=dZ;rcases this with rfl|rfl|rfl
  {rw[h.many];rfl};{rw[h.esc];rfl};{rw[h.bad];rfl}
theorem Jp(h:Dp F p.rd.1 p.rd.2.1 p.rd.2.2)(hv:v.oneCell'=true):(rowOf 71 (xu p B v F)).all (·.oneCell')=true:=by
 rw[Array.all_eq_true];intro j S;rw[mH]at S;have e:(rowOf 71 (xu p B v F))[j] =xu p B v F j:=by simp[rowOf]
 rw[e];unfold xu;by_cases Z:j=0;{simp[Z];rfl};by_cases Y:j=1;{simp[Y];rfl};by_cases X:j<67;{simp only[Z,Y,X,if_false,if_true];exact Dp.one h (j-2) dZ};by_cases V:j=67;{simp[V];rfl};by_cases U:j=68;{simp[U];rfl};by_cases T:j=69;{simp[T];rfl};{simp only[Z,Y,X,V,U,T,if_false];exact hv}
theorem Row.one {xs:List dY} (h:Row w k v n xs):v.oneCell'=true:=by
 rcases h.2 with⟨e,_⟩|⟨g,c,e,_⟩
 {rw[e];rfl};{rw[e];rfl}
def Hw:Option Nat->Int
 |none=>0
 |some b=>(b:Int)
theorem Ll(P:Nat->jv)(n:Int)(k b:Nat)(h:jQ P n k=μ b):b<k:=(oB h).1
theorem Ez(z:Zt)(r:iN)(x:Int)(w:dX)(h:mA w z r):
 eX eY 200 #[π (μ ⟨z.R,0,ν⟩),ι κ x] w λe w'=>e=ρ (τ #[ι κ (Hw (jQ r.P x r.n)),.bool (jQ r.P x r.n).isSome])/\eB w w':=by
 have hl:=h.lt;have c1:=h.c1;have hz:=NS;have rS:=NT;have x5:=h.n3;have Di:=h.NP;obtain⟨n,hn⟩:=gg (r.n);have HR:Hid _:=h;have Y:Hid _:=hn;rw[hn]at c1 x5 Di;rw[hn];obtain⟨Zp,Tz⟩:=gg (rowOf 71 zPt);have Rv:Zp.size=71:=by rw[<-Tz];exact mH _ _
 rw[Tz]at hz;clear h hn Tz
 go_in
 go_wp2
 go_loopw [6,7,15] (λb f i wr=>∃k:Nat,k<=n/\i=ι κ k/\b=ι κ (Hw (jQ r.P x k))/\f=.bool (jQ r.P x k).isSome/\eB w wr) (λ_ _ i _=>n-(eZ i).toNat)
 case atStart=>exact⟨0,Nat.zero_le _,rfl,rfl,rfl,au _ _⟩
 case round=>
  obtain⟨k,hk,rfl,rfl,rfl,iL⟩:=hrel;by_cases kA:k<n
  ·have nL:(k:Int)<(n:Int):=dZ;have Gi:(0:Int)<=(k:Int):=dZ;have R:=HR.out.below iL;have AL:k<r.n:=by rw[Y.out];exact kA
   have hp:=R.pt k AL;obtain⟨F,hC,hF⟩:=hp.xw;have o9:=Jp (B:=z.B k) (v:=z.v k) hF (Row.one hp.ou);have gl:=R.Ka;have d1:=R.c1;have dl:=R.lt;rw[Y.out]at d1;have HM:Hid (∀b,jQ r.P x k=μ b->wr.cell? ⟨z.g,b*71,ν⟩=μ (ι κ (r.P b).m)):=λb hb=>(R.pt b (by have:=Ll _ _ _ _ hb;omega)).c0;obtain⟨D,U⟩:=gg (rowOf 71 (xu (r.P k) (z.B k) (z.v k) F));have Kc:D.size=71:=by rw[<-U];exact mH _ _
   have a0:D[0]? =μ (ι κ (r.P k).m):=by rw[<-U];exact sL 71 _ 0 ew
   have J:D[67]? =μ (ι κ (r.P k).pe.who):=by rw[<-U];exact sL 71 _ 67 ew
   have H:D[68]? =μ (.bool (r.P k).pe.both):=by rw[<-U];exact sL 71 _ 68 ew
   rw[U]at o9;have ba:=gT wr (γ D 142);have hB:iX (wr.alloc (γ D 142)) wr.heap.size D 142:=iX.new _ _ _;have T:Hid (eB w (wr.alloc (γ D 142))):=gh iL ba;have d1':=(aj (a:=⟨z.R,1,ν⟩) (ba.block z.R dl)).trans d1;have dl':z.R<(wr.alloc (γ D 142)).heap.size:=Nat.lt_of_lt_of_le dl ba.size;have Hg:Hid (∀b,jQ r.P x k=μ b->(wr.alloc (γ D 142)).cell? ⟨z.g,b*71,ν⟩=μ (ι κ (r.P b).m)):=λb hb=>(aj (a:=⟨z.g,b*71,ν⟩) (ba.block z.g gl)).trans (HM.out b hb);have gl':z.g<(wr.alloc (γ D 142)).heap.size:=Nat.lt_of_lt_of_le gl ba.size;have jk:=dO wr Zp D 142;go_wp2_with(first
    |(refine CZ _ rfl (.tmp 18) 142 rfl z.g (k*71) 71 (xu (r.P k) (z.B k) (z.v k) F) _ rfl hC underlying142 rfl rS ?_;rw[U])
    |(refine oe _ rfl (.tmp 9) (.tmp 19) 142 rfl rfl wr.heap.size Zp D rfl rfl (iX.new _ _ _) (by rw[Rv,Kc]) (by rw[Kc];exact rS) o9 ?_;rw[jk]))
   have y0:=(hB.cell 0).trans a0;have E:=(hB.cell 67).trans J;have X:=(hB.cell 68).trans H;have yl:wr.heap.size<(wr.alloc (γ D 142)).heap.size:=ag _ _ y0;obtain⟨W,hW⟩:=gg (wr.alloc (γ D 142));obtain⟨Z,hZ⟩:=gg (wr.heap.size);rw[hW]at T Hg d1' dl' gl' y0 E X yl;rw[hZ]at y0 E X yl;rw[hW,hZ];clear hW hZ jk hB ba HM o9 hC hF hp R U a0 J H Kc d1 dl gl;cases hb:(r.P k).pe.both with
   |false=>
    have Y:Hid _:=wv (P:=r.P) (n:=x) (k:=k) (λhc=>by have:=hc.1;rw[hb]at this;cases this);rw[hb]at X
    go_wp2
    go_quiet(fail)
    go_wp2
    go_roundw
    case rel=>exact⟨k+1,dZ,by go_num,by rw[Y.out],by rw[Y.out],below_drewN T.out _⟩
    case measure=>simp[eZ];omega
   |true=>
    rw[hb]at X;cases hw:((r.P k).pe.who==x)with
    |false=>
     have Y:Hid _:=wv (P:=r.P) (n:=x) (k:=k) (λhc=>by have:=hc.2.1;simp[this]at hw)
     go_wp2
     go_quiet(fail)
     go_wp2
     go_roundw
     case rel=>exact⟨k+1,dZ,by go_num,by rw[Y.out],by rw[Y.out],below_drewN T.out _⟩
     case measure=>simp[eZ];omega
    |true=>
     have G:(r.P k).pe.who=x:=by simpa using hw
     cases V:jQ r.P x k with
     |none=>
      have M:Hid _:=xy (P:=r.P) (n:=x) (k:=k) ⟨hb,G,by rw[V]⟩;have A:Hw ν=0:=rfl;have y:(ν:Option Nat).isSome=false:=rfl;rw[A,y]
      go_wp2
      go_quiet(fail)
      go_wp2
      go_roundw
      case rel=>exact⟨k+1,dZ,by go_num,by rw[M.out];rfl,by rw[M.out];rfl,below_drewN T.out _⟩
      case measure=>simp[eZ];omega
     |some b=>
      have hbk:=Ll _ _ _ _ V;have hM:=Hg.out b V;have kE:(b:Int)<(n:Int):=dZ;have xh:(0:Int)<=(b:Int):=dZ;have A:Hw (μ b)=(b:Int):=rfl;have y:(μ b:Option Nat).isSome=true:=rfl;by_cases S:(r.P k).m<(r.P b).m
      ·have M:Hid _:=xy (P:=r.P) (n:=x) (k:=k) ⟨hb,G,by rw[V];simp[S]⟩;have hmd:decide ((r.P k).m<(r.P b).m)=true:=by simp[S]
       rw[A,y];clear S V
       go_wp2
       go_quiet(fail)
       go_wp2
       go_roundw
       case rel=>exact⟨k+1,dZ,by go_num,by rw[M.out];rfl,by rw[M.out];rfl,below_drewN T.out _⟩
       case measure=>simp[eZ];omega
      ·have Y:Hid (jQ r.P x (k+1)=μ b):=(wv (P:=r.P) (n:=x) (k:=k) (λhc=>by have:=hc.2.2;rw[V]at this;simp[S]at this)).trans V;have hmd:decide ((r.P k).m<(r.P b).m)=false:=by simp[S]
       rw[A,y];clear S V
       go_wp2
       go_quiet(fail)
       go_wp2
       go_roundw
       case rel=>exact⟨k+1,dZ,by go_num,by rw[Y.out];rfl,by rw[Y.out];rfl,below_drewN T.out _⟩
       case measure=>simp[eZ];omega
  ·have AL:k=n:=dZ;subst AL
   go_wp2
   go_ret2
   exact⟨rfl,iL⟩
def Gu(r:iN)(k:Nat):List jJ:=(List.range k).filterMap λ(j:Nat)=>(jQ r.P ((j:Int)+1) r.n).map λb=>((j:Int)+1,(r.P b).m)
theorem Rw(h:jQ r.P ((k:Int)+1) r.n=ν):Gu r (k+1)=Gu r k:=by
 unfold Gu;rw[bV,bG];simp[h]
theorem Rx {b:Nat} (h:jQ r.P ((k:Int)+1) r.n=μ b):Gu r (k+1)=Gu r k++ [((k:Int)+1,(r.P b).m)] :=by
 unfold Gu;rw[bV,bG];simp[h]
theorem EA(z:Zt)(r:iN)(w:dX)(h:mA w z r):
 eX eY 179 #[π (μ ⟨z.R,0,ν⟩)] w λe w'=>∃v,e=ρ v/\Made w w' v (jx r):=by
 obtain⟨i0,hi,og,mZ,mc⟩:=aW zj;have HR:Hid _:=h;clear h
 go_in
 go_wp2
 go_loopw [3,7] (λout i wr=>∃(k:Nat) (ao:Option dW) (m cp:Nat),k<=6/\out=σ ao m cp/\i=ι κ k/\m<=k/\Row wr 2 (σ ao m cp) m (iR (Gu r k))/\(∀j,eh (σ ao m cp)=μ j->w.heap.size<=j)/\eB w wr) (λ_ i _=>6-(eZ i).toNat)
 case atStart=>exact⟨0,ν,0,0,Nat.zero_le _,rfl,rfl,Nat.le_refl _,by simpa[Gu,iR]using Row.nil w 2,λj E=>mY E,au _ _⟩
 case round=>
  obtain⟨k,ao,m,cp,hk,rfl,rfl,hmk,V,T,X⟩:=hrel;by_cases kA:k<6
  ·have nL:(k:Int)<6:=dZ;have Gi:(0:Int)<=(k:Int):=dZ;have R:=HR.out.below X;have Z:=Ez z r ((k:Int)+1) wr R;cases hb:jQ r.P ((k:Int)+1) r.n with
   |none=>
    have Z:eX eY 200 #[π (μ ⟨z.R,0,ν⟩),ι κ ((k:Int)+1)] wr λe w'=>e=ρ (τ #[ι κ 0,.bool false])/\eB wr w':=by
     rw[hb]at Z;exact Z
    have H:Hid _:=Rw hb;have Y:Hid _:=V;have M:Hid _:=X;clear R hb V X;go_wp2_with(fail);refine Z.mono ?_;rintro e w1 ⟨rfl,b1⟩;clear Z
    go_wp2
    go_roundw
    case rel=>exact⟨k+1,_,m,cp,dZ,rfl,by go_num,dZ,by rw[H.out];exact Row.below Y.out b1,T,gh M.out b1⟩
    case measure=>simp[eZ];omega
   |some b=>
    have Z:eX eY 200 #[π (μ ⟨z.R,0,ν⟩),ι κ ((k:Int)+1)] wr λe w'=>e=ρ (τ #[ι κ (b:Int),.bool true])/\eB wr w':=by
     rw[hb]at Z;exact Z
    have H:Hid _:=Rx hb;have G:=(oB hb).1;have J:Hid _:=R;have Y:Hid _:=V;have M:Hid _:=X;clear R hb V X;go_wp2_with(fail);refine Z.mono ?_;rintro e w1 ⟨rfl,b1⟩;have U:=J.out.below b1;have d1:=U.c1;have dl:=U.lt;have gl:=U.Ka;have g0:=(U.pt b G).c0;have kE:(b:Int)<(r.n:Int):=dZ;have xh:(0:Int)<=(b:Int):=dZ;have vY:=Row.below Y.out b1;have S:=gh M.out b1;clear Z U;go_wp2_with(at_builtin;go_must(refine iG _ rfl (.tmp 18) (.tmp 30) 38 rfl 123 i0 (.agg #[ι κ 0,ι κ 0]) 2 16 underlying38 hi og mZ mc rfl ew (σ ao m cp) m (iR (Gu r k)) rfl (vY.alloc _) _ 1 1 [ι κ ((k:Int)+1),ι κ (r.P b).m] rfl rfl ew (nh _ _ _ _ _ gU) (lL _ _ _ _) (by unfold maxLen;omega) dZ ?_));intro g' jn w2 y kD A;have mS:=lW (S.alloc S.size _) kD T;have mO:=nU (B:=w.heap.size) A (by have:=S.size;omega) T;rw[show [ι .i64 ((k:Int)+1),ι .i64 (r.P b).m] =[ι .i64 (((k:Int)+1,(r.P b).m):jJ).1,ι .i64 (((k:Int)+1,(r.P b).m):jJ).2]from rfl,<-mb,<-H.out]at y;clear kD A
    go_wp2
    go_roundw
    case rel=>exact⟨k+1,_,m+1,jn,dZ,rfl,by go_num,dZ,y,λj E=>kF mO E,mS⟩
    case measure=>simp[eZ];omega
  ·have D:k=6:=dZ;subst D;have CL:m=(jx r).length:=by have:=V.1;rw[ld]at this;show m=(Gu r 6).length;omega
   go_wp2
   go_ret;exact⟨_,rfl,⟨by rw[<-CL];exact V,T,X⟩⟩
theorem AZ(a b:Option dW)(ca G n m:Nat)(os qs:List jJ)(w:dX)(M:jc w a n os)(hb:jc w b m qs)(hn:n<=1000000)(hm:m<=1000000):
 eX eY 178 #[σ a n ca,σ b m G] w λe w'=>e=ρ (.bool (decide (os=qs)))/\∃k,w'=w.drewN k:=by
 have hl:=M.1;have IW:=hb.1;by_cases H:n=m
 ·subst H;have heq:((n:Int) !=(n:Int))=false:=gU
  go_in
  go_wp2
  go_loopw [13] (λi wr=>∃k m:Nat,k<=n/\i=ι κ k/\os.take k=qs.take k/\wr=w.drewN m) (λi _=>n-(eZ i).toNat)
  case atStart=>exact⟨0,0,Nat.zero_le _,rfl,rfl,rfl⟩
  case round=>
   obtain⟨k,m,hk,rfl,S,rfl⟩:=hrel;have T:Hid _:=S;clear S;by_cases kA:k<n
   ·rcases M.2 with hA|⟨b1,o1,rfl,hA⟩
    ·omega
    rcases hb.2 with X|⟨b2,o2,rfl,X⟩
    ·omega
    obtain⟨c1,c2⟩:=hA k dZ;obtain⟨c3,c4⟩:=X k dZ;have V:Hid (os.take (k+1)=os.take k++ [os[k]'(by omega)]):=aA dZ;have U:Hid (qs.take (k+1)=qs.take k++ [qs[k]'(by omega)]):=aA dZ;have Y:Hid (os=qs->os[k]'(by omega)=qs[k]'(by omega)):=λh=>by subst h;rfl
    clear hA X;generalize os[k]'(by omega)=o at c1 c2 V Y;generalize qs[k]'(by omega)=q at c3 c4 U Y;have nL:(k:Int)<(n:Int):=dZ;cases q1:(o.1==q.1)
    ·have Z:Hid (decide (os=qs)=false):=by
      show _=_;rw[bK];intro h;have:=Y.out h;rw[this]at q1;simp at q1
     go_wp2
     go_quiet(fail)
     go_wp2_with(fail);rw[Z.out];go_ret;exact⟨rfl,_,drewN_drewN _ _ _⟩
    ·cases q2:(o.2==q.2)
     ·have Z:Hid (decide (os=qs)=false):=by
       show _=_;rw[bK];intro h;have:=Y.out h;rw[this]at q2;simp at q2
      go_wp2
      go_quiet(fail)
      go_wp2_with(fail);rw[Z.out];go_ret;exact⟨rfl,_,drewN_drewN _ _ _⟩
     ·have J:Hid (os.take (k+1)=qs.take (k+1)):=by
       show _=_;rw[V.out,U.out,T.out];simp at q1 q2;congr 2;exact aV q1 q2
      go_wp2
      go_quiet(fail)
      go_wp2
      go_roundw
      case rel=>exact⟨k+1,_,dZ,by go_num,J.out,rfl⟩
      case measure=>simp[eZ];omega
   ·have A:decide (os=qs)=true:=by
     have E:os.take k=os:=aI dZ;have D:qs.take k=qs:=aI dZ;have:=T.out;rw[E,D]at this;simp[this]
    go_wp2_with(fail);rw[A];go_ret;exact⟨rfl,m,rfl⟩
 ·have heq:((n:Int) !=(m:Int))=true:=by simp;omega
  have Z:decide (os=qs)=false:=by
   rw[bK];intro h;subst h;omega
  rw[Z]
  go_in
  go_wp2
  go_ret;exact⟨rfl,0,rfl⟩
theorem Ry(C:kQ)(o:Nat)(e:jJ)(es:List jJ):ni C o (e::es)=ni (tN C o e.1.toNat e.2) o es:=rfl
theorem PF(o:Nat)(own:Int)(x y:Nat):∀(es:List jJ) (Y:Int) (C:kQ),qv own Y es=0->ni C o es x y=if x=o then((es.find? λe=>e.1==(y:Int)).map (·.2)).getD (C x y)else C x y
 |[],_,C,_=>by
  show C x y=_;split<;>simp
 |e::es,Y,C,h=>by
  unfold qv at h;split at h;{simp at h}
  ·rename_i h1
   split at h;{simp at h}
   ·rw[Ry,PF o own x y es e.1 _ h];by_cases hx:x=o
    ·rw[ai hx,ai hx,List.find?_cons];by_cases hy:e.1=(y:Int)
     ·have Z:(e.1==(y:Int))=true:=by simp[hy]
      rw[Z];have X:es.find? (λe=>e.1==(y:Int))=ν:=by
       rw[List.find?_eq_none];intro f hf;have:=PG own es e.1 h f hf;simp;omega
      rw[X];simp only[Option.map_none,Option.getD_none,Option.map_some,Option.getD_some,tN];rw[ai ⟨hx,dZ⟩]
     ·have Z:(e.1==(y:Int))=false:=by simp[hy]
      rw[Z];have:tN C o e.1.toNat e.2 x y=C x y:=by
       simp only[tN];rw[af dZ]
      rw[this]
    ·rw[af hx,af hx];simp only[tN];rw[af dZ]
where
 PG (own:Int):∀(es:List jJ) (ah:Int),qv own ah es=0->∀f∈es,ah<f.1
  |[],_,_,f,hf=>by simp at hf
  |e::es,ah,h,f,hf=>by
   unfold qv at h;split at h;{simp at h}
   ·split at h;{simp at h}
    ·rcases aO.1 hf with rfl|hf
     {omega};{have:=PG own es e.1 h f hf;omega}
def gAt(es:List jJ)(y:Nat):Int:=((es.find? λe=>e.1==(y:Int)).map (·.2)).getD 0
theorem Lm {K:Int->Option PS} {n:Nat} {S:Nat->SV} {E:Nat->List jJ} (h:vr K n S E)(x y:Nat):∀k,k<=n->(∀j,j<k->(S j).own=(x:Int)->jV S E k x y=gAt (E j) y)/\((∀j,j<k->(S j).own≠(x:Int))->jV S E k x y=0)
 |0,_=>⟨λj Y=>dZ,λ_=>rfl⟩
 |k+1,hk=>by
  have ih:=Lm h x y k dZ;have M:=h.ok k dZ;obtain⟨ho,_,_,U⟩:=ju M;have V:jV S E (k+1) x y=if x=(S k).own.toNat then(((E k).find? λe=>e.1==(y:Int)).map (·.2)).getD (jV S E k x y)else jV S E k x y:=PF (S k).own.toNat (S k).own x y (E k) 0 (jV S E k) U
  rw[V];by_cases hx:x=(S k).own.toNat
  ·rw[ai hx];have T:jV S E k x y=0:=ih.2 (λj Y e=>by
    have:=h.Tw j k Y dZ;omega)
   rw[T];refine⟨λj Y hs=> ?_,λX=>absurd dZ (X k dZ)⟩;by_cases Z:j=k;{subst Z;rfl};{have:=h.Tw j k dZ dZ;omega}
  ·rw[af hx];refine⟨λj Y hs=> ?_,λX=>ih.2 (λj Y=>X j dZ)⟩;by_cases Z:j=k;{subst Z;omega};{exact ih.1 j dZ hs}
theorem vr.grid {S:Nat->SV} {E:Nat->List jJ} (h:vr K n S E)(U:XF K):jV S E n=xY K:=by
 funext x y
 have X:=Lm h x y n (Nat.le_refl _);unfold xY;cases Y:K (x:Int)with
 |none=>
  simp only;refine X.2 (λj Z e=> ?_);have:=(h.at_ j Z).2;rw[e,Y]at this;cases this
 |some q=>
  simp only;have hr:=U x (by rw[Y];rfl);obtain⟨j,Z,V⟩:=h.all x ⟨dZ,dZ⟩ (by rw[Y];rfl);rw[X.1 j Z V];have:=(h.at_ j Z).2;rw[V,Y]at this;have:=(dN (Option.some.inj this)).2;unfold gAt;rw[<-this]
end Rt
variable {ao:Option Addr} {cp j k lo:Nat} {o:Obj} {ok:List jJ} {u v:Value} {w w1 wr x1:World}
theorem uQ {b:Nat} (Y:∀k,v.ownBlock=μ k->lo+2<=k)(Z:(wr.alloc o).drew.grownBy x1 v.ownBlock)(hb:b<lo+2)(X:b<wr.heap.size):x1.heap[b]? =wr.heap[b]? :=by
 rw[Z.block b (by show b<(wr.alloc o).heap.size;simp;omega) (λe=>by have:=Y b e.symm;omega)];exact aU wr o b X
theorem RA(Y:∀k,v.ownBlock=μ k->lo+2<=k)(Z:(wr.alloc o).drew.grownBy x1 v.ownBlock)(hc:wr.cell? ⟨lo+1,j,ν⟩=μ u):x1.cell? ⟨lo+1,j,ν⟩=μ u:=by
 have X:lo+1<wr.heap.size:=ag wr _ hc;rw[aj (w:=wr) (a:=⟨lo+1,j,ν⟩) (uQ (b:=lo+1) Y Z dZ X)];exact hc
theorem Ln(Y:∀k,v.ownBlock=μ k->lo+2<=k)(Z:(wr.alloc o).drew.grownBy x1 v.ownBlock)(hc:wr.cell? ⟨lo+1,j,ν⟩=μ u)(hf:wr.frozen? ⟨lo+1,j,ν⟩=false):x1.frozen? ⟨lo+1,j,ν⟩=false:=by
 have X:lo+1<wr.heap.size:=ag wr _ hc;rw[aL (w:=wr) (a:=⟨lo+1,j,ν⟩) (uQ (b:=lo+1) Y Z dZ X)];exact hf
theorem EC(s:ByteArray)(k:Nat)(h:k<s.size):s.data.toList.drop k=s[k] ::s.data.toList.drop (k+1):=by
 rw[aR (by simpa using h)];rfl
theorem zL(Y:wr.heap[w.heap.size]? =μ (γ #[ι κ 0,ι κ 0,σ ν 0 0] 40 (0,0)))(hb:eB wr w1):
 w1.cell? ⟨w.heap.size,0,ν⟩=μ (ι κ 0)/\w1.cell? ⟨w.heap.size,1,ν⟩=μ (ι κ 0)/\w1.cell? ⟨w.heap.size,2,ν⟩=μ (σ ν 0 0)/\∀j,w1.frozen? ⟨w.heap.size,j,ν⟩=false:=by
 have X:w.heap.size<wr.heap.size:=(ax.1 Y).1;have Z:w1.heap[w.heap.size]? =μ (γ #[ι κ 0,ι κ 0,σ ν 0 0] 40 (0,0)):=by rw[hb.block _ X];exact Y
 exact⟨aw w1 _ 0 _ 40 (0,0) Z,aw w1 _ 1 _ 40 (0,0) Z,aw w1 _ 2 _ 40 (0,0) Z,λj=>bD w1 _ j _ 40 Z⟩
theorem Vm(x y k:Nat)(hx:x<2^k)(hs:2^k*y+x<2^62):bits .or .i64 (x:Int) ((2^k*y:Nat):Int)=((2^k*y+x:Nat):Int):=by
 have Z:(fa 64 (x:Int)|||BitVec.ofInt 64 ((2^k*y:Nat):Int)).toNat=2^k*y+x:=by
  rw[BitVec.toNat_or,gj,gj,gk,gk,Nat.mod_eq_of_lt dZ,Nat.mod_eq_of_lt dZ,Nat.or_comm];exact(Nat.two_pow_add_eq_or_of_lt hx y).symm
 show κ.wrap ((fa 64 (x:Int)|||BitVec.ofInt 64 ((2^k*y:Nat):Int)).toNat:Int)=_;rw[Z,dB];omega
theorem akP(x y:Nat)(hx:x<256)(hy:y<256):bits .or .i64 (x:Int) ((y:Int)*(256:Int))=(x:Int)+(256:Int)*(y:Int):=by
 have h:=Vm x y 8 dZ dZ;have e:((2^8*y:Nat):Int)=(y:Int)*256:=dZ;rw[e]at h;rw[h];omega
theorem akQ(x y:Nat)(hx:x<65536)(hy:y<256):bits .or .i64 (x:Int) ((y:Int)*(65536:Int))=(x:Int)+(65536:Int)*(y:Int):=by
 have h:=Vm x y 16 dZ dZ;have e:((2^16*y:Nat):Int)=(y:Int)*65536:=dZ;rw[e]at h;rw[h];omega
def A8(E:Nat->dY)(l:List UInt8)(w:dX)(e:Ending)(w':dX):Prop:=
 ∃(a:Option dW) (n cap f:Nat) (own seq:Int) (os:List jJ),e=ρ (τ #[.agg #[ι κ own,ι κ seq,σ a n cap],E f])/\jc w' a n os/\n<=cap/\ij l=(own,seq,os,f)/\eB w w'/\kJ a cap
theorem Ce(s:ByteArray)(Q:Int)(h4:4<=s.size)(heq:s.size%2=0)(Z:(s[1].toNat:Int)+(256:Int)*(s[2].toNat:Int)+(65536:Int)*(s[3].toNat:Int)=Q):
 ij s.data.toList=if oA (s[0].toNat:Int) Q (pairs (s.data.toList.drop 4))=0 then((s[0].toNat:Int),Q,pairs (s.data.toList.drop 4),0)else(0,0,[],4):=by
 have hl:s.data.toList.length=s.size:=gU;have Y:Kw s.data.toList=Q:=by
  unfold Kw;rw[nV s 1 dZ,nV s 2 dZ,nV s 3 dZ,Z]
 unfold ij;rw[Y,nV s 0 dZ,hl,af dZ]
theorem Hx {x y z:dY} (Y:Row w1 2 (σ ao k cp) k (iR ok))(X:∀j,eh (σ ao k cp)=μ j->w.heap.size+2<=j)(hb:eB w w1):
 jc (((w1.setCell ⟨w.heap.size,0,ν⟩ x).setCell ⟨w.heap.size,1,ν⟩ y).setCell ⟨w.heap.size,2,ν⟩ z) ao k ok/\eB w (((w1.setCell ⟨w.heap.size,0,ν⟩ x).setCell ⟨w.heap.size,1,ν⟩ y).setCell ⟨w.heap.size,2,ν⟩ z):=by
 refine⟨Row.opts (Y.keep gU (λj Z=> ?_)),((hb.setCell (Nat.le_refl _) _).setCell (Nat.le_refl _) _).setCell (Nat.le_refl _) _⟩;have:=X j Z;rw[ak _ _ _ _ (by show j≠w.heap.size;omega),ak _ _ _ _ (by show j≠w.heap.size;omega),ak _ _ _ _ (by show j≠w.heap.size;omega)]
theorem Gv(w:dX)(a b:Obj):((w.alloc a).alloc b).drew.heap[w.heap.size+1]? =μ b:=by
 have h:=aY (w.alloc a) b;have e:(w.alloc a).heap.size=w.heap.size+1:=gU;rw[e]at h;exact h
theorem ED(w:dX)(a b:Obj):((w.alloc a).alloc b).drew.heap[w.heap.size]? =μ a:=by
 show((w.alloc a).alloc b).heap[w.heap.size]? =μ a;rw[aU (w.alloc a) b w.heap.size gU];exact aY w a
theorem NU {ob:Obj} {g' jn:Nat} {c d:Int} {x y:Nat}
 (U:wr.heap[w.heap.size+1]? =μ (γ #[ι κ c,ι κ d,σ ao k cp] 40 (0,0)))
 (M:wr.heap[w.heap.size]? =μ (γ #[ι κ 0,ι κ 0,σ ν 0 0] 40 (0,0)))
 (_hrow:Row wr 2 (σ ao k cp) k (iR ok)) (Y:∀j,eh (σ ao k cp)=μ j->w.heap.size+2<=j) (S:eB w wr)
 (T:Row x1 2 (σ (μ ⟨g',0,ν⟩) (k+1) jn) (k+1) (iR ok++ [ι κ (κ.wrap (x:Int)),ι κ (κ.wrap (y:Int))]))
 (X:(wr.alloc ob).drew.grownBy x1 (eh (σ ao k cp))) (H:eh (σ ao k cp)=μ g' \/(wr.alloc ob).drew.heap.size<=g') (hx:x<2^8) (hy:y<2^8):
 Row (x1.setCell ⟨w.heap.size+1,2,ν⟩ (σ (μ ⟨g',0,ν⟩) (k+1) jn)) 2 (σ (μ ⟨g',0,ν⟩) (k+1) jn) (k+1) (iR (ok++ [((x:Int),(y:Int))]))/\
 (x1.setCell ⟨w.heap.size+1,2,ν⟩ (σ (μ ⟨g',0,ν⟩) (k+1) jn)).heap[w.heap.size+1]? =μ (γ #[ι κ c,ι κ d,σ (μ ⟨g',0,ν⟩) (k+1) jn] 40 (0,0))/\
 (x1.setCell ⟨w.heap.size+1,2,ν⟩ (σ (μ ⟨g',0,ν⟩) (k+1) jn)).heap[w.heap.size]? =μ (γ #[ι κ 0,ι κ 0,σ ν 0 0] 40 (0,0))/\
 (∀j,eh (σ (μ ⟨g',0,ν⟩) (k+1) jn)=μ j->w.heap.size+2<=j)/\eB w (x1.setCell ⟨w.heap.size+1,2,ν⟩ (σ (μ ⟨g',0,ν⟩) (k+1) jn)):=by
 have G:w.heap.size+1<wr.heap.size:=(ax.1 U).1;have k1:=uQ (b:=w.heap.size+1) Y X dZ G;have k0:=uQ (b:=w.heap.size) Y X dZ dZ;have hs0:(wr.alloc ob).drew.heap.size=wr.heap.size+1:=by show(wr.alloc ob).heap.size=_;simp
 have K0:w.heap.size+2<=g':=by
  rcases H with h|h
  {exact Y g' h};{omega}
 have V:x1.heap[w.heap.size+1]? =μ (γ #[ι κ c,ι κ d,σ ao k cp] 40 (0,0)):=by rw[k1];exact U
 refine⟨?_,?_,?_,?_,?_⟩
 ·have ex:κ.wrap (x:Int)=(x:Int):=aS _ ⟨dZ,dZ⟩;have J:κ.wrap (y:Int)=(y:Int):=aS _ ⟨dZ,dZ⟩;rw[ex,J,<-mb ok ((x:Int),(y:Int))]at T;refine T.keep gU (λj Z=> ?_);have:g'=j:=by simpa[eh]using Z
  exact ak _ _ _ _ (by show j≠w.heap.size+1;omega)
 {rw[bL x1 (w.heap.size+1) 2 _ 40 (0,0) _ V];exact cF x1 _ _ _ 40 (0,0) V};{rw[ak _ _ _ _ (by show w.heap.size≠w.heap.size+1;omega),k0];exact M}
 ·intro j Z;have:g'=j:=by simpa[eh]using Z
  omega
 ·have E:eB w (wr.alloc ob).drew:=(S.alloc S.size _).drew;refine bw ?_ (by show w.heap.size<=w.heap.size+1;omega) _;refine E.grown X dZ (λj Z=> ?_);have:=Y j Z;omega
theorem NV(s:ByteArray)(w:dX)(h4:4<=s.size)(hs:s.size<=16)(heq:s.size%2=0):
 eX eY 188 #[.string s] w λe w'=>A8 ji s.data.toList w e w':=by
 obtain⟨i0,hi,og,mZ,mc⟩:=aW zj;have hz:=pJ;have g1:¬(s.size:Int)<4:=dZ;have g2:¬(16:Int)<(s.size:Int):=dZ;have g3:(((s.size:Int)-4) %2 !=0)=false:=by rw[bne_eq_false_iff_eq];omega
 have HE:Hid _:=heq;clear heq;have b0:0<s.size:=dZ;have b1:1<s.size:=dZ;have b2:2<s.size:=dZ;have b3:3<s.size:=dZ;have xh:=s[0].toNat_lt;have Y:=s[1].toNat_lt;have mS:=s[2].toNat_lt;have sg:=s[3].toNat_lt;have z0:(0:Int)<(s.size:Int):=dZ;have z1:(1:Int)<(s.size:Int):=dZ;have z2:(2:Int)<(s.size:Int):=dZ;have z3:(3:Int)<(s.size:Int):=dZ;obtain⟨Q,hQ⟩:∃Q:Int,(s[1].toNat:Int)+(256:Int)*(s[2].toNat:Int)+(65536:Int)*(s[3].toNat:Int)=Q:=⟨_,rfl⟩
 have ho1:=akP s[1].toNat s[2].toNat dZ dZ;have YJ:bits .or .i64 ((s[1].toNat:Int)+(256:Int)*(s[2].toNat:Int)) ((s[3].toNat:Int)*(65536:Int))=Q:=by
  have:=akQ (s[1].toNat+256*s[2].toNat) s[3].toNat dZ dZ;push_cast at this;rw[this,hQ]
 have U:Hid _:=hQ
 go_in
 go_wp2
 go_region
 go_wp2_with(fail)
 try rw[U.out]
 try clear hQ
 try clear ho1
 try clear YJ
 obtain⟨Z,S⟩:∃Z:Int,(s[0].toNat:Int)=Z:=⟨_,rfl⟩
 have H:Hid _:=S;rw[S];clear S xh Y mS sg
 go_loopw [5] (λi wr=>∃(k cp:Nat) (ao:Option dW) (ok:List jJ),4+2*k<=s.size/\i=ι κ ((4+2*k:Nat):Int)/\ok.length=k/\pairs (s.data.toList.drop 4)=ok++pairs (s.data.toList.drop (4+2*k))/\Row wr 2 (σ ao k cp) k (iR ok)/\
  wr.heap[w.heap.size+1]? =μ (γ #[ι κ Z,ι κ Q,σ ao k cp] 40 (0,0))/\wr.heap[w.heap.size]? =μ (γ #[ι κ 0,ι κ 0,σ ν 0 0] 40 (0,0))/\
  (∀j,eh (σ ao k cp)=μ j->w.heap.size+2<=j)/\eB w wr)
  (λi _=>s.size-(eZ i).toNat)
 case atStart=>
  refine⟨0,0,ν,[],dZ,rfl,rfl,rfl,Row.nil _ _,?_,?_,λj hj=>by simp[eh]at hj,(((au _ _).alloc (Nat.le_refl _) _).alloc gU _).drew⟩;{exact Gv w _ _};{exact ED w _ _}
 case round=>
  obtain⟨k,cp,ao,ok,hk,rfl,iO,D,X,La,Ek,jk,iL⟩:=hrel;have hP:Hid _:=D;clear D;have cv:wr.cell? ⟨w.heap.size+1,2,ν⟩=μ (σ ao k cp):=aw wr _ 2 _ 40 (0,0) La;have fv:wr.frozen? ⟨w.heap.size+1,2,ν⟩=false:=bD wr _ 2 _ 40 La;have YC:w.heap.size+1<wr.heap.size:=ag wr _ cv;have V:Hid _:=La;have T:Hid _:=Ek;clear La Ek;by_cases kA:4+2*k<s.size
  ·have Gk:4+2*k+1<s.size:=by have:=HE.out;omega
   obtain⟨q,hq⟩:∃q,q=4+2*k:=⟨_,rfl⟩
   rw[<-hq]at kA Gk;have h:Hid _:=hq;have y0:(0:Int)<=(q:Int):=dZ;have y1:(q:Int)<(s.size:Int):=dZ;have y2:(q:Int)+1<(s.size:Int):=dZ;have y3:(0:Int)<=(q:Int)+1:=dZ;have yw:κ.wrap ((q:Int)+1)=(q:Int)+1:=aS _ ⟨dZ,dZ⟩;have hbq:=s[q].toNat_lt;have akA:=s[q+1].toNat_lt;have m1:k+1<=maxLen:=by unfold maxLen;omega
   have bb1:(k+1)*16<=140737488355328:=dZ;rw[<-hq];clear hq;have HP2:Hid (pairs (s.data.toList.drop 4)=(ok++ [((s[q].toNat:Int),(s[q+1].toNat:Int))])++pairs (s.data.toList.drop (4+2*(k+1)))):=by
    show pairs (s.data.toList.drop 4)=_;rw[hP.out,<-h.out,EC s q kA,EC s (q+1) Gk];have J:q+1+1=4+2*(k+1):=by have:=h.out;omega
    rw[J];simp[pairs]
   go_wp2
   go_region_law ((refine lV (by rfl) (.tmp 47) (.tmp 58) 38 (by rfl) 123 i0 (.agg #[ι κ 0,ι κ 0]) 2 16 underlying38 hi og mZ mc (by rfl) ew (σ ao k cp) k (iR ok) (by rfl) ((X.alloc _).drew) _ 1 1 [ι κ (κ.wrap (s[q].toNat:Int)),ι κ (κ.wrap (s[q+1].toNat:Int))] (by rfl) (by rfl) ew (Ev _ _ _ _) (lL _ _ _ _) m1 bb1 ?_;intro g' jn x1 k8 kD jE;have c1:=RA jk kD cv;have f1:=Ln jk kD cv fv))
   all_goals have hS:=NU (c:=Z) (d:=Q) V.out T.out X jk iL k8 kD jE s[q].toNat_lt s[q+1].toNat_lt
   all_goals clear k8 kD jE c1 f1
   all_goals go_wp2_with(fail)
   all_goals go_roundw
   all_goals first
    |exact⟨k+1,jn,some ⟨g',0,none⟩,_,by have:=h.out;omega,by have:=h.out;go_num,by simp[iO],HP2.out,hS⟩
    |(simp[eZ];omega)
  ·have A:4+2*k=s.size:=dZ;have U2:pairs (s.data.toList.drop 4)=ok:=by
    rw[hP.out,A,a8 (by show s.size<=s.size;omega)];simp[pairs]
   have CP:=X.opts;have Di:k<=cp/\kJ ao cp:=⟨X.TG,λe=>by
    rcases X.2 with⟨J,_⟩|⟨g,c,J,_⟩
    ·exact(bO J).2.2
    ·rw[e]at J;cases (bO J).1⟩
   have c0:wr.cell? ⟨w.heap.size+1,0,ν⟩=μ (ι κ Z):=aw wr _ 0 _ 40 (0,0) V.out;have c1:wr.cell? ⟨w.heap.size+1,1,ν⟩=μ (ι κ Q):=aw wr _ 1 _ 40 (0,0) V.out;have M:=yr Z Q ao k cp ok wr dZ CP;have HK:Hid _:=U2;clear hP U2 A;by_cases hf:oA Z Q ok=0
   ·have G:ji 0=η:=rfl;rw[hf,G]at M;clear G;have HF:Hid _:=hf;clear hf;go_wp2_with(fail);refine M.mono ?_;rintro e w1 ⟨rfl,Y⟩;have d0:=(Y.cell (p:=⟨w.heap.size+1,0,ν⟩) YC).trans c0;have d1:=(Y.cell (p:=⟨w.heap.size+1,1,ν⟩) YC).trans c1;have d2:=(Y.cell (p:=⟨w.heap.size+1,2,ν⟩) YC).trans cv;obtain⟨r0,r1,r2,r3⟩:=zL T.out Y;have vK:=gh iL Y;have E:=Hx (x:=ι κ Z) (y:=ι κ Q) (z:=σ ao k cp) (X.below Y) jk vK;have HV:Hid (ij s.data.toList=(Z,Q,ok,0)):=by
     show ij s.data.toList=_;rw[Ce s Q h4 HE.out U.out,H.out,HK.out,ai HF.out]
    clear M Y c0 c1 cv X;go_wp2_with(fail);refine aE (v:=τ #[.agg #[ι κ Z,ι κ Q,σ ao k cp],η]) (by simp[results,results188,go_sem,r0,r1,r2]) rfl ?_;exact⟨ao,k,cp,0,_,_,ok,rfl,E.1,Di.1,HV.out,E.2,Di.2⟩
   ·have G:ji (oA Z Q ok)=.iface 128 (ι κ (oA Z Q ok:Int)):=by simp[ji,hf]
    rw[G]at M;clear G;have HF:Hid _:=hf;clear hf;have HV:Hid (ij s.data.toList=(0,0,[],4)):=by
     show ij s.data.toList=_;rw[Ce s Q h4 HE.out U.out,H.out,HK.out,af HF.out]
    generalize oA Z Q ok=ff at M;go_wp2_with(fail);refine M.mono ?_;rintro e w1 ⟨rfl,Y⟩;obtain⟨r0,r1,r2,r3⟩:=zL T.out Y;have vK:=gh iL Y;have E:=Hx (ok:=[]) (ao:=ν) (k:=0) (cp:=0) (x:=ι κ 0) (y:=ι κ 0) (z:=σ ν 0 0) (Row.nil w1 2) (λj hj=>by simp[eh]at hj) vK;clear M Y c0 c1 cv X CP;go_wp2_with(fail);refine aE (v:=τ #[.agg #[ι κ 0,ι κ 0,σ ν 0 0],.iface 128 (ι κ 4)]) (by simp[results,results188,go_sem,r0,r1,r2]) rfl ?_;exact⟨ν,0,0,4,0,0,[],rfl,E.1,Nat.le_refl _,HV.out,E.2,λ_=>rfl⟩
theorem RB(s:ByteArray)(w:dX)(hs:s.size<=maxLen)(h:ij s.data.toList=(0,0,[],4))(hb:s.size<4 \/16<s.size \/s.size%2=1):
 eX eY 188 #[.string s] w λe w'=>A8 ji s.data.toList w e w':=by
 have hz:=pJ;have Z:Hid _:=h;clear h;unfold maxLen at hs;have V:=gT w (γ #[ι κ 0,ι κ 0,σ ν 0 0] 40);have X:jc (w.alloc (γ #[ι κ 0,ι κ 0,σ ν 0 0] 40)) ν 0 [] :=⟨rfl,.inl rfl⟩
 have g0:(0:Int)<=(s.size:Int):=dZ;rcases(show s.size<4 \/(4<=s.size/\16<s.size) \/(4<=s.size/\s.size<=16/\s.size%2=1) by omega)with Y|Y|Y
 ·have g1:(s.size:Int)<4:=dZ
  go_in
  go_wp2_with(fail);refine aE (v:=τ #[.agg #[ι κ 0,ι κ 0,σ ν 0 0],.iface 128 (ι κ 4)]) (by simp[results,results188,go_sem]) rfl ?_;exact⟨ν,0,0,4,0,0,[],rfl,X,Nat.le_refl _,Z.out,V,λ_=>rfl⟩
 ·have g1:¬(s.size:Int)<4:=dZ;have U:(16:Int)<(s.size:Int):=dZ
  go_in
  go_wp2_with(fail);refine aE (v:=τ #[.agg #[ι κ 0,ι κ 0,σ ν 0 0],.iface 128 (ι κ 4)]) (by simp[results,results188,go_sem]) rfl ?_;exact⟨ν,0,0,4,0,0,[],rfl,X,Nat.le_refl _,Z.out,V,λ_=>rfl⟩
 ·have g1:¬(s.size:Int)<4:=dZ;have U:¬(16:Int)<(s.size:Int):=dZ;have g3:(((s.size:Int)-4) %2 !=0)=true:=by rw[bne_iff_ne];omega
  clear hb Y
  go_in
  go_wp2_with(fail);refine aE (v:=τ #[.agg #[ι κ 0,ι κ 0,σ ν 0 0],.iface 128 (ι κ 4)]) (by simp[results,results188,go_sem]) rfl ?_;exact⟨ν,0,0,4,0,0,[],rfl,X,Nat.le_refl _,Z.out,V,λ_=>rfl⟩
theorem EE(s:ByteArray)(w:dX)(hs:s.size<=maxLen):eX eY 188 #[.string s] w λe w'=>A8 ji s.data.toList w e w':=by
 have hl:s.data.toList.length=s.size:=gU;by_cases Z:s.size<4 \/16<s.size \/s.size%2=1;{refine RB s w hs ?_ Z;by_cases h16:16<s.size;{exact Kx _ dZ};{unfold ij;rw[hl,ai dZ]}};{exact NV s w dZ dZ dZ}
