import Derived.Test.YtieklnlbljejdaaGreatDoorT12
open Go.Value renaming int → ι, slice → σ, pointer → π, tuple → τ, nilIface → η
open Go.IntKind renaming i64 → κ
open Go.Ending renaming returned → ρ
open Go.Obj renaming cells → γ
open Option renaming none → ν, some → μ
open List renaming length_append → eD, nil_append → fJ, map_cons → eu, map_nil → ew, length_cons → eE
open Go renaming Value → dO, World → dN, Calls → eM
open Go.Proofs.Tryz renaming prog → eN
open Go.Value renaming ownBlock → dQ
open And renaming intro → fD
open BitVec renaming ofInt → eO, ofInt_natCast → fX, toNat_ofNat → fY
open Go.IntKind renaming i64 → fC
set_option maxRecDepth 100000
set_option maxHeartbeats 4000000
open Go.Proofs.Tryz
namespace Go.Proofs.YtieklnlbljejdaaGreatDoor
open Go.RowKit St
namespace Rt
variable {B g o:Nat} {out:List kr} {p:jb} {v:Value} {w w1:World}
theorem DJ(L:LS):(jB L).2.length<=12:=by
 unfold jB;have h1:=DG L;have h2:=xx (j5 L) 1;have h3:=xx (ko (j5 L) 1).1 0;split
 ·simp only[eD];omega
 ·simp only;omega
theorem Nt(g o B:Nat)(v:dO)(p:jb)(w:dN)(h:oZ w g o B v p)(Q:iQ w)(D:p.out.length<=800000000):
 eM eN 82 #[π (μ ⟨g,o,ν⟩)] w λe w'=>e=ρ (τ #[])/\kM w w' g o B v p.tick:=by
 have E:=zr.tick h Q;have c1:=h.c1;have hl:=h.lt;have hlen:=DJ p.L;clear h
 go_in
 go_wp2_with(fail);refine E.mono ?_;rintro e w1 ⟨rfl,X⟩;have A:=X.state;obtain⟨d1,dl⟩:=X.ptr;clear E c1 hl;go_wp2_with(fail);refine A.mono ?_;rintro e w2 ⟨rfl,rfl⟩;clear A;cases G:((j5 p.L).st==3)
 ·have V:(j5 p.L).st≠3:=by simpa using G
  have Z:jB p.L=(j5 p.L,lO p.L):=by unfold jB;rw[ae V]
  have Y:p.tick=({p with L:=j5 p.L}:jb).say (lO p.L):=by unfold jb.tick;rw[Z]
  rw[Z]at hlen;have hs:=X.say (by simp only at hlen;omega) D;rw[<-Y]at hs;have J:Hid _:=Y;clear Z Y V X;go_wp2_with(fail);refine hs.mono ?_;rintro e y ⟨rfl,M⟩;clear hs
  go_wp2
  first|go_end0|refine iq rfl rfl ?_
  exact⟨rfl,M⟩
 ·have V:(j5 p.L).st=3:=by simpa using G
  have l1:=DG p.L;have l2:=xx (j5 p.L) 1;have T:=X.do_ Q dP 1;have Z:jB p.L=((ko (ko (j5 p.L) 1).1 0).1,lO p.L++(ko (j5 p.L) 1).2.1++(ko (ko (j5 p.L) 1).1 0).2.1):=by unfold jB;rw[ag V]
  have Y:p.tick=({p with L:=(ko (ko (j5 p.L) 1).1 0).1}:jb).say (lO p.L++(ko (j5 p.L) 1).2.1++(ko (ko (j5 p.L) 1).1 0).2.1):=by unfold jb.tick;rw[Z]
  rw[Z]at hlen;have J:Hid _:=Y;clear Z Y V X;go_wp2_with(fail);refine T.mono ?_;rintro e y ⟨rfl,S⟩;have H:=S.do_ Q (by simp only[eD];omega) 0;obtain⟨f1,fl⟩:=S.ptr;clear T S;go_wp2_with(fail);refine H.mono ?_;rintro e w4 ⟨rfl,U⟩;have hs:=U.say (Nat.le_trans (show _<=12 from hlen) dS) D;clear H U;go_wp2_with(fail);refine hs.mono ?_;rintro e w5 ⟨rfl,M⟩;clear hs
  go_wp2
  first|go_end0|refine iq rfl rfl ?_
  refine⟨rfl,?_⟩;rw[J.out];exact M
theorem Xw(ev:Int)(T:ev=0 \/ev=1)(B:Nat)(X:Nat->Prop)(s:LS)(v:dO)(ps:List PV)(w:dN)(V:iQ w)(h:pK w B X s v ps)(hf:(ko s ev).2.2≠0):
 eM eN 120 #[π (μ ⟨B,0,ν⟩),ι κ ev] w λe w'=>e=ρ (.iface 128 (ι κ ((ko s ev).2.2:Int)))/\dV w w':=by
 have hz:=qH;have ed:ko s ev=qU s ev (0,0,[]):=by unfold ko;rw[ag dP]
 rw[ed]at hf⊢;have Z:(iN s.st ev).2.2≠0:=λe=>hf (by rw[rF _ e]);rw[tV _ Z];obtain⟨D,nx,f,Y⟩:∃D nx f,iN s.st ev=(D,nx,f):=⟨_,_,_,rfl⟩
 rw[Y]at Z⊢;have hc:=Lq B X s v ps ⟨0,0,ν,0,0,[]⟩ ev D nx f w V h Y Z;clear h V Y Z hf ed;rcases T with rfl|rfl
 all_goals
  go_in
  go_wp2_with(fail);refine hc.mono ?_;rintro e w1 ⟨rfl,U⟩;clear hc
  go_wp2
  go_ret;exact⟨rfl,U⟩
theorem QM(p:jb)(B:Nat)(v:dO)(F G:Nat->dO)(r:jY):∀j,j<71->(if 2<=j/\j<2+65 then G (j-2)else uU p B v F j)=uU {p with rd:=r} B v G j:=by
 intro j hj;by_cases e:2<=j/\j<2+65
 ·rw[ag e];unfold uU;rw[ae dP,ae dP,ag dP]
 ·rw[ae e];unfold uU;by_cases Z:j=0
  ·simp[Z]
  ·by_cases Y:j=1
   ·simp[Y]
   ·have X:¬j<67:=dP;simp[Z,Y,X]
theorem zr.read {w2:dN} (h:zr w w1 g o B v p out)(r:jY)(M:Rd w2 g (o+2) r.1 r.2.1 r.2.2)(Y:kB w1 w2 g (o+2) 65):zr w w2 g o B v {p with rd:=r} out:=by
 obtain⟨H,qs,Z,Q⟩:=h.ex;obtain⟨F,hC,hF⟩:=Z.uV;obtain⟨G,S,X⟩:=M;have V:Kept w1 w2 g ν:=⟨Y.os,Y.tape,Y.output,Y.size,λi hi J _=>Y.block i hi J⟩
 have hl:=hC.lt dS;refine⟨⟨H,qs,⟨⟨G,(hC.join Y S).congr (QM p B v F G r),X⟩,Z.rep.far V Z.xg (λe=>Z.gB e.symm),Z.ou.keep Y.size (λk U=>Y.block k (Z.ou.lt k U) (λe=>Z.vg (by rw[U,e]))),Z.few,Z.ok,Z.gB,Z.vg,Z.vB,Z.nz,Z.xg,Z.xv⟩,Q⟩,?_⟩;refine h.kept.trans (v':=v) ⟨Y.os,Y.tape,Y.output,Y.size,λi hi T _ _=>Y.block i hi T,λj hj=>Y.cell j dP,Y.fz⟩ (λ_ e=>.inl e)
theorem zr.rdC(h:zr w w1 g o B v p out):∃F,oV w1 g (o+2) 65 F/\Ao F p.rd.1 p.rd.2.1 p.rd.2.2:=by
 obtain⟨vl,qs,Z,ho⟩:=h.ex;obtain⟨F,hC,hF⟩:=Z.uV;refine⟨F,(hC.sub 2 65 dS).congr (λj hj=> ?_),hF⟩;unfold uU;rw[ae dP,ae dP,ag dP,show 2+j-2=j by omega]
theorem Nu(up:Bool)(g o B:Nat)(v:dO)(p:jb)(w:dN)(h:oZ w g o B v p)(U:iQ w)(Q:p.out.length<=800000000):
 eM eN 73 #[π (μ ⟨g,o,ν⟩),.bool up] w λe w'=>e=ρ (iP (p.iw up).2)/\kM w w' g o B v (p.iw up).1:=by
 obtain⟨ev,Z⟩:∃ev:Int,(if up=true then(0:Int)else 1)=ev:=⟨_,rfl⟩
 have V:ev=0 \/ev=1:=by rw[<-Z];cases up<;>simp
 have c1:=h.c1;have hl:=h.lt;by_cases hf:(ko p.L ev).2.2=0
 ·have Y:p.iw up=(({p with L:=(ko p.L ev).1,rd:=([],false,false)}:jb).say (ko p.L ev).2.1,0):=by
   unfold jb.iw;rw[Z];simp only;rw[ae (by simpa using hf)]
  rw[Y];have hd:=h.begin.do_ U gN ev;rw[hf]at hd;have T:iP 0=η:=rfl;rw[T]at hd⊢;have hlen:=xx p.L ev;have hz:=Qm.1;have hZ:=xw;have HE:Hid _:=Y;clear Y hf h;cases up
  all_goals
   simp only[if_true,if_false,Bool.false_eq_true]at Z;subst Z
   go_in
   go_wp2_with(fail);refine hd.mono ?_;rintro e w1 ⟨rfl,X⟩;obtain⟨F,hC,hF⟩:=X.rdC;obtain⟨k1,k2,k3⟩:=Bm hC;have hs:=(X.read ([],false,false) ⟨JO,k2,Ao.zero⟩ k3).say (by simp only[fJ];omega) Q;obtain⟨d1,dl⟩:=X.ptr;have dl2:g<(w1.setCells g (o+2) DC.toList).heap.size:=Nat.lt_of_lt_of_le dl k3.size;clear hd X hC hF k2 k3;go_wp2_with(fail);refine hs.mono ?_;rintro e w3 ⟨rfl,S⟩;clear hs
   go_wp2
   go_ret;exact⟨rfl,S⟩
 ·have Y:p.iw up=(p,(ko p.L ev).2.2):=by
   unfold jb.iw;rw[Z];simp only;rw[ag hf]
  rw[Y];have hd:=Xw ev V B _ p.L _ [] w U (pK.rest h.lk) hf;have ee:iP (ko p.L ev).2.2=.iface 128 (ι κ ((ko p.L ev).2.2:Int)):=by simp only[iP];rw[ae hf]
  simp only;rw[ee];have HP:Hid _:=h;clear Y hf h ee;generalize (ko p.L ev).2.2=f at hd⊢;cases up
  all_goals
   simp only[if_true,if_false,Bool.false_eq_true]at Z;subst Z
   go_in
   go_wp2_with(fail);refine hd.mono ?_;rintro e w1 ⟨rfl,hb⟩;clear hd
   go_wp2
   go_ret;exact⟨rfl,kM.still HP.out hb⟩
end Rt
theorem QN:(eN.info? 5).map (λi=>(i.zero,i.size,i.bytes))=μ (μ (.int .u8 0),1,1):=gJ
def stH(own seq:Int):List UInt8:=[St.u8 own,St.u8 (seq%256),St.u8 (seq/256%256),St.u8 (seq/65536)]
theorem Uf(own seq:Int):(stH own seq).length=4:=rfl
theorem QO(w:dN)(own seq:Int)(p1:1<=own)(p2:own<=6)(p3:1<=seq)(p4:seq<=1000000):Row (w.alloc (γ #[.int .u8 own,.int .u8 (seq%256),.int .u8 (seq/256%256),.int .u8 (seq/65536)] 5)) 1 (σ (μ ⟨w.heap.size,0,ν⟩) 4 4) 4 (iz [St.u8 own,St.u8 (seq%256),St.u8 (seq/256%256),St.u8 (seq/65536)]):=by
 refine Row.made w 1 _ _ (0,0) 4 4 _ rfl rfl (Nat.le_refl _) dS (.inl rfl) ?_;intro j u Z;simp only[iz,eu,ew,oe own dP dP,oe (seq%256) dP dP,oe (seq/256%256) dP dP,oe (seq/65536) dP dP]at Z;simpa using Z
theorem J3(own seq:Int)(a:Option Addr)(n cap:Nat)(os:List jv)(w:dN)(S:iK w a n os)(hf:ox own seq os=0):
 eM eN 198 #[.agg #[ι κ own,ι κ seq,σ a n cap]] w λe w'=>e=ρ (τ #[.string ⟨(rM own seq os).toArray⟩,η])/\dV w w':=by
 obtain⟨i0,hi,nH,l8,mZ⟩:=aT QN;obtain⟨⟨p1,p2⟩,⟨p3,p4⟩,p5,p6⟩:=jk hf;have nS:=qF own os 0 p6;have hl:=S.1;have J:=gM w (γ #[ι κ own,ι κ seq,σ a n cap] 40);have M:=vP own seq a n cap os _ dP (S.below J);have e0:iP 0=η:=rfl;rw[hf,e0]at M;clear e0 p6 hf
 go_in
 go_wp2_with(fail);refine M.mono ?_;rintro e w1 ⟨rfl,Q⟩;obtain⟨q0,q1,q2,hz⟩:=aeq Q;have y:=gD J Q;clear Q M J;go_wp2_with(fail);have tg:Row (w1.alloc (γ #[.int .u8 own,.int .u8 (seq%256),.int .u8 (seq/256%256),.int .u8 (seq/65536)] 5)) 1 (σ (μ ⟨w1.heap.size,0,ν⟩) 4 4) 4 (iz [St.u8 own,St.u8 (seq%256),St.u8 (seq/256%256),St.u8 (seq/65536)]):=QO w1 own seq p1 p2 p3 p4;have vT:dV w (w1.alloc (γ #[.int .u8 own,.int .u8 (seq%256),.int .u8 (seq/256%256),.int .u8 (seq/65536)] 5)):=y.alloc y.size _
 go_loopw [5,31] (λv i wr=>∃(k g cp:Nat) (E:List UInt8),E=stH own seq++I3 (os.take k)/\k<=n/\i=ι κ k/\v=σ (μ ⟨g,0,ν⟩) E.length cp/\Row wr 1 v E.length (iz E)/\
  w.heap.size<=g/\dV w wr)
  (λ_ i _=>n-(intOf i).toNat)
 case atStart=>exact⟨0,w1.heap.size,4,_,rfl,Nat.zero_le _,rfl,rfl,tg,y.size,vT⟩
 case round=>
  obtain⟨k,g,cp,E,T,hk,rfl,rfl,V,FV,Y⟩:=hrel;have Lt:E.length<=19:=by
   have h1:=vN (os.take k);have h2:(os.take k).length<=6:=by simp;omega
   rw[T,ay,Uf];omega
  have HE:Hid _:=T;have HL:Hid _:=hl;clear T tg vT hl;have m2:E.length+2<=maxLen:=by unfold maxLen;omega
  have b2:(E.length+2)*1<=140737488355328:=dP;by_cases kc:k<n
  ·have t:=S.below Y;rcases t.2 with h0|⟨b,off,rfl,hc⟩
   ·omega
   have ph:k<os.length:=by rw[HL.out];exact kc
   obtain⟨c1,c2⟩:=hc k ph;obtain⟨⟨H,G⟩,⟨D,A⟩⟩:=nS os[k] (aD _);have HT:Hid (os.take (k+1)=os.take k++ [os[k]]):=aw ph;generalize os[k] =o at c1 c2 HT H G D A;clear hc t;have nh:(k:Int)<(n:Int):=dP;have VG:dV w (wr.alloc (γ #[ι κ o.1,ι κ o.2] 123)):=Y.alloc Y.size _;have Z:Row (wr.alloc (γ #[ι κ o.1,ι κ o.2] 123)) 1 (σ (μ ⟨g,0,ν⟩) E.length cp) E.length (iz E):=V.alloc _;go_wp2_with(at_builtin;go_must(refine iu _ rfl (.tmp 35) (.tmp 42) 140 rfl 5 i0 (.int .u8 0) 1 1 underlying140 hi nH l8 mZ rfl dS _ E.length (iz E) rfl (Z.alloc _) _ 2 2 [.int .u8 o.1,.int .u8 o.2] rfl rfl dS ?hcc (kX _ _ _ _) m2 b2 ?_))
   case hcc=>
    have:=oq (wr.alloc (γ #[ι κ o.1,ι κ o.2] 123)) (.int .u8 o.1) (.int .u8 o.2) 5;simpa using this
   intro X cap2 w2 sv qI kj;have ti:μ g=μ X \/(wr.alloc (γ #[ι κ o.1,ι κ o.2] 123)).heap.size+1<=X:=by
    rcases kj with h|h
    ·exact .inl h
    ·exact .inr (by simp;omega)
   have R:=Dh qI ti FV VG;have rP:Row w2 1 (σ (μ ⟨X,0,ν⟩) (E.length+2) cap2) (E++ [St.u8 o.1,St.u8 o.2]).length (iz (E++ [St.u8 o.1,St.u8 o.2])):=by
    rw[kJ,ay];simp only[iz,eu,ew,oe o.1 (show 0<=o.1 by omega) (show o.1<=255 by omega),oe o.2 (show 0<=o.2 by omega) (show o.2<=255 by omega)];exact sv
   have HN:Hid (E++ [St.u8 o.1,St.u8 o.2] =stH own seq++I3 (os.take (k+1))):=by
    show E++ [St.u8 o.1,St.u8 o.2] =_;rw[HE.out,HT.out,Pu,az]
   have U:Hid ((E++ [St.u8 o.1,St.u8 o.2]).length=E.length+2):=by show(E++ [St.u8 o.1,St.u8 o.2]).length=E.length+2;simp
   clear sv qI kj ti V Y VG Z
   go_wp2
   go_roundw
   case rel=>exact⟨k+1,X,cap2,_,HN.out,dP,by go_num,by rw[U.out],rP,R.1,R.2⟩
   case measure=>simp[intOf];omega
  ·have VF:(convert 140 9 (σ (μ ⟨g,0,ν⟩) E.length cp)).run eN wr=.ok (.string ⟨E.toArray⟩) wr:=Row.back V 140 9 5 underlying140 underlying5 underlying9;have HF:Hid (rM own seq os=E):=by
    show rM own seq os=E;have wX:os.take k=os:=aC (by rw[HL.out];omega);rw[HE.out,wX];rfl
   clear V;go_wp2_with(fail);rw[HF.out]
   go_ret2
   exact⟨rfl,Y⟩
theorem Bw(w:dN)(x y:dO)(t:TypeId):∀(j:Nat) (u:dO),[x,y][j]? =μ u->(w.alloc (γ #[x,y] t)).drew.cell? ((⟨w.heap.size,0,ν⟩:Addr).add j)=μ u:=λj u Z=>oq w x y t j u Z
namespace Rt
theorem oZ.rest {w w1:dN} {g o B:Nat} {v:dO} {p:jb} (h:oZ w g o B v p)(hb:dV w w1):PtQ w1 g o B v p (λk=>k<w.heap.size) (σ ν 0 0) [] :=by
 have Z:=h.below hb;exact⟨Z.uV,(pK.rest h.lk).below hb,Z.ou,h.few,h.ok,h.gB,h.vg,h.vB,h.nz,h.lt,λk Y=>h.ou.lt k Y⟩
theorem oZ.take {w w1:dN} {g o B:Nat} {v:dO} {p:jb} (h:oZ w g o B v p)(hb:dV w w1)(T:iQ w)(code id:Int)(a:Option Addr)(n cap:Nat)(os:List jv)(J:iK w1 a n os)(H:kd a cap)(Y:n<=cap)(M:n<=1000)
 (G:∀j,dQ (σ a n cap)=μ j->w.heap.size<=j/\j<w1.heap.size):
 eM eN 185 #[π (μ ⟨B,0,ν⟩),.agg #[ι κ code,ι κ id,σ a n cap]] w1 λe w'=>e=ρ (iP (jD p.L (code,id,os)).2.2)/\zr w w' g o B v {p with L:=(jD p.L (code,id,os)).1} (jD p.L (code,id,os)).2.1:=by
 have Z:=h.rest hb;have X:tD w1 (λk=>k<w.heap.size) (σ ν 0 0) ⟨code,id,a,n,cap,os⟩:=⟨J,H,Y,M,λk Q=>by
  have E:dQ (σ a n cap)=μ k:=AK Q;obtain⟨h1,U⟩:=G k E;exact⟨dP,by simp[dQ],U⟩⟩
 refine(Qb B _ p.L _ [] ⟨code,id,a,n,cap,os⟩ w1 (T.below hb) Z.nz.2.1 (by simp[dQ]) Z.rep Z.ok.bd gN X Z.ok.m1 Z.ok.m2).mono ?_;rintro e w' ⟨rfl,S⟩;refine⟨rfl,?_⟩;have V:=zr.went Z rfl (mM.iD o B v hb h.lt) S (Z.ok.jD _);rw[ew,fJ]at V;exact V
theorem Hf(s:ByteArray)(g o B:Nat)(v:dO)(p:jb)(w:dN)(h:oZ w g o B v p)(hT:iQ w)(hs:s.size<=1000)(hn:p.out.length<=800000000):
 eM eN 133 #[π (μ ⟨g,o,ν⟩),.string s] w λe w'=>e=ρ (τ #[])/\kM w w' g o B v (p.packet s.data.toList):=by
 have t:=GY s w hs;have HP:Hid _:=h;clear h
 go_in
 go_wp2_with(fail);refine t.mono ?_;rintro e w1 ⟨a,n,cap,f,code,id,os,rfl,M,G,S,hb,J,hz⟩;clear t;by_cases hf:f=0
 ·subst hf;have e0:iP 0=η:=rfl;rw[e0];have ph:os.length<=1000:=by
   have Y:iF s.data.toList=(code,id,os,0):=S;unfold iF at Y;split at Y
   ·simp at Y
   ·split at Y
    ·rename_i X
     have h3:lJ (s.data.toList.drop 3)=os:=(dD (dD (dD Y).2).2).1;rw[h3]at X;unfold ju at X;split at X
     ·simp at X
     ·split at X
      ·simp at X
      ·omega
    ·simp at Y
  have lT:n<=1000:=by have:=M.1;omega
  have T:p.packet s.data.toList=({p with L:=(jD p.L (code,id,os)).1}:jb).say (jD p.L (code,id,os)).2.1:=by
   unfold jb.packet;rw[S];rfl
  have ba:=gM w1 (γ #[ι κ code,ι κ id,σ a n cap] 37);have H:=gD hb ba;have hA:=λj=>aj w1 #[ι κ code,ι κ id,σ a n cap] 37 (0,0) j;have E:=HP.out.take (iZ H) hT code id a n cap os (M.below (iZ ba)) hz G lT (λj y=>⟨(J j y).1,Nat.lt_of_lt_of_le (J j y).2 ba.size⟩);have hlen:=DH p.L (code,id,os);obtain⟨U,V⟩:=fP (w1.alloc (γ #[ι κ code,ι κ id,σ a n cap] 37));obtain⟨Z,Q⟩:=fP (w1.heap.size);rw[V]at H E;have d0:U.cell? ⟨Z,0,ν⟩=μ (ι κ code):=by rw[<-V,<-Q];exact hA 0
  have WY:U.cell? ⟨Z,1,ν⟩=μ (ι κ id):=by rw[<-V,<-Q];exact hA 1
  have d2:U.cell? ⟨Z,2,ν⟩=μ (σ a n cap):=by rw[<-V,<-Q];exact hA 2
  have zl:Z<U.heap.size:=af U _ d0;have d1:=(HP.out.below H).c1;have dl:=(HP.out.below H).lt;have HE:Hid _:=T;have Tx:Hid _:=V;have HZ:Hid _:=Q;clear T S M J hA V Q ba hb;go_wp2_with(fail);rw[Tx.out,HZ.out]
  go_region_with(go_at_call 185;refine E.mono ?_;rintro e w3 ⟨rfl,A⟩)
  all_goals
   have D:=A.say dP hn;clear E A;go_wp2_with(fail);refine D.mono ?_;rintro e w4 ⟨rfl,hW⟩;clear D
   go_wp2
   first|go_end0|refine iq rfl rfl ?_
   refine⟨rfl,?_⟩;rw[HE.out];exact hW
 ·have ee:iP f=.iface 128 (ι κ (f:Int)):=by simp only[iP];rw[ae hf]
  rw[ee];have T:p.packet s.data.toList=p:=by
   unfold jb.packet;rw[S];simp only;rw[ae hf]
  have HW:Hid (kM w (w1.alloc (γ #[ι κ code,ι κ id,σ a n cap] 37)) g o B v (p.packet s.data.toList)):=by
   show kM _ _ _ _ _ _ _;rw[T];exact kM.still HP.out (gD hb (gM _ _))
  clear T S M J hf ee
  go_wp2
  first|go_end0|refine iq rfl rfl ?_
  exact⟨rfl,HW.out⟩
theorem vC(T:ByteArray)(c:UInt8)(own seq:Int)(a:Option Addr)(n cap:Nat)(es:List jv)(g o B:Nat)(v:dO)(p:jb)(w:dN)(h:oZ w g o B v p)(J:T.data.toList=[c])(U:iK w a n es)(hf:ox own seq es=0)(hn:p.out.length<=800000000):
 eM eN 152 #[π (μ ⟨g,o,ν⟩),.string T,.agg #[ι κ own,ι κ seq,σ a n cap]] w λe w'=>e=ρ (τ #[])/\kM w w' g o B v (p.put c (rM own seq es)):=by
 have V:=gM w (γ #[ι κ own,ι κ seq,σ a n cap] 40);have hA:=λj=>aj w #[ι κ own,ι κ seq,σ a n cap] 40 (0,0) j;have X:=J3 own seq a n cap es _ (U.below V) hf;have M:=(jk hf).2.2.1;have G:(rM own seq es).length<=100:=by
  have Q:∀l:List jv,(I3 l).length=2*l.length:=by
   intro l
   induction l with
   |nil=>rfl
   |cons x l ih=>
    have e:I3 (x::l)=u8 x.1::u8 x.2::I3 l:=rfl;rw[e];simp only[eE,ih];omega
  simp only[rM,eE,Q];omega
 obtain⟨L,Z⟩:=fP (rM own seq es);rw[Z]at X G;rw[Z];have HP:Hid _:=h;clear h Z U hf M
 go_in
 go_wp2_with(fail);refine X.mono ?_;rintro e w1 ⟨rfl,b1⟩;have k1:=gD V b1;have Y:=Aq g o B v p T ⟨L.toArray⟩ c w1 (HP.out.below k1) J (by show L.toArray.size<=1000;simp;omega) dP;have S:(⟨L.toArray⟩:ByteArray).data.toList=L:=gN;rw[S]at Y;clear X b1;go_wp2_with(fail);refine Y.mono ?_;rintro e w2 ⟨rfl,H⟩;clear Y
 go_wp2
 first|go_end0|refine iq rfl rfl ?_
 exact⟨rfl,kM.trans (mM.iD o B v k1 HP.out.lt) (λ_ e=>.inl e) H⟩
end Rt
theorem BR.still {w w':dN} {B:Nat} {m:FM} {n:Nat} {K:Int->Option PS} {O:Nat->Int->Option PS} (h:BR w B m n K O)(hs:w.heap.size<=w'.heap.size)(X:∀j,j<w.heap.size->¬m.no j->w'.heap[j]? =w.heap[j]?)
 (J:¬m.no B) (E:¬m.no m.g) (D:∀b,(b=m.bm \/b∈m.bs)->¬m.no b) (no':Nat->Prop) (S:∀j,no' j->m.no j \/w.heap.size<=j) (Q:∀j,no' j->j<w'.heap.size):BR w' B {m with no:=no'} n K O:=by
 have U:=h.mlt;obtain⟨kn,ow,hF,G,H⟩:=h.ex;have mp:∀b,(b=m.bm \/b∈m.bs)->w'.heap[b]? =w.heap[b]? :=λb hb=>X b (U b hb) (D b hb);have tie:∀ {f:Int->Option SV} {F:Int->Option PS},Tie w m f F->Tie w' {m with no:=no'} f F:=by
  intro f F y x A;have:=y x A;cases e:F x with
  |none=>rw[e]at this;exact this
  |some q=>
   rw[e]at this;obtain⟨s,M,Z⟩:=this;refine⟨s,M,⟨Z.own,Z.seq,Z.n,Z.opt.kept (cap:=s.cap) (λj Y=>X j (Z.lt j Y) (Z.far j Y).2.2),Z.nil,Z.ok,λj Y=>Nat.lt_of_lt_of_le (Z.lt j Y) hs,λj Y=>⟨(Z.far j Y).1,(Z.far j Y).2.1,λe=> ?_⟩⟩⟩;rcases S j e with V|V
   ·exact(Z.far j Y).2.2 V
   ·have:=Z.lt j Y;omega
 refine⟨⟨kn,ow,⟨(X B hF.lt J).trans hF.m9,hF.row.keep hs (λx hx=> ?_),hF.km.keep (mp _ (.inl rfl)),λi b e=>(hF.om i b e).keep (mp b (.inr (bu e))),hF.few,hF.nB,hF.nd⟩,tie G,λi hi=>tie (H i hi)⟩,Q⟩;have T:m.g=x:=by simpa[FM.sl,dQ]using hx
 subst T;exact X m.g (hF.row.lt _ hx) E
namespace Rt
variable {a b c w w':World} {i j n:Nat} {p:jb} {r r':iy}
def pV(l:List wT):List dO:=l.flatMap λt=>[ι κ t.1,ι κ t.2.1,.string ⟨t.2.2.toArray⟩]
structure Zt where
 R:Nat
 g:Nat
 cap:Nat
 B:Nat->Nat
 v:Nat->dO
 Bb:Nat
 fm:FM
 iv:dO
def Zt.mine(z:Zt)(n k:Nat):Prop:=k=z.R \/k=z.g \/(∃i,i<n/\(k=z.B i \/(z.v i).ownBlock=μ k)) \/z.iv.ownBlock=μ k
structure k8(w:dN)(z:Zt)(r:iy):Prop where
 n1:1<=r.n
 n3:r.n<=3
 J4:r.n<=z.cap
 id:1<=r.id/\r.id<=6
 m9:iM w z.R #[ι κ r.id,σ (μ ⟨z.g,0,ν⟩) r.n z.cap,π (μ ⟨z.Bb,0,ν⟩),z.iv,ι κ r.drop] 135
 pt:∀i,i<r.n->oZ w z.g (i*71) (z.B i) (z.v i) (r.P i)
 ib:Row w 3 z.iv r.jM.length (pV r.jM)
 bs:BR w z.Bb z.fm 6 r.K r.O
 bl:z.fm.bs.length=r.n
 no:∀k,z.mine r.n k->z.fm.no k
 nb:¬z.fm.no z.Bb/\¬z.fm.no z.fm.g/\∀b,(b=z.fm.bm \/b∈z.fm.bs)->¬z.fm.no b
 sR:z.R≠z.g/\z.R≠0/\∀i,i<r.n->z.B i≠z.R/\(z.v i).ownBlock≠μ z.R
 sB:∀i j,i<r.n->j<r.n->i≠j->z.B i≠z.B j/\∀k,(z.v i).ownBlock=μ k->(z.v j).ownBlock≠μ k
 sV:∀i j,i<r.n->j<r.n->(z.v i).ownBlock≠μ (z.B j)
 sI:∀k,z.iv.ownBlock=μ k->k≠z.R/\k≠z.g/\∀i,i<r.n->k≠z.B i/\(z.v i).ownBlock≠μ k
 Nv:z.iv.ownBlock≠μ 0/\∀b,(b=z.fm.bm \/b∈z.fm.bs)->b≠0
structure xB(w w':dN)(z:Zt)(n:Nat):Prop where
 os:w'.os=w.os
 tape:w'.tape=w.tape
 output:w'.output=w.output
 size:w.heap.size<=w'.heap.size
 block:∀k,k<w.heap.size->¬z.mine n k->k≠z.fm.bm->k∉z.fm.bs->w'.heap[k]? =w.heap[k]?
structure Zt.like(z z':Zt):Prop where
 R:z'.R=z.R
 g:z'.g=z.g
 cap:z'.cap=z.cap
 B:z'.B=z.B
 Bb:z'.Bb=z.Bb
 bm:z'.fm.bm=z.fm.bm
 fg:z'.fm.g=z.fm.g
 bs:z'.fm.bs=z.fm.bs
structure ig(w w':dN)(z:Zt)(r:iy)(n:Nat):Prop where
 ex:∃z',k8 w' z' r/\z.like z'/\(∀k,z'.mine n k->z.mine n k \/w.heap.size<=k)/\(∀k,z.fm.no k->z'.fm.no k)
 kept:xB w w' z n
def yC(v:Nat->dO)(i:Nat)(x:dO):Nat->dO:=λj=>if j=i then x else v j
theorem oC(v:Nat->dO)(i:Nat)(x:dO):yC v i x i=x:=by simp[yC]
theorem mR(v:Nat->dO)(x:dO)(h:j≠i):yC v i x j=v j:=by simp[yC,h]
theorem ja(P:Nat->jb)(i:Nat)(p:jb):kA P i p i=p:=by simp[kA]
theorem iU(P:Nat->jb)(p:jb)(h:j≠i):kA P i p j=P j:=by simp[kA,h]
theorem k8.port {z:Zt} (h:k8 w z r)(hi:i<r.n)(hW:kM w w' z.g (i*71) (z.B i) (z.v i) p):ig w w' z (r.iE i p) r.n:=by
 obtain⟨⟨v',hP,hv⟩,X⟩:=hW;have kc:∀k,z.mine r.n k->k<w.heap.size:=λk Z=>h.bs.Nk k (h.no k Z);have I8:=(h.pt i hi).lt;have H:∀k,k<w.heap.size->v'.ownBlock=μ k->(z.v i).ownBlock=μ k:=λk Z e=>by
  rcases hv k e with T|T
  ·exact T
  ·omega
 have D:z.mine r.n z.g/\z.mine r.n (z.B i)/\∀k,(z.v i).ownBlock=μ k->z.mine r.n k:=⟨.inr (.inl rfl),.inr (.inr (.inl ⟨i,hi,.inl rfl⟩)),λk Z=>.inr (.inr (.inl ⟨i,hi,.inr Z⟩))⟩
 have t:∀k,k<w.heap.size->¬z.mine r.n k->w'.heap[k]? =w.heap[k]? :=λk Z J=>X.block k Z (λe=>J (by rw[e];exact D.1)) (λe=>J (by rw[e];exact D.2.1)) (λe=>J (D.2.2 k e));have EY:=h.bs.still X.size (λj Y hn=>t j Y (λe=>hn (h.no j e))) h.nb.1 h.nb.2.1 h.nb.2.2 (λk=>z.fm.no k \/(w.heap.size<=k/\k<w'.heap.size/\v'.ownBlock=μ k)) (λj Y=>by
  rcases Y with e|e
  ·exact .inl e
  ·exact .inr e.1) (λj Y=>by
  rcases Y with e|e
  ·exact Nat.lt_of_lt_of_le (h.bs.Nk j e) X.size
  ·exact e.2.1)
 have Xy:∀b,(b=z.fm.bm \/b∈z.fm.bs)->b<w.heap.size:=h.bs.mlt;have Xz:z.Bb<w.heap.size:=by obtain⟨_,_,hF,_⟩:=h.bs.ex;exact hF.lt
 have XA:z.fm.g<w.heap.size:=by obtain⟨_,_,hF,_⟩:=h.bs.ex;exact hF.row.lt _ rfl
 refine⟨⟨{z with v:=yC z.v i v',fm:={z.fm with no:=λk=>z.fm.no k \/(w.heap.size<=k/\k<w'.heap.size/\v'.ownBlock=μ k)}},⟨h.n1,h.n3,h.J4,h.id,?_,?_,?_,EY,h.bl,?_,?_,⟨h.sR.1,h.sR.2.1,?_⟩,?_,?_,?_,h.Nv⟩,⟨rfl,rfl,rfl,rfl,rfl,rfl,rfl,rfl⟩,?_,λk Z=>.inl Z⟩,⟨X.os,X.tape,X.output,X.size,λk Z J _ _=>t k Z J⟩⟩
 ·exact h.m9.keep (X.block z.R h.m9.lt h.sR.1 (λe=>(h.sR.2.2 i hi).1 e.symm) (h.sR.2.2 i hi).2)
 ·intro j Y;by_cases e:j=i
  ·subst e;show oZ w' z.g (j*71) (z.B j) (yC z.v j v' j) (kA r.P j p j);rw[oC,ja];exact hP
  ·show oZ w' z.g (j*71) (z.B j) (yC z.v i v' j) (kA r.P i p j);rw[mR _ _ e,iU _ _ e];have V:=h.pt j Y;obtain⟨F,hC,hF⟩:=V.uV;have hs:=h.sB j i Y hi e;refine⟨⟨F,λx hx=>⟨(X.cell (j*71+x) ?_).trans (hC.cell x hx),(X.fz _).trans (hC.fz x hx)⟩,hF⟩,V.lk.keep (X.block (z.B j) V.lk.lt (λe=>V.gB e.symm) hs.1 (h.sV i j hi Y)),V.ou.keep X.size (λk Z=>X.block k (V.ou.lt k Z) (λe=>V.vg (by rw[Z,e])) (λe=>h.sV j i Y hi (by rw[Z,e])) (hs.2 k Z)),V.few,V.ok,V.gB,V.vg,V.vB,V.nz⟩;rcases Nat.lt_or_gt_of_ne e with A|A
   ·exact .inl dP
   ·exact .inr dP
 ·exact h.ib.keep X.size (λk Z=>X.block k (h.ib.lt k Z) (h.sI k Z).2.1 ((h.sI k Z).2.2 i hi).1 ((h.sI k Z).2.2 i hi).2)
 ·intro k Z;rcases Z with e|e|⟨j,Y,e|e⟩|e
  ·exact .inl (h.no k (.inl e))
  ·exact .inl (h.no k (.inr (.inl e)))
  ·exact .inl (h.no k (.inr (.inr (.inl ⟨j,Y,.inl e⟩))))
  ·by_cases U:j=i
   ·subst U;have e':v'.ownBlock=μ k:=by have:=e;simp only[oC]at this;exact this
    rcases hv k e' with T|T
    ·exact .inl (h.no k (.inr (.inr (.inl ⟨j,Y,.inr T⟩))))
    ·exact .inr ⟨T,hP.ou.lt k e',e'⟩
   ·have e':(z.v j).ownBlock=μ k:=by have:=e;simp only[mR _ _ U]at this;exact this
    exact .inl (h.no k (.inr (.inr (.inl ⟨j,Y,.inr e'⟩))))
  ·exact .inl (h.no k (.inr (.inr (.inr e))))
 ·refine⟨λe=> ?_,λe=> ?_,λb hb e=> ?_⟩
  ·rcases e with e|e
   ·exact h.nb.1 e
   ·have h8:w.heap.size<=z.Bb:=e.1;omega
  ·rcases e with e|e
   ·exact h.nb.2.1 e
   ·have h8:w.heap.size<=z.fm.g:=e.1;omega
  ·rcases e with e|e
   ·exact h.nb.2.2 b hb e
   ·have h9:=Xy b hb;omega
 ·intro j Y;refine⟨(h.sR.2.2 j Y).1,?_⟩;by_cases U:j=i
  ·subst U;show(yC z.v j v' j).ownBlock≠_;rw[oC];exact λe=>(h.sR.2.2 j Y).2 (H _ h.m9.lt e)
  ·show(yC z.v i v' j).ownBlock≠_;rw[mR _ _ U];exact(h.sR.2.2 j Y).2
 ·intro a b S hb G;refine⟨(h.sB a b S hb G).1,λk Z=> ?_⟩;show(yC z.v i v' b).ownBlock≠μ k;have Q:(yC z.v i v' a).ownBlock=μ k:=Z;by_cases M:a=i
  ·subst M;rw[oC]at Q;rw[mR _ _ (λe=>G e.symm)];intro e;have E:=(h.pt b hb).ou.lt k e;exact(h.sB a b S hb G).2 k (H k E Q) e
  ·rw[mR _ _ M]at Q;by_cases eb:b=i
   ·subst eb;rw[oC];intro e;have E:=(h.pt a S).ou.lt k Q;exact(h.sB a b S hb G).2 k Q (H k E e)
   ·rw[mR _ _ eb];exact(h.sB a b S hb G).2 k Q
 ·intro a b S hb;show(yC z.v i v' a).ownBlock≠μ (z.B b);by_cases M:a=i
  ·subst M;rw[oC];exact λe=>h.sV a b S hb (H _ (h.pt b hb).lk.lt e)
  ·rw[mR _ _ M];exact h.sV a b S hb
 ·intro k Z;obtain⟨A,h2,y⟩:=h.sI k Z;refine⟨A,h2,λj Y=>⟨(y j Y).1,?_⟩⟩;show(yC z.v i v' j).ownBlock≠μ k;by_cases U:j=i
  ·subst U;rw[oC];exact λe=>(y j Y).2 (H k (h.ib.lt k Z) e)
  ·rw[mR _ _ U];exact(y j Y).2
 ·intro k Z;rcases Z with e|e|⟨j,Y,e|e⟩|e
  ·exact .inl (.inl e)
  ·exact .inl (.inr (.inl e))
  ·exact .inl (.inr (.inr (.inl ⟨j,Y,.inl e⟩)))
  ·by_cases U:j=i
   ·subst U;have e':v'.ownBlock=μ k:=by have:=e;simp only[oC]at this;exact this
    rcases hv k e' with T|T
    ·exact .inl (.inr (.inr (.inl ⟨j,Y,.inr T⟩)))
    ·exact .inr T
   ·have e':(z.v j).ownBlock=μ k:=by have:=e;simp only[mR _ _ U]at this;exact this
    exact .inl (.inr (.inr (.inl ⟨j,Y,.inr e'⟩)))
  ·exact .inl (.inr (.inr (.inr e)))
theorem xB.refl(w:dN)(z:Zt)(n:Nat):xB w w z n:=⟨rfl,rfl,rfl,Nat.le_refl _,λ_ _ _ _ _=>rfl⟩
theorem xB.iD(z:Zt)(n:Nat)(h:dV w w'):xB w w' z n:=⟨h.os,h.tape,h.output,h.size,λk Z _ _ _=>h.block k Z⟩
theorem Zt.qx(z:Zt):z.like z:=⟨rfl,rfl,rfl,rfl,rfl,rfl,rfl,rfl⟩
theorem Zt.Bx {a b c:Zt} (h:a.like b)(k:b.like c):a.like c:=⟨k.R.trans h.R,k.g.trans h.g,k.cap.trans h.cap,k.B.trans h.B,k.Bb.trans h.Bb,k.bm.trans h.bm,k.fg.trans h.fg,k.bs.trans h.bs⟩
theorem k8.yD {z:Zt} (h:k8 w z r):∀k,z.mine r.n k->k<w.heap.size:=λk Z=>h.bs.Nk k (h.no k Z)
theorem k8.below {w w':dN} {z:Zt} {r:iy} (h:k8 w z r)(hb:dV w w'):k8 w' z r:=
 ⟨h.n1,h.n3,h.J4,h.id,h.m9.keep (hb.block _ h.m9.lt),λi hi=>(h.pt i hi).below hb,h.ib.below hb,h.bs.below hb,h.bl,h.no,h.nb,h.sR,h.sB,h.sV,h.sI,h.Nv⟩
theorem ig.still {z:Zt} (h:k8 w z r)(hb:dV w w'):ig w w' z r r.n:=
 ⟨⟨z,h.below hb,z.qx,λ_ e=>.inl e,λ_ e=>e⟩,xB.iD z r.n hb⟩
theorem ig.refl {w:dN} {z:Zt} {r:iy} (h:k8 w z r):ig w w z r r.n:=⟨⟨z,h,z.qx,λ_ e=>.inl e,λ_ e=>e⟩,xB.refl w z r.n⟩
theorem ig.step {z:Zt} (h:ig a b z r n)(k:∀z',k8 b z' r->z.like z'->ig b c z' r' n):ig a c z r' n:=by
 obtain⟨⟨z',H,hl,S,G⟩,Z⟩:=h;obtain⟨⟨E,M,Q,D,J⟩,Y⟩:=k z' H hl;refine⟨⟨E,M,Zt.Bx hl Q,λx hx=> ?_,λx hx=>J x (G x hx)⟩,⟨Y.os.trans Z.os,Y.tape.trans Z.tape,Y.output.trans Z.output,Nat.le_trans Z.size Y.size,λx hx V U T=>(Y.block x (Nat.lt_of_lt_of_le hx Z.size) (λe=> ?_) (by rw[hl.bm];exact U) (by rw[hl.bs];exact T)).trans (Z.block x hx V U T)⟩⟩
 ·rcases D x hx with e|e
  ·exact S x e
  ·exact .inr (Nat.le_trans Z.size e)
 ·rcases S x e with X|X
  ·exact V X
  ·omega
theorem ig.below {z:Zt} (h:ig a b z r n)(Y:r.n=n)(hb:dV b c):ig a c z r n:=by
 subst Y;exact h.step λz' Z _=>ig.still Z hb
theorem ig.first {z:Zt} (Q:k8 a z r)(M:r.n=n)(hb:dV a b)(k:k8 b z r->ig b c z r' n):ig a c z r' n:=by
 subst M;obtain⟨⟨J,X,Y,H,V⟩,Z⟩:=k (Q.below hb);exact⟨⟨J,X,Y,λx hx=>(H x hx).imp_right (λe=>Nat.le_trans hb.size e),V⟩,⟨Z.os.trans hb.os,Z.tape.trans hb.tape,Z.output.trans hb.output,Nat.le_trans hb.size Z.size,λx hx U T S=>(Z.block x (Nat.lt_of_lt_of_le hx hb.size) U T S).trans (hb.block x hx)⟩⟩
theorem ig.tab {z:Zt} {r0:iy} (h:ig a b z r n)(Z:k8 a z r0)(U:r0.n=n)(X:iQ a):iQ b:=λe s V hs=>by
 subst U;refine(ai (a:=⟨0,e*10+s,ν⟩) (h.kept.block 0 X.lt (λY=> ?_) (λY=> ?_) (λY=> ?_))).trans (X e s V hs)
 ·rcases Y with e|e|⟨i,hi,e|e⟩|e
  ·exact Z.sR.2.1 e.symm
  ·exact(Z.pt 0 Z.n1).nz.1 e.symm
  ·exact(Z.pt i hi).nz.2.1 e.symm
  ·exact(Z.pt i hi).nz.2.2 e
  ·exact Z.Nv.1 e
 ·exact Z.Nv.2 0 (.inl Y) rfl
 ·exact Z.Nv.2 0 (.inr Y) rfl
theorem k8.base {z:Zt} {k:Nat} {K':Int->Option PS} {O':Nat->Int->Option PS} (h:k8 w z r)(U:BR w' z.Bb z.fm k K' O')(Y:jc w w' z.fm):ig w w' z {r with K:=K',O:=O'} r.n:=by
 have hb:∀x,z.mine r.n x->w'.heap[x]? =w.heap[x]? :=λx hx=>Y.block x (h.yD x hx) (λe=>h.nb.2.2 x (.inl e) (h.no x hx)) (λe=>h.nb.2.2 x (.inr e) (h.no x hx));refine⟨⟨z,⟨h.n1,h.n3,h.J4,h.id,h.m9.keep (hb _ (.inl rfl)),λi hi=> ?_,h.ib.keep Y.size (λx hx=>hb x (.inr (.inr (.inr hx)))),U.six,h.bl,h.no,h.nb,h.sR,h.sB,h.sV,h.sI,h.Nv⟩,z.qx,λ_ e=>.inl e,λ_ e=>e⟩,⟨Y.os,Y.tape,Y.output,Y.size,λx hx _ X V=>Y.block x hx X V⟩⟩;have Z:=h.pt i hi;obtain⟨F,hC,hF⟩:=Z.uV;exact⟨⟨F,hC.keep (hb _ (.inr (.inl rfl))),hF⟩,Z.lk.keep (hb _ (.inr (.inr (.inl ⟨i,hi,.inl rfl⟩)))),Z.ou.keep Y.size (λx hx=>hb x (.inr (.inr (.inl ⟨i,hi,.inr hx⟩)))),Z.few,Z.ok,Z.gB,Z.vg,Z.vB,Z.nz⟩
theorem XB(p:jb)(B:Nat)(v:dO)(F:Nat->dO)(q:kL):∀j,j<71->qV (qV (qV (uU p B v F) 67 (.int .i64 q.who)) 68 (.bool q.both)) 69 (.int .i64 q.left) j=uU {p with pe:=q} B v F j:=by
 intro j hj;by_cases Z:j=69
 ·subst Z;simp[qV,uU]
 by_cases Y:j=68
 ·subst Y;simp[qV,uU]
 by_cases X:j=67
 ·subst X;simp[qV,uU]
 rw[jn _ _ Z,jn _ _ Y,jn _ _ X];simp only[uU,Z,Y,X,if_false]
theorem oZ.peer {g o B:Nat} {v:dO} (h:oZ w g o B v p)(q:kL):
 kM w (((w.setCell ⟨g,o+67,ν⟩ (.int .i64 q.who)).setCell ⟨g,o+68,ν⟩ (.bool q.both)).setCell ⟨g,o+69,ν⟩ (.int .i64 q.left)) g o B v {p with pe:=q}:=by
 obtain⟨F,hC,hF⟩:=h.uV;have Z:kB w (((w.setCell ⟨g,o+67,ν⟩ (.int .i64 q.who)).setCell ⟨g,o+68,ν⟩ (.bool q.both)).setCell ⟨g,o+69,ν⟩ (.int .i64 q.left)) g o 71:=(((kB.refl w g o 71).set (o+67) dP dP _).set (o+68) dP dP _).set (o+69) dP dP _;have hb:∀x,x<w.heap.size->x≠g->_:=Z.block;refine⟨⟨v,⟨⟨F,(((hC.set 67 dS _).set 68 dS _).set 69 dS _).congr (XB p B v F q),hF⟩,h.lk.keep (hb B h.lk.lt (λe=>h.gB e.symm)),h.ou.keep Z.size (λx hx=>hb x (h.ou.lt x hx) (λe=>h.vg (by rw[hx,e]))),h.few,h.ok,h.gB,h.vg,h.vB,h.nz⟩,λ_ e=>.inl e⟩,⟨Z.os,Z.tape,Z.output,Z.size,λi hi Y _ _=>Z.block i hi Y,Z.cell,Z.fz⟩⟩
theorem k8.own {z:Zt} (h:k8 w z r)(V:dO)(jM:List wT)(d:Int)(hs:w.heap.size<=w'.heap.size)(E:w'.os=w.os)(A:w'.tape=w.tape)(y:w'.output=w.output)(Z:∀k,k<w.heap.size->k≠z.R->z.iv.ownBlock≠μ k->w'.heap[k]? =w.heap[k]?)
 (nj:iM w' z.R #[ι κ r.id,σ (μ ⟨z.g,0,ν⟩) r.n z.cap,π (μ ⟨z.Bb,0,ν⟩),V,ι κ d] 135) (H:Row w' 3 V jM.length (pV jM)) (T:∀k,V.ownBlock=μ k->z.iv.ownBlock=μ k \/w.heap.size<=k):ig w w' z {r with jM:=jM,drop:=d} r.n:=by
 have Q:∀k,z.iv.ownBlock=μ k->z.mine r.n k:=λk Z=>.inr (.inr (.inr Z));have J:∀k,k<w.heap.size->¬z.mine r.n k->w'.heap[k]? =w.heap[k]? :=λk M S=>Z k M (λe=>S (.inl e)) (λe=>S (Q k e));have D:=h.bs.still hs (λj U hn=>J j U (λe=>hn (h.no j e))) h.nb.1 h.nb.2.1 h.nb.2.2 (λk=>z.fm.no k \/(w.heap.size<=k/\k<w'.heap.size/\V.ownBlock=μ k)) (λj U=>by
  rcases U with e|e
  ·exact .inl e
  ·exact .inr e.1) (λj U=>by
  rcases U with e|e
  ·exact Nat.lt_of_lt_of_le (h.bs.Nk j e) hs
  ·exact e.2.1)
 have t:∀b,(b=z.fm.bm \/b∈z.fm.bs)->b<w.heap.size:=h.bs.mlt;have Xz:z.Bb<w.heap.size:=by obtain⟨_,_,hF,_⟩:=h.bs.ex;exact hF.lt
 have XA:z.fm.g<w.heap.size:=by obtain⟨_,_,hF,_⟩:=h.bs.ex;exact hF.row.lt _ rfl
 have hI':∀k,k<w.heap.size->V.ownBlock=μ k->z.iv.ownBlock=μ k:=λk Z e=>by
  rcases T k e with Y|Y
  ·exact Y
  ·omega
 refine⟨⟨{z with iv:=V,fm:={z.fm with no:=λk=>z.fm.no k \/(w.heap.size<=k/\k<w'.heap.size/\V.ownBlock=μ k)}},⟨h.n1,h.n3,h.J4,h.id,nj,λi hi=> ?_,H,D,h.bl,?_,?_,h.sR,h.sB,h.sV,?_,?_⟩,⟨rfl,rfl,rfl,rfl,rfl,rfl,rfl,rfl⟩,?_,λk Z=>.inl Z⟩,⟨E,A,y,hs,λk M S _ _=>J k M S⟩⟩
 ·have X:=h.pt i hi;obtain⟨F,hC,hF⟩:=X.uV;have G:=h.sR.2.2 i hi;refine⟨⟨F,hC.keep (Z _ X.lt (λe=>h.sR.1 e.symm) (λe=>(h.sI _ e).2.1 rfl)),hF⟩,X.lk.keep (Z _ X.lk.lt G.1 (λe=>((h.sI _ e).2.2 i hi).1 rfl)),X.ou.keep hs (λx hx=>Z x (X.ou.lt x hx) (λe=>G.2 (by rw[hx,e])) (λe=>((h.sI x e).2.2 i hi).2 hx)),X.few,X.ok,X.gB,X.vg,X.vB,X.nz⟩
 ·intro k Z;rcases Z with e|e|e|e
  ·exact .inl (h.no k (.inl e))
  ·exact .inl (h.no k (.inr (.inl e)))
  ·exact .inl (h.no k (.inr (.inr (.inl e))))
  ·rcases T k e with Y|Y
   ·exact .inl (h.no k (Q k Y))
   ·exact .inr ⟨Y,H.lt k e,e⟩
 ·refine⟨λe=> ?_,λe=> ?_,λb hb e=> ?_⟩
  ·rcases e with e|e
   ·exact h.nb.1 e
   ·have h8:w.heap.size<=z.Bb:=e.1;omega
  ·rcases e with e|e
   ·exact h.nb.2.1 e
   ·have h8:w.heap.size<=z.fm.g:=e.1;omega
  ·rcases e with e|e
   ·exact h.nb.2.2 b hb e
   ·have h9:=t b hb;omega
 ·intro k Z;rcases T k Z with Y|Y
  ·exact h.sI k Y
  ·refine⟨λe=> ?_,λe=> ?_,λi hi=>⟨λe=> ?_,λe=> ?_⟩⟩
   ·have e':k=z.R:=e;have:=h.m9.lt;omega
   ·have e':k=z.g:=e;have:=(h.pt 0 h.n1).lt;omega
   ·have e':k=z.B i:=e;have:=(h.pt i hi).lk.lt;omega
   ·have:=(h.pt i hi).ou.lt k e;omega
 ·refine⟨λe=> ?_,h.Nv.2⟩;rcases T 0 e with Y|Y
  ·exact h.Nv.1 Y
  ·have:=h.m9.lt;omega
 ·intro k Z;rcases Z with e|e|e|e
  ·exact .inl (.inl e)
  ·exact .inl (.inr (.inl e))
  ·exact .inl (.inr (.inr (.inl e)))
  ·exact(T k e).imp_left (Q k)
theorem k8.c0 {z:Zt} (h:k8 w z r):w.cell? ⟨z.R,0,ν⟩=μ (ι κ r.id):=h.m9.cell 0
theorem k8.c1 {z:Zt} (h:k8 w z r):w.cell? ⟨z.R,1,ν⟩=μ (σ (μ ⟨z.g,0,ν⟩) r.n z.cap):=h.m9.cell 1
theorem k8.c2 {z:Zt} (h:k8 w z r):w.cell? ⟨z.R,2,ν⟩=μ (π (μ ⟨z.Bb,0,ν⟩)):=h.m9.cell 2
theorem k8.c3 {z:Zt} (h:k8 w z r):w.cell? ⟨z.R,3,ν⟩=μ z.iv:=h.m9.cell 3
theorem k8.c4 {z:Zt} (h:k8 w z r):w.cell? ⟨z.R,4,ν⟩=μ (ι κ r.drop):=h.m9.cell 4
theorem k8.lt {w:dN} {z:Zt} {r:iy} (h:k8 w z r):z.R<w.heap.size:=h.m9.lt
theorem k8.DK {z:Zt} (h:k8 w z r):z.g<w.heap.size:=(h.pt 0 h.n1).lt
def hasB(i:Int)(n:Nat):Bool:=decide (0<=i)&&decide (i<(n:Int))
theorem rX(h:i<n):hasB (i:Int) n=true:=by simp[hasB];omega
theorem J5(i:Int)(n:Nat):hasB i n=false \/ ∃k:Nat,k<n/\i=(k:Int):=by
 by_cases Z:0<=i
 ·by_cases Y:i<(n:Int)
  ·exact .inr ⟨i.toNat,dP,dP⟩
  ·exact .inl (by simp[hasB,Y])
 ·exact .inl (by simp[hasB,Z])
theorem ug(z:Zt)(r:iy)(i:Int)(w:dN)(h:k8 w z r):
 eM eN 72 #[π (μ ⟨z.R,0,ν⟩),ι κ i] w λe w'=>e=ρ (.bool (hasB i r.n))/\w=w':=by
 have hl:=h.lt;have c1:=h.c1;unfold hasB;by_cases Z:0<=i
 ·by_cases Y:i<(r.n:Int)
  ·have hv:(decide (0<=i)&&decide (i<(r.n:Int)))=true:=by simp[Z,Y]
   rw[hv];clear hv h
   go_in
   go_wp2
   go_ret;exact⟨by first|rfl|(simp;omega),rfl⟩
  ·have hv:(decide (0<=i)&&decide (i<(r.n:Int)))=false:=by simp[Y]
   rw[hv];clear hv h
   go_in
   go_wp2
   go_ret;exact⟨by first|rfl|(simp;omega),rfl⟩
 ·have hv:(decide (0<=i)&&decide (i<(r.n:Int)))=false:=by simp[Z]
  rw[hv];clear hv h
  go_in
  go_wp2
  go_ret;exact⟨by first|rfl|(simp;omega),rfl⟩
theorem abb(z:Zt)(r:iy)(i:Nat)(w:dN)(h:k8 w z r)(hi:i<r.n):
 eM eN 60 #[π (μ ⟨z.R,0,ν⟩),ι κ (i:Int)] w λe w'=>e=ρ (τ #[ι κ (r.P i).L.st,η])/\w=w':=by
 have hh:=ug z r i w h;rw[rX hi]at hh;have hl:=h.lt;have c1:=h.c1;have g1:=(h.pt i hi).c1;have gl:=h.DK;have hs:=yu (z.B i) _ (r.P i).L _ [] w (pK.rest (h.pt i hi).lk);have kV:(i:Int)<(r.n:Int):=dP;have Jv:(0:Int)<=(i:Int):=dP;clear h
 go_in
 go_wp2_with(fail);refine hh.mono ?_;rintro e w1 ⟨rfl,rfl⟩;clear hh;go_wp2_with(fail);refine hs.mono ?_;rintro e w1 ⟨rfl,rfl⟩;clear hs
 go_wp2
 go_ret2
 exact⟨rfl,rfl⟩
theorem QQ(z:Zt)(r:iy)(i:Nat)(w:dN)(h:k8 w z r)(hi:i<r.n):
 eM eN 61 #[π (μ ⟨z.R,0,ν⟩),.int .i64 (i:Int)] w λe w'=>e=ρ (τ #[.agg #[.int .i64 (r.P i).pe.who,.bool (r.P i).pe.both,.int .i64 (r.P i).pe.left],η])/\dV w w':=by
 have hb:=gM w (γ #[ι κ 0,.bool false,ι κ 0] 116);have Z:=gM w (γ #[.int .i64 (r.P i).pe.who,.bool (r.P i).pe.both,.int .i64 (r.P i).pe.left] 116);have hh:=ug z r i _ (h.below hb);rw[rX hi]at hh;have hz:=xf;have hl:=h.lt;have c1:=h.c1;have g1:=(h.pt i hi).ZB;have g2:=(h.pt i hi).T9;have g3:=(h.pt i hi).ZC;have gl:=h.DK;have kV:(i:Int)<(r.n:Int):=dP;have Jv:(0:Int)<=(i:Int):=dP;clear h
 go_in
 go_wp2_with(fail);refine hh.mono ?_;rintro e w1 ⟨rfl,rfl⟩;clear hh;go_wp2_with(fail);refine aA (v:=τ #[.agg #[.int .i64 (r.P i).pe.who,.bool (r.P i).pe.both,.int .i64 (r.P i).pe.left],η]) (by simp[results,results61,go_sem]) rfl ?_;exact⟨rfl,Z⟩
theorem Hg(z:Zt)(r:iy)(w:dN)(h:k8 w z r):
 eM eN 50 #[π (μ ⟨z.R,0,ν⟩)] w λe w'=>∃a n cap S E,e=ρ (σ a n cap)/\vm w' a n S E/\tk r.K n S E/\n<=6/\aa2 w a n cap S/\dV w w':=by
 have hl:=h.lt;have c1:=h.c2;have hs:=zq z.Bb z.fm 6 r.K r.O w h.bs;clear h
 go_in
 go_wp2_with(fail);refine hs.mono ?_;rintro e w1 ⟨a,n,cap,S,E,rfl,Z,Y,X,V,U⟩;clear hs;have H:Hid _:=fD Z (fD Y (fD X (fD V U)));clear Z Y X V U
 go_wp2
 go_ret
 first|exact⟨a,n,cap,S,E,rfl,H.out⟩|exact⟨a,n,cap,⟨S,E,rfl,H.out⟩⟩
end Rt
variable {ao:Option Addr} {cp j k lo:Nat} {o:Obj} {ok:List jv} {u v:Value} {w w1 wr x1:World}
theorem sO {b:Nat} (Y:∀k,v.ownBlock=μ k->lo+2<=k)(Z:(wr.alloc o).drew.grownBy x1 v.ownBlock)(hb:b<lo+2)(X:b<wr.heap.size):x1.heap[b]? =wr.heap[b]? :=by
 rw[Z.block b (by show b<(wr.alloc o).heap.size;simp;omega) (λe=>by have:=Y b e.symm;omega)];exact aQ wr o b X
theorem Nw(Y:∀k,v.ownBlock=μ k->lo+2<=k)(Z:(wr.alloc o).drew.grownBy x1 v.ownBlock)(hc:wr.cell? ⟨lo+1,j,ν⟩=μ u):x1.cell? ⟨lo+1,j,ν⟩=μ u:=by
 have X:lo+1<wr.heap.size:=af wr _ hc;rw[ai (w:=wr) (a:=⟨lo+1,j,ν⟩) (sO (b:=lo+1) Y Z dP X)];exact hc
theorem Hh(Y:∀k,v.ownBlock=μ k->lo+2<=k)(Z:(wr.alloc o).drew.grownBy x1 v.ownBlock)(hc:wr.cell? ⟨lo+1,j,ν⟩=μ u)(hf:wr.frozen? ⟨lo+1,j,ν⟩=false):x1.frozen? ⟨lo+1,j,ν⟩=false:=by
 have X:lo+1<wr.heap.size:=af wr _ hc;rw[aH (w:=wr) (a:=⟨lo+1,j,ν⟩) (sO (b:=lo+1) Y Z dP X)];exact hf
theorem Bz(s:ByteArray)(k:Nat)(h:k<s.size):s.data.toList.drop k=s[k] ::s.data.toList.drop (k+1):=by
 rw[aO (by simpa using h)];rfl
theorem xC(Y:wr.heap[w.heap.size]? =μ (γ #[ι κ 0,ι κ 0,σ ν 0 0] 40 (0,0)))(hb:dV wr w1):
 w1.cell? ⟨w.heap.size,0,ν⟩=μ (ι κ 0)/\w1.cell? ⟨w.heap.size,1,ν⟩=μ (ι κ 0)/\w1.cell? ⟨w.heap.size,2,ν⟩=μ (σ ν 0 0)/\∀j,w1.frozen? ⟨w.heap.size,j,ν⟩=false:=by
 have X:w.heap.size<wr.heap.size:=(au.1 Y).1;have Z:w1.heap[w.heap.size]? =μ (γ #[ι κ 0,ι κ 0,σ ν 0 0] 40 (0,0)):=by rw[hb.block _ X];exact Y
 exact⟨ar w1 _ 0 _ 40 (0,0) Z,ar w1 _ 1 _ 40 (0,0) Z,ar w1 _ 2 _ 40 (0,0) Z,λj=>bh w1 _ j _ 40 Z⟩
theorem QR(x y k:Nat)(hx:x<2^k)(hs:2^k*y+x<2^62):bits .or .i64 (x:Int) ((2^k*y:Nat):Int)=((2^k*y+x:Nat):Int):=by
 have Z:(eO 64 (x:Int)|||BitVec.ofInt 64 ((2^k*y:Nat):Int)).toNat=2^k*y+x:=by
  rw[BitVec.toNat_or,fX,fX,fY,fY,Nat.mod_eq_of_lt dP,Nat.mod_eq_of_lt dP,Nat.or_comm];exact(Nat.two_pow_add_eq_or_of_lt hx y).symm
 show fC.wrap ((eO 64 (x:Int)|||BitVec.ofInt 64 ((2^k*y:Nat):Int)).toNat:Int)=_;rw[Z,IntKind.wrap_i64];omega
theorem aft(x y:Nat)(hx:x<256)(hy:y<256):bits .or .i64 (x:Int) ((y:Int)*(256:Int))=(x:Int)+(256:Int)*(y:Int):=by
 have h:=QR x y 8 dP dP;have e:((2^8*y:Nat):Int)=(y:Int)*256:=dP;rw[e]at h;rw[h];omega
theorem afu(x y:Nat)(hx:x<65536)(hy:y<256):bits .or .i64 (x:Int) ((y:Int)*(65536:Int))=(x:Int)+(65536:Int)*(y:Int):=by
 have h:=QR x y 16 dP dP;have e:((2^16*y:Nat):Int)=(y:Int)*65536:=dP;rw[e]at h;rw[h];omega
def yE(E:Nat->dO)(l:List UInt8)(w:dN)(e:Ending)(w':dN):Prop:=
 ∃(a:Option Addr) (n cap f:Nat) (own seq:Int) (os:List jv),e=ρ (τ #[.agg #[ι κ own,ι κ seq,σ a n cap],E f])/\iK w' a n os/\n<=cap/\ik l=(own,seq,os,f)/\dV w w'/\kd a cap
theorem zt(s:ByteArray)(Q:Int)(h4:4<=s.size)(heq:s.size%2=0)(Z:(s[1].toNat:Int)+(256:Int)*(s[2].toNat:Int)+(65536:Int)*(s[3].toNat:Int)=Q):
 ik s.data.toList=if ox (s[0].toNat:Int) Q (pairs (s.data.toList.drop 4))=0 then((s[0].toNat:Int),Q,pairs (s.data.toList.drop 4),0)else(0,0,[],4):=by
 have hl:s.data.toList.length=s.size:=gN;have Y:Gh s.data.toList=Q:=by
  unfold Gh;rw[mU s 1 dP,mU s 2 dP,mU s 3 dP,Z]
 unfold ik;rw[Y,mU s 0 dP,hl,ae dP]
theorem DL {x y z:dO} (Y:Row w1 2 (σ ao k cp) k (iG ok))(X:∀j,dQ (σ ao k cp)=μ j->w.heap.size+2<=j)(hb:dV w w1):
 iK (((w1.setCell ⟨w.heap.size,0,ν⟩ x).setCell ⟨w.heap.size,1,ν⟩ y).setCell ⟨w.heap.size,2,ν⟩ z) ao k ok/\dV w (((w1.setCell ⟨w.heap.size,0,ν⟩ x).setCell ⟨w.heap.size,1,ν⟩ y).setCell ⟨w.heap.size,2,ν⟩ z):=by
 refine⟨Row.opts (Y.keep gN (λj Z=> ?_)),((hb.setCell (Nat.le_refl _) _).setCell (Nat.le_refl _) _).setCell (Nat.le_refl _) _⟩;have:=X j Z;rw[ak _ _ _ _ (by show j≠w.heap.size;omega),ak _ _ _ _ (by show j≠w.heap.size;omega),ak _ _ _ _ (by show j≠w.heap.size;omega)]
theorem C8(w:dN)(a b:Obj):((w.alloc a).alloc b).drew.heap[w.heap.size+1]? =μ b:=by
 have h:=aS (w.alloc a) b;have e:(w.alloc a).heap.size=w.heap.size+1:=gN;rw[e]at h;exact h
theorem BA(w:dN)(a b:Obj):((w.alloc a).alloc b).drew.heap[w.heap.size]? =μ a:=by
 show((w.alloc a).alloc b).heap[w.heap.size]? =μ a;rw[aQ (w.alloc a) b w.heap.size gN];exact aS w a
theorem J6 {ob:Obj} {g' jd:Nat} {c d:Int} {x y:Nat}
 (U:wr.heap[w.heap.size+1]? =μ (γ #[ι κ c,ι κ d,σ ao k cp] 40 (0,0)))
 (Q:wr.heap[w.heap.size]? =μ (γ #[ι κ 0,ι κ 0,σ ν 0 0] 40 (0,0)))
 (_hrow:Row wr 2 (σ ao k cp) k (iG ok)) (Y:∀j,dQ (σ ao k cp)=μ j->w.heap.size+2<=j) (S:dV w wr)
 (T:Row x1 2 (σ (μ ⟨g',0,ν⟩) (k+1) jd) (k+1) (iG ok++ [ι κ (fC.wrap (x:Int)),ι κ (fC.wrap (y:Int))]))
 (X:(wr.alloc ob).drew.grownBy x1 (dQ (σ ao k cp))) (J:dQ (σ ao k cp)=μ g' \/(wr.alloc ob).drew.heap.size<=g') (hx:x<2^8) (hy:y<2^8):
 Row (x1.setCell ⟨w.heap.size+1,2,ν⟩ (σ (μ ⟨g',0,ν⟩) (k+1) jd)) 2 (σ (μ ⟨g',0,ν⟩) (k+1) jd) (k+1) (iG (ok++ [((x:Int),(y:Int))]))/\
 (x1.setCell ⟨w.heap.size+1,2,ν⟩ (σ (μ ⟨g',0,ν⟩) (k+1) jd)).heap[w.heap.size+1]? =μ (γ #[ι κ c,ι κ d,σ (μ ⟨g',0,ν⟩) (k+1) jd] 40 (0,0))/\
 (x1.setCell ⟨w.heap.size+1,2,ν⟩ (σ (μ ⟨g',0,ν⟩) (k+1) jd)).heap[w.heap.size]? =μ (γ #[ι κ 0,ι κ 0,σ ν 0 0] 40 (0,0))/\
 (∀j,dQ (σ (μ ⟨g',0,ν⟩) (k+1) jd)=μ j->w.heap.size+2<=j)/\dV w (x1.setCell ⟨w.heap.size+1,2,ν⟩ (σ (μ ⟨g',0,ν⟩) (k+1) jd)):=by
 have H:w.heap.size+1<wr.heap.size:=(au.1 U).1;have k1:=sO (b:=w.heap.size+1) Y X dP H;have k0:=sO (b:=w.heap.size) Y X dP dP;have VH:(wr.alloc ob).drew.heap.size=wr.heap.size+1:=by show(wr.alloc ob).heap.size=_;simp
 have I8:w.heap.size+2<=g':=by
  rcases J with h|h
  ·exact Y g' h
  ·omega
 have V:x1.heap[w.heap.size+1]? =μ (γ #[ι κ c,ι κ d,σ ao k cp] 40 (0,0)):=by rw[k1];exact U
 refine⟨?_,?_,?_,?_,?_⟩
 ·have ex:fC.wrap (x:Int)=(x:Int):=aM _ ⟨dP,dP⟩;have M:fC.wrap (y:Int)=(y:Int):=aM _ ⟨dP,dP⟩;rw[ex,M,<-lZ ok ((x:Int),(y:Int))]at T;refine T.keep gN (λj Z=> ?_);have:g'=j:=by simpa[dQ]using Z
  exact ak _ _ _ _ (by show j≠w.heap.size+1;omega)
 ·rw[bB x1 (w.heap.size+1) 2 _ 40 (0,0) _ V];exact ch x1 _ _ _ 40 (0,0) V
 ·rw[ak _ _ _ _ (by show w.heap.size≠w.heap.size+1;omega),k0];exact Q
 ·intro j Z;have:g'=j:=by simpa[dQ]using Z
  omega
 ·have G:dV w (wr.alloc ob).drew:=(S.alloc S.size _).drew;refine a8 ?_ (by show w.heap.size<=w.heap.size+1;omega) _;refine G.grown X dP (λj Z=> ?_);have:=Y j Z;omega
theorem J7(s:ByteArray)(w:dN)(h4:4<=s.size)(hs:s.size<=16)(heq:s.size%2=0):
 eM eN 188 #[.string s] w λe w'=>yE iP s.data.toList w e w':=by
 obtain⟨i0,hi,nH,l8,mZ⟩:=aT AZ;have hz:=oy;have g1:¬(s.size:Int)<4:=dP;have g2:¬(16:Int)<(s.size:Int):=dP;have g3:(((s.size:Int)-4) %2 !=0)=false:=by rw[bne_eq_false_iff_eq];omega
 have h:Hid _:=heq;clear heq;have b0:0<s.size:=dP;have b1:1<s.size:=dP;have b2:2<s.size:=dP;have b3:3<s.size:=dP;have vT:=s[0].toNat_lt;have Y:=s[1].toNat_lt;have lR:=s[2].toNat_lt;have rO:=s[3].toNat_lt;have z0:(0:Int)<(s.size:Int):=dP;have z1:(1:Int)<(s.size:Int):=dP;have z2:(2:Int)<(s.size:Int):=dP;have z3:(3:Int)<(s.size:Int):=dP;obtain⟨Q,hQ⟩:∃Q:Int,(s[1].toNat:Int)+(256:Int)*(s[2].toNat:Int)+(65536:Int)*(s[3].toNat:Int)=Q:=⟨_,rfl⟩
 have ho1:=aft s[1].toNat s[2].toNat dP dP;have Ue:bits .or .i64 ((s[1].toNat:Int)+(256:Int)*(s[2].toNat:Int)) ((s[3].toNat:Int)*(65536:Int))=Q:=by
  have:=afu (s[1].toNat+256*s[2].toNat) s[3].toNat dP dP;push_cast at this;rw[this,hQ]
 have V:Hid _:=hQ
 go_in
 go_wp2
 go_region
 go_wp2_with(fail)
 try rw[V.out]
 try clear hQ
 try clear ho1
 try clear Ue
 obtain⟨Z,WG⟩:∃Z:Int,(s[0].toNat:Int)=Z:=⟨_,rfl⟩
 have S:Hid _:=WG;rw[WG];clear WG vT Y lR rO
 go_loopw [5] (λi wr=>∃(k cp:Nat) (ao:Option Addr) (ok:List jv),4+2*k<=s.size/\i=ι κ ((4+2*k:Nat):Int)/\ok.length=k/\pairs (s.data.toList.drop 4)=ok++pairs (s.data.toList.drop (4+2*k))/\Row wr 2 (σ ao k cp) k (iG ok)/\
  wr.heap[w.heap.size+1]? =μ (γ #[ι κ Z,ι κ Q,σ ao k cp] 40 (0,0))/\wr.heap[w.heap.size]? =μ (γ #[ι κ 0,ι κ 0,σ ν 0 0] 40 (0,0))/\
  (∀j,dQ (σ ao k cp)=μ j->w.heap.size+2<=j)/\dV w wr)
  (λi _=>s.size-(intOf i).toNat)
 case atStart=>
  refine⟨0,0,ν,[],dP,rfl,rfl,rfl,Row.nil _ _,?_,?_,λj hj=>by simp[dQ]at hj,(((aq _ _).alloc (Nat.le_refl _) _).alloc gN _).drew⟩
  ·exact C8 w _ _
  ·exact BA w _ _
 case round=>
  obtain⟨k,cp,ao,ok,hk,rfl,iC,H,X,G,JI,A,iA⟩:=hrel;have hP:Hid _:=H;clear H;have cv:wr.cell? ⟨w.heap.size+1,2,ν⟩=μ (σ ao k cp):=ar wr _ 2 _ 40 (0,0) G;have fv:wr.frozen? ⟨w.heap.size+1,2,ν⟩=false:=bh wr _ 2 _ 40 G;have TK:w.heap.size+1<wr.heap.size:=af wr _ cv;have Xe:Hid _:=G;have Xf:Hid _:=JI;clear G JI;by_cases kc:4+2*k<s.size
  ·have CY:4+2*k+1<s.size:=by have:=h.out;omega
   obtain⟨q,D⟩:∃q,q=4+2*k:=⟨_,rfl⟩
   rw[<-D]at kc CY;have E:Hid _:=D;have y0:(0:Int)<=(q:Int):=dP;have y1:(q:Int)<(s.size:Int):=dP;have y2:(q:Int)+1<(s.size:Int):=dP;have y3:(0:Int)<=(q:Int)+1:=dP;have yw:fC.wrap ((q:Int)+1)=(q:Int)+1:=aM _ ⟨dP,dP⟩;have hbq:=s[q].toNat_lt;have ae6:=s[q+1].toNat_lt;have m1:k+1<=maxLen:=by unfold maxLen;omega
   have bb1:(k+1)*16<=140737488355328:=dP;rw[<-D];clear D;have HP2:Hid (pairs (s.data.toList.drop 4)=(ok++ [((s[q].toNat:Int),(s[q+1].toNat:Int))])++pairs (s.data.toList.drop (4+2*(k+1)))):=by
    show pairs (s.data.toList.drop 4)=_;rw[hP.out,<-E.out,Bz s q kc,Bz s (q+1) CY];have T:q+1+1=4+2*(k+1):=by have:=E.out;omega
    rw[T];simp[pairs]
   go_wp2
   go_region_law ((refine kQ (by rfl) (.tmp 47) (.tmp 58) 38 (by rfl) 123 i0 (.agg #[ι κ 0,ι κ 0]) 2 16 underlying38 hi nH l8 mZ (by rfl) dS (σ ao k cp) k (iG ok) (by rfl) ((X.alloc _).drew) _ 1 1 [ι κ (fC.wrap (s[q].toNat:Int)),ι κ (fC.wrap (s[q+1].toNat:Int))] (by rfl) (by rfl) dS (Bw _ _ _ _) (kX _ _ _ _) m1 bb1 ?_;intro g' jd x1 kD t jj;have c1:=Nw A t cv;have f1:=Hh A t cv fv))
   all_goals have hS:=J6 (c:=Z) (d:=Q) Xe.out Xf.out X A iA kD t jj s[q].toNat_lt s[q+1].toNat_lt
   all_goals clear kD t jj c1 f1
   all_goals go_wp2_with(fail)
   all_goals go_roundw
   all_goals first
    |exact⟨k+1,jd,some ⟨g',0,none⟩,_,by have:=E.out;omega,by have:=E.out;go_num,by simp[iC],HP2.out,hS⟩
    |(simp[intOf];omega)
  ·have Zh:4+2*k=s.size:=dP;have Qj:pairs (s.data.toList.drop 4)=ok:=by
    rw[hP.out,Zh,aU (by show s.size<=s.size;omega)];simp[pairs]
   have vQ:=X.opts;have Aj:k<=cp/\kd ao cp:=⟨X.Pc,λe=>by
    rcases X.2 with⟨T,_⟩|⟨g,c,T,_⟩
    ·exact(bC T).2.2
    ·rw[e]at T;cases (bC T).1⟩
   have c0:wr.cell? ⟨w.heap.size+1,0,ν⟩=μ (ι κ Z):=ar wr _ 0 _ 40 (0,0) Xe.out;have c1:wr.cell? ⟨w.heap.size+1,1,ν⟩=μ (ι κ Q):=ar wr _ 1 _ 40 (0,0) Xe.out;have U:=vP Z Q ao k cp ok wr dP vQ;have HK:Hid _:=Qj;clear hP Qj Zh;by_cases hf:ox Z Q ok=0
   ·have M:iP 0=η:=rfl;rw[hf,M]at U;clear M;have HF:Hid _:=hf;clear hf;go_wp2_with(fail);refine U.mono ?_;rintro e w1 ⟨rfl,Y⟩;have d0:=(Y.cell (p:=⟨w.heap.size+1,0,ν⟩) TK).trans c0;have d1:=(Y.cell (p:=⟨w.heap.size+1,1,ν⟩) TK).trans c1;have d2:=(Y.cell (p:=⟨w.heap.size+1,2,ν⟩) TK).trans cv;obtain⟨r0,r1,r2,r3⟩:=xC Xf.out Y;have uT:=gD iA Y;have J:=DL (x:=ι κ Z) (y:=ι κ Q) (z:=σ ao k cp) (X.below Y) A uT;have HV:Hid (ik s.data.toList=(Z,Q,ok,0)):=by
     show ik s.data.toList=_;rw[zt s Q h4 h.out V.out,S.out,HK.out,ag HF.out]
    clear U Y c0 c1 cv X;go_wp2_with(fail);refine aA (v:=τ #[.agg #[ι κ Z,ι κ Q,σ ao k cp],η]) (by simp[results,results188,go_sem,r0,r1,r2]) rfl ?_;exact⟨ao,k,cp,0,_,_,ok,rfl,J.1,Aj.1,HV.out,J.2,Aj.2⟩
   ·have M:iP (ox Z Q ok)=.iface 128 (ι κ (ox Z Q ok:Int)):=by simp[iP,hf]
    rw[M]at U;clear M;have HF:Hid _:=hf;clear hf;have HV:Hid (ik s.data.toList=(0,0,[],4)):=by
     show ik s.data.toList=_;rw[zt s Q h4 h.out V.out,S.out,HK.out,ae HF.out]
    generalize ox Z Q ok=ff at U;go_wp2_with(fail);refine U.mono ?_;rintro e w1 ⟨rfl,Y⟩;obtain⟨r0,r1,r2,r3⟩:=xC Xf.out Y;have uT:=gD iA Y;have J:=DL (ok:=[]) (ao:=ν) (k:=0) (cp:=0) (x:=ι κ 0) (y:=ι κ 0) (z:=σ ν 0 0) (Row.nil w1 2) (λj hj=>by simp[dQ]at hj) uT;clear U Y c0 c1 cv X vQ;go_wp2_with(fail);refine aA (v:=τ #[.agg #[ι κ 0,ι κ 0,σ ν 0 0],.iface 128 (ι κ 4)]) (by simp[results,results188,go_sem,r0,r1,r2]) rfl ?_;exact⟨ν,0,0,4,0,0,[],rfl,J.1,Nat.le_refl _,HV.out,J.2,λ_=>rfl⟩
theorem Nx(s:ByteArray)(w:dN)(hs:s.size<=maxLen)(h:ik s.data.toList=(0,0,[],4))(hb:s.size<4 \/16<s.size \/s.size%2=1):
 eM eN 188 #[.string s] w λe w'=>yE iP s.data.toList w e w':=by
 have hz:=oy;have Z:Hid _:=h;clear h;unfold maxLen at hs;have V:=gM w (γ #[ι κ 0,ι κ 0,σ ν 0 0] 40);have X:iK (w.alloc (γ #[ι κ 0,ι κ 0,σ ν 0 0] 40)) ν 0 [] :=⟨rfl,.inl rfl⟩
 have g0:(0:Int)<=(s.size:Int):=dP;rcases(show s.size<4 \/(4<=s.size/\16<s.size) \/(4<=s.size/\s.size<=16/\s.size%2=1) by omega)with Y|Y|Y
 ·have g1:(s.size:Int)<4:=dP
  go_in
  go_wp2_with(fail);refine aA (v:=τ #[.agg #[ι κ 0,ι κ 0,σ ν 0 0],.iface 128 (ι κ 4)]) (by simp[results,results188,go_sem]) rfl ?_;exact⟨ν,0,0,4,0,0,[],rfl,X,Nat.le_refl _,Z.out,V,λ_=>rfl⟩
 ·have g1:¬(s.size:Int)<4:=dP;have U:(16:Int)<(s.size:Int):=dP
  go_in
  go_wp2_with(fail);refine aA (v:=τ #[.agg #[ι κ 0,ι κ 0,σ ν 0 0],.iface 128 (ι κ 4)]) (by simp[results,results188,go_sem]) rfl ?_;exact⟨ν,0,0,4,0,0,[],rfl,X,Nat.le_refl _,Z.out,V,λ_=>rfl⟩
 ·have g1:¬(s.size:Int)<4:=dP;have U:¬(16:Int)<(s.size:Int):=dP;have g3:(((s.size:Int)-4) %2 !=0)=true:=by rw[bne_iff_ne];omega
  clear hb Y
  go_in
  go_wp2_with(fail);refine aA (v:=τ #[.agg #[ι κ 0,ι κ 0,σ ν 0 0],.iface 128 (ι κ 4)]) (by simp[results,results188,go_sem]) rfl ?_;exact⟨ν,0,0,4,0,0,[],rfl,X,Nat.le_refl _,Z.out,V,λ_=>rfl⟩
theorem BD(s:ByteArray)(w:dN)(hs:s.size<=maxLen):eM eN 188 #[.string s] w λe w'=>yE iP s.data.toList w e w':=by
 have hl:s.data.toList.length=s.size:=gN;by_cases Z:s.size<4 \/16<s.size \/s.size%2=1
 ·refine Nx s w hs ?_ Z;by_cases h16:16<s.size
  ·exact Gi _ dP
  ·unfold ik;rw[hl,ag dP]
 ·exact J7 s w dP dP dP
