import Derived.Test.YtieklnlbljejdaaGreatDoorM08
open Go.Value renaming int → ι, slice → σ, pointer → π, tuple → τ, nilIface → η
open Go.IntKind renaming i64 → κ
open Go.Ending renaming returned → ρ
open Go.Obj renaming cells → γ
open Option renaming none → ν, some → μ
open List renaming length_append → fB, length_cons → eZ
open Go renaming Value → dZ, World → dY, Calls → eW
open Go.Proofs.Tryz renaming prog → eX
open Go.Value renaming ownBlock → eu, int → eB
open Go.Instr renaming loadAt → fN
open Go.Sem renaming run_bind → fP
open Go.RowKit renaming intOf → eY
set_option maxRecDepth 100000
set_option maxHeartbeats 4000000
namespace Go.Proofs.YtieklnlbljejdaaGreatDoor
open Go.RowKit St
namespace Rt
variable {B g i j k n o:Nat} {F:Nat->Value} {K:Int->Option PS} {P:Nat->jw} {Q:Exit->Act->World->Prop} {a b c w w' w1:World} {id:Int} {ops:Array Oper} {out:List kM} {p:jw} {r r':iM} {v:Value}
theorem Hm(L:LS):(jd L).2.length<=12:=by
 unfold jd;have h1:=Hf L;have h2:=zx (kj L) 1;have h3:=zx (kY (kj L) 1).1 0;split
 ·simp only[fB];omega
 ·simp only;omega
theorem Ra(g o B:Nat)(v:dZ)(p:jw)(w:dY)(h:qz w g o B v p)(M:jf w)(D:p.out.length<=800000000):
 eW eX 82 #[π (μ ⟨g,o,ν⟩)] w λe w'=>e=ρ (τ #[])/\lO w w' g o B v p.tick:=by
 have G:=BX.tick h M;have c1:=h.c1;have hl:=h.lt;have hlen:=Hm p.L;clear h
 go_in
 go_wp2_with(fail);refine G.mono ?_;rintro e w1 ⟨rfl,V⟩;have H:=V.state;obtain⟨d1,dl⟩:=V.ptr;clear G c1 hl;go_wp2_with(fail);refine H.mono ?_;rintro e w2 ⟨rfl,rfl⟩;clear H;cases E:((kj p.L).st==3)
 ·have T:(kj p.L).st≠3:=by simpa using E
  have Z:jd p.L=(kj p.L,lM p.L):=by unfold jd;rw[af T]
  have X:p.tick=({p with L:=kj p.L}:jw).say (lM p.L):=by unfold jw.tick;rw[Z]
  rw[Z]at hlen;have hs:=V.say (by simp only at hlen;omega) D;rw[<-X]at hs;have A:Hid _:=X;clear Z X T V;go_wp2_with(fail);refine hs.mono ?_;rintro e u ⟨rfl,J⟩;clear hs
  go_wp2
  first|go_end0|refine iJ rfl rfl ?_
  exact⟨rfl,J⟩
 ·have T:(kj p.L).st=3:=by simpa using E
  have l1:=Hf p.L;have l2:=zx (kj p.L) 1;have S:=V.do_ M eh 1;have Z:jd p.L=((kY (kY (kj p.L) 1).1 0).1,lM p.L++(kY (kj p.L) 1).2.1++(kY (kY (kj p.L) 1).1 0).2.1):=by unfold jd;rw[ai T]
  have X:p.tick=({p with L:=(kY (kY (kj p.L) 1).1 0).1}:jw).say (lM p.L++(kY (kj p.L) 1).2.1++(kY (kY (kj p.L) 1).1 0).2.1):=by unfold jw.tick;rw[Z]
  rw[Z]at hlen;have A:Hid _:=X;clear Z X T V;go_wp2_with(fail);refine S.mono ?_;rintro e u ⟨rfl,Y⟩;have y:=Y.do_ M (by simp only[fB];omega) 0;obtain⟨f1,fl⟩:=Y.ptr;clear S Y;go_wp2_with(fail);refine y.mono ?_;rintro e w4 ⟨rfl,U⟩;have hs:=U.say (Nat.le_trans (show _<=12 from hlen) eA) D;clear y U;go_wp2_with(fail);refine hs.mono ?_;rintro e w5 ⟨rfl,J⟩;clear hs
  go_wp2
  first|go_end0|refine iJ rfl rfl ?_
  refine⟨rfl,?_⟩;rw[A.out];exact J
theorem ab3(ev:Int)(T:ev=0 \/ev=1)(B:Nat)(X:Nat->Prop)(s:LS)(v:dZ)(ps:List PV)(w:dY)(V:jf w)(h:rI w B X s v ps)(hf:(kY s ev).2.2≠0):
 eW eX 120 #[π (μ ⟨B,0,ν⟩),ι κ ev] w λe w'=>e=ρ (.iface 128 (ι κ ((kY s ev).2.2:Int)))/\eE w w':=by
 have hz:=sG;have ed:kY s ev=sW s ev (0,0,[]):=by unfold kY;rw[ai eh]
 rw[ed]at hf⊢;have Z:(jh s.st ev).2.2≠0:=λe=>hf (by rw[tO _ e]);rw[wa _ Z];obtain⟨D,nx,f,Y⟩:∃D nx f,jh s.st ev=(D,nx,f):=⟨_,_,_,rfl⟩
 rw[Y]at Z⊢;have hc:=O6 B X s v ps ⟨0,0,ν,0,0,[]⟩ ev D nx f w V h Y Z;clear h V Y Z hf ed;rcases T with rfl|rfl
 all_goals
  go_in
  go_wp2_with(fail);refine hc.mono ?_;rintro e w1 ⟨rfl,U⟩;clear hc
  go_wp2
  go_ret;exact⟨rfl,U⟩
theorem U7(p:jw)(B:Nat)(v:dZ)(F G:Nat->dZ)(r:kC):∀j,j<71->(if 2<=j/\j<2+65 then G (j-2)else xk p B v F j)=xk {p with rd:=r} B v G j:=by
 intro j hj;by_cases e:2<=j/\j<2+65
 ·rw[ai e];unfold xk;rw[af eh,af eh,ai eh]
 ·rw[af e];unfold xk;by_cases Y:j=0
  ·simp[Y]
  ·by_cases Z:j=1
   ·simp[Z]
   ·have X:¬j<67:=eh;simp[Y,Z,X]
theorem BX.read {w2:dY} (h:BX w w1 g o B v p out)(r:kC)(H:Rd w2 g (o+2) r.1 r.2.1 r.2.2)(Y:lh w1 w2 g (o+2) 65):BX w w2 g o B v {p with rd:=r} out:=by
 obtain⟨M,qs,Z,J⟩:=h.ex;obtain⟨F,hC,hF⟩:=Z.xm;obtain⟨G,E,X⟩:=H;have V:Kept w1 w2 g ν:=⟨Y.os,Y.tape,Y.output,Y.size,λi hi T _=>Y.block i hi T⟩
 have hl:=hC.lt eA;refine⟨⟨M,qs,⟨⟨G,(hC.join Y E).congr (U7 p B v F G r),X⟩,Z.rep.far V Z.xg (λe=>Z.gB e.symm),Z.ou.keep Y.size (λk U=>Y.block k (Z.ou.lt k U) (λe=>Z.vg (by rw[U,e]))),Z.few,Z.ok,Z.gB,Z.vg,Z.vB,Z.nz,Z.xg,Z.xv⟩,J⟩,?_⟩;refine h.kept.trans (v':=v) ⟨Y.os,Y.tape,Y.output,Y.size,λi hi S _ _=>Y.block i hi S,λj hj=>Y.cell j eh,Y.fz⟩ (λ_ e=>.inl e)
theorem BX.rdC(h:BX w w1 g o B v p out):∃F,qp w1 g (o+2) 65 F/\Df F p.rd.1 p.rd.2.1 p.rd.2.2:=by
 obtain⟨vl,qs,Z,ho⟩:=h.ex;obtain⟨F,hC,hF⟩:=Z.xm;refine⟨F,(hC.sub 2 65 eA).congr (λj hj=> ?_),hF⟩;unfold xk;rw[af eh,af eh,ai eh,show 2+j-2=j by omega]
theorem Rb(up:Bool)(g o B:Nat)(v:dZ)(p:jw)(w:dY)(h:qz w g o B v p)(U:jf w)(M:p.out.length<=800000000):
 eW eX 73 #[π (μ ⟨g,o,ν⟩),.bool up] w λe w'=>e=ρ (jm (p.iL up).2)/\lO w w' g o B v (p.iL up).1:=by
 obtain⟨ev,Z⟩:∃ev:Int,(if up=true then(0:Int)else 1)=ev:=⟨_,rfl⟩
 have V:ev=0 \/ev=1:=by rw[<-Z];cases up<;>simp
 have c1:=h.c1;have hl:=h.lt;by_cases hf:(kY p.L ev).2.2=0
 ·have Y:p.iL up=(({p with L:=(kY p.L ev).1,rd:=([],false,false)}:jw).say (kY p.L ev).2.1,0):=by
   unfold jw.iL;rw[Z];simp only;rw[af (by simpa using hf)]
  rw[Y];have hd:=h.begin.do_ U gY ev;rw[hf]at hd;have S:jm 0=η:=rfl;rw[S]at hd⊢;have hlen:=zx p.L ev;have hz:=Ur.1;have hZ:=zw;have HE:Hid _:=Y;clear Y hf h;cases up
  all_goals
   simp only[if_true,if_false,Bool.false_eq_true]at Z;subst Z
   go_in
   go_wp2_with(fail);refine hd.mono ?_;rintro e w1 ⟨rfl,X⟩;obtain⟨F,hC,hF⟩:=X.rdC;obtain⟨k1,k2,k3⟩:=Ec hC;have hs:=(X.read ([],false,false) ⟨Nk,k2,Df.zero⟩ k3).say (by simp only[List.nil_append];omega) M;obtain⟨d1,dl⟩:=X.ptr;have dl2:g<(w1.setCells g (o+2) Hd.toList).heap.size:=Nat.lt_of_lt_of_le dl k3.size;clear hd X hC hF k2 k3;go_wp2_with(fail);refine hs.mono ?_;rintro e w3 ⟨rfl,T⟩;clear hs
   go_wp2
   go_ret;exact⟨rfl,T⟩
 ·have Y:p.iL up=(p,(kY p.L ev).2.2):=by
   unfold jw.iL;rw[Z];simp only;rw[ai hf]
  rw[Y];have hd:=ab3 ev V B _ p.L _ [] w U (rI.rest h.lk) hf;have ee:jm (kY p.L ev).2.2=.iface 128 (ι κ ((kY p.L ev).2.2:Int)):=by simp only[jm];rw[af hf]
  simp only;rw[ee];have HP:Hid _:=h;clear Y hf h ee;generalize (kY p.L ev).2.2=f at hd⊢;cases up
  all_goals
   simp only[if_true,if_false,Bool.false_eq_true]at Z;subst Z
   go_in
   go_wp2_with(fail);refine hd.mono ?_;rintro e w1 ⟨rfl,hb⟩;clear hd
   go_wp2
   go_ret;exact⟨rfl,lO.still HP.out hb⟩
theorem qz.rest {w w1:dY} {g o B:Nat} {v:dZ} {p:jw} (h:qz w g o B v p)(hb:eE w w1):PtQ w1 g o B v p (λk=>k<w.heap.size) (σ ν 0 0) [] :=by
 have Z:=h.below hb;exact⟨Z.xm,(rI.rest h.lk).below hb,Z.ou,h.few,h.ok,h.gB,h.vg,h.vB,h.nz,h.lt,λk Y=>h.ou.lt k Y⟩
theorem qz.take(h:qz w g o B v p)(hb:eE w w1)(J:jf w)(code id:Int)(a:Option Addr)(n cap:Nat)(os:List jE)(E:jc w1 a n os)(H:kI a cap)(X:n<=cap)(G:n<=1000)
 (M:∀j,eu (σ a n cap)=μ j->w.heap.size<=j/\j<w1.heap.size):
 eW eX 185 #[π (μ ⟨B,0,ν⟩),.agg #[ι κ code,ι κ id,σ a n cap]] w1 λe w'=>e=ρ (jm (jK p.L (code,id,os)).2.2)/\BX w w' g o B v {p with L:=(jK p.L (code,id,os)).1} (jK p.L (code,id,os)).2.1:=by
 have Z:=h.rest hb;have Y:vz w1 (λk=>k<w.heap.size) (σ ν 0 0) ⟨code,id,a,n,cap,os⟩:=⟨E,H,X,G,λk D=>by
  have U:eu (σ a n cap)=μ k:=DC D;obtain⟨h1,S⟩:=M k U;exact⟨eh,by simp[eu],S⟩⟩
 refine(Uo B _ p.L _ [] ⟨code,id,a,n,cap,os⟩ w1 (J.below hb) Z.nz.2.1 (by simp[eu]) Z.rep Z.ok.bd gY Y Z.ok.m1 Z.ok.m2).mono ?_;rintro e w' ⟨rfl,T⟩;refine⟨rfl,?_⟩;have V:=BX.went Z rfl (nP.iT o B v hb h.lt) T (Z.ok.jK _);rw[List.map_nil,bW]at V;exact V
theorem K7(s:ByteArray)(g o B:Nat)(v:dZ)(p:jw)(w:dY)(h:qz w g o B v p)(hT:jf w)(hs:s.size<=1000)(hn:p.out.length<=800000000):
 eW eX 133 #[π (μ ⟨g,o,ν⟩),.string s] w λe w'=>e=ρ (τ #[])/\lO w w' g o B v (p.packet s.data.toList):=by
 have y:=Ku s w hs;have HP:Hid _:=h;clear h
 go_in
 go_wp2_with(fail);refine y.mono ?_;rintro e w1 ⟨a,n,cap,f,code,id,os,rfl,E,D,T,hb,H,hz⟩;clear y;by_cases hf:f=0
 ·subst hf;have e0:jm 0=η:=rfl;rw[e0];have qF:os.length<=1000:=by
   have X:iY s.data.toList=(code,id,os,0):=T;unfold iY at X;split at X
   ·simp at X
   ·split at X
    ·rename_i V
     have h3:mL (s.data.toList.drop 3)=os:=(dO (dO (dO X).2).2).1;rw[h3]at V;unfold jS at V;split at V
     ·simp at V
     ·split at V
      ·simp at V
      ·omega
    ·simp at X
  have mM:n<=1000:=by have:=E.1;omega
  have S:p.packet s.data.toList=({p with L:=(jK p.L (code,id,os)).1}:jw).say (jK p.L (code,id,os)).2.1:=by
   unfold jw.packet;rw[T];rfl
  have ba:=gW w1 (γ #[ι κ code,ι κ id,σ a n cap] 37);have G:=gk hb ba;have hA:=λj=>ar w1 #[ι κ code,ι κ id,σ a n cap] 37 (0,0) j;have A:=HP.out.take (jD G) hT code id a n cap os (E.below (jD ba)) hz D mM (λj u=>⟨(H j u).1,Nat.lt_of_lt_of_le (H j u).2 ba.size⟩);have hlen:=Hg p.L (code,id,os);obtain⟨J,Y⟩:=gg (w1.alloc (γ #[ι κ code,ι κ id,σ a n cap] 37));obtain⟨Z,U⟩:=gg (w1.heap.size);rw[Y]at G A;have d0:J.cell? ⟨Z,0,ν⟩=μ (ι κ code):=by rw[<-Y,<-U];exact hA 0
  have d1':J.cell? ⟨Z,1,ν⟩=μ (ι κ id):=by rw[<-Y,<-U];exact hA 1
  have d2:J.cell? ⟨Z,2,ν⟩=μ (σ a n cap):=by rw[<-Y,<-U];exact hA 2
  have zl:Z<J.heap.size:=ag J _ d0;have d1:=(HP.out.below G).c1;have dl:=(HP.out.below G).lt;have HE:Hid _:=S;have Ua:Hid _:=Y;have HZ:Hid _:=U;clear S T E H hA Y U ba hb;go_wp2_with(fail);rw[Ua.out,HZ.out]
  go_region_with(go_at_call 185;refine A.mono ?_;rintro e w3 ⟨rfl,hG⟩)
  all_goals
   have M:=hG.say eh hn;clear A hG;go_wp2_with(fail);refine M.mono ?_;rintro e w4 ⟨rfl,hW⟩;clear M
   go_wp2
   first|go_end0|refine iJ rfl rfl ?_
   refine⟨rfl,?_⟩;rw[HE.out];exact hW
 ·have ee:jm f=.iface 128 (ι κ (f:Int)):=by simp only[jm];rw[af hf]
  rw[ee];have S:p.packet s.data.toList=p:=by
   unfold jw.packet;rw[T];simp only;rw[af hf]
  have HW:Hid (lO w (w1.alloc (γ #[ι κ code,ι κ id,σ a n cap] 37)) g o B v (p.packet s.data.toList)):=by
   show lO _ _ _ _ _ _ _;rw[S];exact lO.still HP.out (gk hb (gW _ _))
  clear S T E H hf ee
  go_wp2
  first|go_end0|refine iJ rfl rfl ?_
  exact⟨rfl,HW.out⟩
theorem xW(T:ByteArray)(c:UInt8)(own seq:Int)(a:Option Addr)(n cap:Nat)(es:List jE)(g o B:Nat)(v:dZ)(p:jw)(w:dY)(h:qz w g o B v p)(G:T.data.toList=[c])(V:jc w a n es)(hf:oy own seq es=0)(hn:p.out.length<=800000000):
 eW eX 152 #[π (μ ⟨g,o,ν⟩),.string T,.agg #[ι κ own,ι κ seq,σ a n cap]] w λe w'=>e=ρ (τ #[])/\lO w w' g o B v (p.put c (rb own seq es)):=by
 have U:=gW w (γ #[ι κ own,ι κ seq,σ a n cap] 40);have hA:=λj=>ar w #[ι κ own,ι κ seq,σ a n cap] 40 (0,0) j;have X:=MN own seq a n cap es _ (V.below U) hf;have H:=(jt hf).2.2.1;have E:(rb own seq es).length<=100:=by
  have S:∀l:List jE,(Mp l).length=2*l.length:=by
   intro l
   induction l with
   |nil=>rfl
   |cons x l ih=>
    have e:Mp (x::l)=u8 x.1::u8 x.2::Mp l:=rfl;rw[e];simp only[eZ,ih];omega
  simp only[rb,eZ,S];omega
 obtain⟨L,Y⟩:=gg (rb own seq es);rw[Y]at X E;rw[Y];have HP:Hid _:=h;clear h Y V hf H
 go_in
 go_wp2_with(fail);refine X.mono ?_;rintro e w1 ⟨rfl,b1⟩;have k1:=gk U b1;have Z:=Dj g o B v p T ⟨L.toArray⟩ c w1 (HP.out.below k1) G (by show L.toArray.size<=1000;simp;omega) eh;have J:(⟨L.toArray⟩:ByteArray).data.toList=L:=gY;rw[J]at Z;clear X b1;go_wp2_with(fail);refine Z.mono ?_;rintro e w2 ⟨rfl,M⟩;clear Z
 go_wp2
 first|go_end0|refine iJ rfl rfl ?_
 exact⟨rfl,lO.trans (nP.iT o B v k1 HP.out.lt) (λ_ e=>.inl e) M⟩
def rM(l:List za):List dZ:=l.flatMap λt=>[ι κ t.1,ι κ t.2.1,.string ⟨t.2.2.toArray⟩]
structure Zt where
 R:Nat
 g:Nat
 cap:Nat
 B:Nat->Nat
 v:Nat->dZ
 Bb:Nat
 fm:FM
 iv:dZ
def Zt.mine(z:Zt)(n k:Nat):Prop:=k=z.R \/k=z.g \/(∃i,i<n/\(k=z.B i \/(z.v i).ownBlock=μ k)) \/z.iv.ownBlock=μ k
structure mr(w:dY)(z:Zt)(r:iM):Prop where
 n1:1<=r.n
 n3:r.n<=3
 NC:r.n<=z.cap
 id:1<=r.id/\r.id<=6
 oe:iX w z.R #[ι κ r.id,σ (μ ⟨z.g,0,ν⟩) r.n z.cap,π (μ ⟨z.Bb,0,ν⟩),z.iv,ι κ r.drop] 135
 pt:∀i,i<r.n->qz w z.g (i*71) (z.B i) (z.v i) (r.P i)
 ib:Row w 3 z.iv r.j8.length (rM r.j8)
 bs:BR w z.Bb z.fm 6 r.K r.O
 bl:z.fm.bs.length=r.n
 no:∀k,z.mine r.n k->z.fm.no k
 nb:¬z.fm.no z.Bb/\¬z.fm.no z.fm.g/\∀b,(b=z.fm.bm \/b∈z.fm.bs)->¬z.fm.no b
 sR:z.R≠z.g/\z.R≠0/\∀i,i<r.n->z.B i≠z.R/\(z.v i).ownBlock≠μ z.R
 sB:∀i j,i<r.n->j<r.n->i≠j->z.B i≠z.B j/\∀k,(z.v i).ownBlock=μ k->(z.v j).ownBlock≠μ k
 sV:∀i j,i<r.n->j<r.n->(z.v i).ownBlock≠μ (z.B j)
 sI:∀k,z.iv.ownBlock=μ k->k≠z.R/\k≠z.g/\∀i,i<r.n->k≠z.B i/\(z.v i).ownBlock≠μ k
 Rc:z.iv.ownBlock≠μ 0/\∀b,(b=z.fm.bm \/b∈z.fm.bs)->b≠0
structure zG(w w':dY)(z:Zt)(n:Nat):Prop where
 os:w'.os=w.os
 tape:w'.tape=w.tape
 output:w'.output=w.output
 size:w.heap.size<=w'.heap.size
 block:∀k,k<w.heap.size->¬z.mine n k->k≠z.fm.bm->k∉z.fm.bs->w'.heap[k]? =w.heap[k]?
structure Zt.like(z z':Zt):Prop where
 R:z'.R=z.R
 g:z'.g=z.g
 cap:z'.cap=z.cap
 B:z'.B=z.B
 Bb:z'.Bb=z.Bb
 bm:z'.fm.bm=z.fm.bm
 fg:z'.fm.g=z.fm.g
 bs:z'.fm.bs=z.fm.bs
structure iD(w w':dY)(z:Zt)(r:iM)(n:Nat):Prop where
 ex:∃z',mr w' z' r/\z.like z'/\(∀k,z'.mine n k->z.mine n k \/w.heap.size<=k)/\(∀k,z.fm.no k->z'.fm.no k)
 kept:zG w w' z n
def A2(v:Nat->dZ)(i:Nat)(x:dZ):Nat->dZ:=λj=>if j=i then x else v j
theorem pN(v:Nat->dZ)(i:Nat)(x:dZ):A2 v i x i=x:=by simp[A2]
theorem nS(v:Nat->dZ)(x:dZ)(h:j≠i):A2 v i x j=v j:=by simp[A2,h]
theorem jy(P:Nat->jw)(i:Nat)(p:jw):la P i p i=p:=by simp[la]
theorem jq(P:Nat->jw)(p:jw)(h:j≠i):la P i p j=P j:=by simp[la,h]
theorem mr.port {z:Zt} (h:mr w z r)(hi:i<r.n)(hW:lO w w' z.g (i*71) (z.B i) (z.v i) p):iD w w' z (r.iU i p) r.n:=by
 obtain⟨⟨v',hP,hv⟩,X⟩:=hW;have kB:∀k,z.mine r.n k->k<w.heap.size:=λk Z=>h.bs.Q5 k (h.no k Z);have OT:=(h.pt i hi).lt;have H:∀k,k<w.heap.size->v'.ownBlock=μ k->(z.v i).ownBlock=μ k:=λk Z e=>by
  rcases hv k e with T|T
  ·exact T
  ·omega
 have M:z.mine r.n z.g/\z.mine r.n (z.B i)/\∀k,(z.v i).ownBlock=μ k->z.mine r.n k:=⟨.inr (.inl rfl),.inr (.inr (.inl ⟨i,hi,.inl rfl⟩)),λk Z=>.inr (.inr (.inl ⟨i,hi,.inr Z⟩))⟩
 have zH:∀k,k<w.heap.size->¬z.mine r.n k->w'.heap[k]? =w.heap[k]? :=λk Z G=>X.block k Z (λe=>G (by rw[e];exact M.1)) (λe=>G (by rw[e];exact M.2.1)) (λe=>G (M.2.2 k e));have FQ:=h.bs.still X.size (λj Y hn=>zH j Y (λe=>hn (h.no j e))) h.nb.1 h.nb.2.1 h.nb.2.2 (λk=>z.fm.no k \/(w.heap.size<=k/\k<w'.heap.size/\v'.ownBlock=μ k)) (λj Y=>by
  rcases Y with e|e
  ·exact .inl e
  ·exact .inr e.1) (λj Y=>by
  rcases Y with e|e
  ·exact Nat.lt_of_lt_of_le (h.bs.Q5 j e) X.size
  ·exact e.2.1)
 have y:∀b,(b=z.fm.bm \/b∈z.fm.bs)->b<w.heap.size:=h.bs.mlt;have ab6:z.Bb<w.heap.size:=by obtain⟨_,_,hF,_⟩:=h.bs.ex;exact hF.lt
 have ab7:z.fm.g<w.heap.size:=by obtain⟨_,_,hF,_⟩:=h.bs.ex;exact hF.row.lt _ rfl
 refine⟨⟨{z with v:=A2 z.v i v',fm:={z.fm with no:=λk=>z.fm.no k \/(w.heap.size<=k/\k<w'.heap.size/\v'.ownBlock=μ k)}},⟨h.n1,h.n3,h.NC,h.id,?_,?_,?_,FQ,h.bl,?_,?_,⟨h.sR.1,h.sR.2.1,?_⟩,?_,?_,?_,h.Rc⟩,⟨rfl,rfl,rfl,rfl,rfl,rfl,rfl,rfl⟩,?_,λk Z=>.inl Z⟩,⟨X.os,X.tape,X.output,X.size,λk Z G _ _=>zH k Z G⟩⟩
 ·exact h.oe.keep (X.block z.R h.oe.lt h.sR.1 (λe=>(h.sR.2.2 i hi).1 e.symm) (h.sR.2.2 i hi).2)
 ·intro j Y;by_cases e:j=i
  ·subst e;show qz w' z.g (j*71) (z.B j) (A2 z.v j v' j) (la r.P j p j);rw[pN,jy];exact hP
  ·show qz w' z.g (j*71) (z.B j) (A2 z.v i v' j) (la r.P i p j);rw[nS _ _ e,jq _ _ e];have V:=h.pt j Y;obtain⟨F,hC,hF⟩:=V.xm;have hs:=h.sB j i Y hi e;refine⟨⟨F,λx hx=>⟨(X.cell (j*71+x) ?_).trans (hC.cell x hx),(X.fz _).trans (hC.fz x hx)⟩,hF⟩,V.lk.keep (X.block (z.B j) V.lk.lt (λe=>V.gB e.symm) hs.1 (h.sV i j hi Y)),V.ou.keep X.size (λk Z=>X.block k (V.ou.lt k Z) (λe=>V.vg (by rw[Z,e])) (λe=>h.sV j i Y hi (by rw[Z,e])) (hs.2 k Z)),V.few,V.ok,V.gB,V.vg,V.vB,V.nz⟩;rcases Nat.lt_or_gt_of_ne e with h1|h1
   ·exact .inl eh
   ·exact .inr eh
 ·exact h.ib.keep X.size (λk Z=>X.block k (h.ib.lt k Z) (h.sI k Z).2.1 ((h.sI k Z).2.2 i hi).1 ((h.sI k Z).2.2 i hi).2)
 ·intro k Z;rcases Z with e|e|⟨j,Y,e|e⟩|e
  ·exact .inl (h.no k (.inl e))
  ·exact .inl (h.no k (.inr (.inl e)))
  ·exact .inl (h.no k (.inr (.inr (.inl ⟨j,Y,.inl e⟩))))
  ·by_cases U:j=i
   ·subst U;have e':v'.ownBlock=μ k:=by have:=e;simp only[pN]at this;exact this
    rcases hv k e' with T|T
    ·exact .inl (h.no k (.inr (.inr (.inl ⟨j,Y,.inr T⟩))))
    ·exact .inr ⟨T,hP.ou.lt k e',e'⟩
   ·have e':(z.v j).ownBlock=μ k:=by have:=e;simp only[nS _ _ U]at this;exact this
    exact .inl (h.no k (.inr (.inr (.inl ⟨j,Y,.inr e'⟩))))
  ·exact .inl (h.no k (.inr (.inr (.inr e))))
 ·refine⟨λe=> ?_,λe=> ?_,λb hb e=> ?_⟩
  ·rcases e with e|e
   ·exact h.nb.1 e
   ·have h8:w.heap.size<=z.Bb:=e.1;omega
  ·rcases e with e|e
   ·exact h.nb.2.1 e
   ·have h8:w.heap.size<=z.fm.g:=e.1;omega
  ·rcases e with e|e
   ·exact h.nb.2.2 b hb e
   ·have h9:=y b hb;omega
 ·intro j Y;refine⟨(h.sR.2.2 j Y).1,?_⟩;by_cases U:j=i
  ·subst U;show(A2 z.v j v' j).ownBlock≠_;rw[pN];exact λe=>(h.sR.2.2 j Y).2 (H _ h.oe.lt e)
  ·show(A2 z.v i v' j).ownBlock≠_;rw[nS _ _ U];exact(h.sR.2.2 j Y).2
 ·intro a b S hb E;refine⟨(h.sB a b S hb E).1,λk Z=> ?_⟩;show(A2 z.v i v' b).ownBlock≠μ k;have J:(A2 z.v i v' a).ownBlock=μ k:=Z;by_cases D:a=i
  ·subst D;rw[pN]at J;rw[nS _ _ (λe=>E e.symm)];intro e;have u:=(h.pt b hb).ou.lt k e;exact(h.sB a b S hb E).2 k (H k u J) e
  ·rw[nS _ _ D]at J;by_cases eb:b=i
   ·subst eb;rw[pN];intro e;have u:=(h.pt a S).ou.lt k J;exact(h.sB a b S hb E).2 k J (H k u e)
   ·rw[nS _ _ eb];exact(h.sB a b S hb E).2 k J
 ·intro a b S hb;show(A2 z.v i v' a).ownBlock≠μ (z.B b);by_cases D:a=i
  ·subst D;rw[pN];exact λe=>h.sV a b S hb (H _ (h.pt b hb).lk.lt e)
  ·rw[nS _ _ D];exact h.sV a b S hb
 ·intro k Z;obtain⟨h1,h2,A⟩:=h.sI k Z;refine⟨h1,h2,λj Y=>⟨(A j Y).1,?_⟩⟩;show(A2 z.v i v' j).ownBlock≠μ k;by_cases U:j=i
  ·subst U;rw[pN];exact λe=>(A j Y).2 (H k (h.ib.lt k Z) e)
  ·rw[nS _ _ U];exact(A j Y).2
 ·intro k Z;rcases Z with e|e|⟨j,Y,e|e⟩|e
  ·exact .inl (.inl e)
  ·exact .inl (.inr (.inl e))
  ·exact .inl (.inr (.inr (.inl ⟨j,Y,.inl e⟩)))
  ·by_cases U:j=i
   ·subst U;have e':v'.ownBlock=μ k:=by have:=e;simp only[pN]at this;exact this
    rcases hv k e' with T|T
    ·exact .inl (.inr (.inr (.inl ⟨j,Y,.inr T⟩)))
    ·exact .inr T
   ·have e':(z.v j).ownBlock=μ k:=by have:=e;simp only[nS _ _ U]at this;exact this
    exact .inl (.inr (.inr (.inl ⟨j,Y,.inr e'⟩)))
  ·exact .inl (.inr (.inr (.inr e)))
theorem zG.refl(w:dY)(z:Zt)(n:Nat):zG w w z n:=⟨rfl,rfl,rfl,Nat.le_refl _,λ_ _ _ _ _=>rfl⟩
theorem zG.iT(z:Zt)(n:Nat)(h:eE w w'):zG w w' z n:=⟨h.os,h.tape,h.output,h.size,λk Z _ _ _=>h.block k Z⟩
theorem Zt.sd(z:Zt):z.like z:=⟨rfl,rfl,rfl,rfl,rfl,rfl,rfl,rfl⟩
theorem Zt.Er {a b c:Zt} (h:a.like b)(k:b.like c):a.like c:=⟨k.R.trans h.R,k.g.trans h.g,k.cap.trans h.cap,k.B.trans h.B,k.Bb.trans h.Bb,k.bm.trans h.bm,k.fg.trans h.fg,k.bs.trans h.bs⟩
theorem mr.A3 {z:Zt} (h:mr w z r):∀k,z.mine r.n k->k<w.heap.size:=λk Z=>h.bs.Q5 k (h.no k Z)
theorem mr.below {w w':dY} {z:Zt} {r:iM} (h:mr w z r)(hb:eE w w'):mr w' z r:=
 ⟨h.n1,h.n3,h.NC,h.id,h.oe.keep (hb.block _ h.oe.lt),λi hi=>(h.pt i hi).below hb,h.ib.below hb,h.bs.below hb,h.bl,h.no,h.nb,h.sR,h.sB,h.sV,h.sI,h.Rc⟩
theorem iD.still {z:Zt} (h:mr w z r)(hb:eE w w'):iD w w' z r r.n:=
 ⟨⟨z,h.below hb,z.sd,λ_ e=>.inl e,λ_ e=>e⟩,zG.iT z r.n hb⟩
theorem iD.refl {w:dY} {z:Zt} {r:iM} (h:mr w z r):iD w w z r r.n:=⟨⟨z,h,z.sd,λ_ e=>.inl e,λ_ e=>e⟩,zG.refl w z r.n⟩
theorem iD.step {z:Zt} (h:iD a b z r n)(k:∀z',mr b z' r->z.like z'->iD b c z' r' n):iD a c z r' n:=by
 obtain⟨⟨z',D,hl,U,J⟩,Z⟩:=h;obtain⟨⟨E,M,G,H,A⟩,Y⟩:=k z' D hl;refine⟨⟨E,M,Zt.Er hl G,λx hx=> ?_,λx hx=>A x (J x hx)⟩,⟨Y.os.trans Z.os,Y.tape.trans Z.tape,Y.output.trans Z.output,Nat.le_trans Z.size Y.size,λx hx V T X=>(Y.block x (Nat.lt_of_lt_of_le hx Z.size) (λe=> ?_) (by rw[hl.bm];exact T) (by rw[hl.bs];exact X)).trans (Z.block x hx V T X)⟩⟩
 ·rcases H x hx with e|e
  ·exact U x e
  ·exact .inr (Nat.le_trans Z.size e)
 ·rcases U x e with S|S
  ·exact V S
  ·omega
theorem iD.below {z:Zt} (h:iD a b z r n)(Z:r.n=n)(hb:eE b c):iD a c z r n:=by
 subst Z;exact h.step λz' Y _=>iD.still Y hb
theorem iD.first {z:Zt} (H:mr a z r)(S:r.n=n)(hb:eE a b)(k:mr b z r->iD b c z r' n):iD a c z r' n:=by
 subst S;obtain⟨⟨J,X,M,T,G⟩,Z⟩:=k (H.below hb);exact⟨⟨J,X,M,λx hx=>(T x hx).imp_right (λe=>Nat.le_trans hb.size e),G⟩,⟨Z.os.trans hb.os,Z.tape.trans hb.tape,Z.output.trans hb.output,Nat.le_trans hb.size Z.size,λx hx V U Y=>(Z.block x (Nat.lt_of_lt_of_le hx hb.size) V U Y).trans (hb.block x hx)⟩⟩
theorem iD.tab {z:Zt} {r0:iM} (h:iD a b z r n)(Z:mr a z r0)(V:r0.n=n)(X:jf a):jf b:=λe s U hs=>by
 subst V;refine(aj (a:=⟨0,e*10+s,ν⟩) (h.kept.block 0 X.lt (λY=> ?_) (λY=> ?_) (λY=> ?_))).trans (X e s U hs)
 ·rcases Y with e|e|⟨i,hi,e|e⟩|e
  ·exact Z.sR.2.1 e.symm
  ·exact(Z.pt 0 Z.n1).nz.1 e.symm
  ·exact(Z.pt i hi).nz.2.1 e.symm
  ·exact(Z.pt i hi).nz.2.2 e
  ·exact Z.Rc.1 e
 ·exact Z.Rc.2 0 (.inl Y) rfl
 ·exact Z.Rc.2 0 (.inr Y) rfl
theorem mr.base {z:Zt} {K':Int->Option PS} {O':Nat->Int->Option PS} (h:mr w z r)(U:BR w' z.Bb z.fm k K' O')(Y:jC w w' z.fm):iD w w' z {r with K:=K',O:=O'} r.n:=by
 have hb:∀x,z.mine r.n x->w'.heap[x]? =w.heap[x]? :=λx hx=>Y.block x (h.A3 x hx) (λe=>h.nb.2.2 x (.inl e) (h.no x hx)) (λe=>h.nb.2.2 x (.inr e) (h.no x hx));refine⟨⟨z,⟨h.n1,h.n3,h.NC,h.id,h.oe.keep (hb _ (.inl rfl)),λi hi=> ?_,h.ib.keep Y.size (λx hx=>hb x (.inr (.inr (.inr hx)))),U.six,h.bl,h.no,h.nb,h.sR,h.sB,h.sV,h.sI,h.Rc⟩,z.sd,λ_ e=>.inl e,λ_ e=>e⟩,⟨Y.os,Y.tape,Y.output,Y.size,λx hx _ V X=>Y.block x hx V X⟩⟩;have Z:=h.pt i hi;obtain⟨F,hC,hF⟩:=Z.xm;exact⟨⟨F,hC.keep (hb _ (.inr (.inl rfl))),hF⟩,Z.lk.keep (hb _ (.inr (.inr (.inl ⟨i,hi,.inl rfl⟩)))),Z.ou.keep Y.size (λx hx=>hb x (.inr (.inr (.inl ⟨i,hi,.inr hx⟩)))),Z.few,Z.ok,Z.gB,Z.vg,Z.vB,Z.nz⟩
theorem ab8(p:jw)(B:Nat)(v:dZ)(F:Nat->dZ)(q:lD):∀j,j<71->sZ (sZ (sZ (xk p B v F) 67 (.int .i64 q.who)) 68 (.bool q.both)) 69 (.int .i64 q.left) j=xk {p with pe:=q} B v F j:=by
 intro j hj;by_cases Y:j=69
 ·subst Y;simp[sZ,xk]
 by_cases X:j=68
 ·subst X;simp[sZ,xk]
 by_cases Z:j=67
 ·subst Z;simp[sZ,xk]
 rw[jJ _ _ Y,jJ _ _ X,jJ _ _ Z];simp only[xk,Y,X,Z,if_false]
theorem qz.peer(h:qz w g o B v p)(q:lD):
 lO w (((w.setCell ⟨g,o+67,ν⟩ (.int .i64 q.who)).setCell ⟨g,o+68,ν⟩ (.bool q.both)).setCell ⟨g,o+69,ν⟩ (.int .i64 q.left)) g o B v {p with pe:=q}:=by
 obtain⟨F,hC,hF⟩:=h.xm;have Z:lh w (((w.setCell ⟨g,o+67,ν⟩ (.int .i64 q.who)).setCell ⟨g,o+68,ν⟩ (.bool q.both)).setCell ⟨g,o+69,ν⟩ (.int .i64 q.left)) g o 71:=(((lh.refl w g o 71).set (o+67) eh eh _).set (o+68) eh eh _).set (o+69) eh eh _;have hb:∀x,x<w.heap.size->x≠g->_:=Z.block;refine⟨⟨v,⟨⟨F,(((hC.set 67 eA _).set 68 eA _).set 69 eA _).congr (ab8 p B v F q),hF⟩,h.lk.keep (hb B h.lk.lt (λe=>h.gB e.symm)),h.ou.keep Z.size (λx hx=>hb x (h.ou.lt x hx) (λe=>h.vg (by rw[hx,e]))),h.few,h.ok,h.gB,h.vg,h.vB,h.nz⟩,λ_ e=>.inl e⟩,⟨Z.os,Z.tape,Z.output,Z.size,λi hi Y _ _=>Z.block i hi Y,Z.cell,Z.fz⟩⟩
theorem mr.own {z:Zt} (h:mr w z r)(Y:dZ)(j8:List za)(d:Int)(hs:w.heap.size<=w'.heap.size)(u:w'.os=w.os)(Pn:w'.tape=w.tape)(A:w'.output=w.output)(Z:∀k,k<w.heap.size->k≠z.R->z.iv.ownBlock≠μ k->w'.heap[k]? =w.heap[k]?)
 (ot:iX w' z.R #[ι κ r.id,σ (μ ⟨z.g,0,ν⟩) r.n z.cap,π (μ ⟨z.Bb,0,ν⟩),Y,ι κ d] 135) (D:Row w' 3 Y j8.length (rM j8)) (U:∀k,Y.ownBlock=μ k->z.iv.ownBlock=μ k \/w.heap.size<=k):iD w w' z {r with j8:=j8,drop:=d} r.n:=by
 have H:∀k,z.iv.ownBlock=μ k->z.mine r.n k:=λk Z=>.inr (.inr (.inr Z));have G:∀k,k<w.heap.size->¬z.mine r.n k->w'.heap[k]? =w.heap[k]? :=λk M S=>Z k M (λe=>S (.inl e)) (λe=>S (H k e));have FQ:=h.bs.still hs (λj T y=>G j T (λe=>y (h.no j e))) h.nb.1 h.nb.2.1 h.nb.2.2 (λk=>z.fm.no k \/(w.heap.size<=k/\k<w'.heap.size/\Y.ownBlock=μ k)) (λj T=>by
  rcases T with e|e
  ·exact .inl e
  ·exact .inr e.1) (λj T=>by
  rcases T with e|e
  ·exact Nat.lt_of_lt_of_le (h.bs.Q5 j e) hs
  ·exact e.2.1)
 have J:∀b,(b=z.fm.bm \/b∈z.fm.bs)->b<w.heap.size:=h.bs.mlt;have ab6:z.Bb<w.heap.size:=by obtain⟨_,_,hF,_⟩:=h.bs.ex;exact hF.lt
 have ab7:z.fm.g<w.heap.size:=by obtain⟨_,_,hF,_⟩:=h.bs.ex;exact hF.row.lt _ rfl
 have hI':∀k,k<w.heap.size->Y.ownBlock=μ k->z.iv.ownBlock=μ k:=λk Z e=>by
  rcases U k e with V|V
  ·exact V
  ·omega
 refine⟨⟨{z with iv:=Y,fm:={z.fm with no:=λk=>z.fm.no k \/(w.heap.size<=k/\k<w'.heap.size/\Y.ownBlock=μ k)}},⟨h.n1,h.n3,h.NC,h.id,ot,λi hi=> ?_,D,FQ,h.bl,?_,?_,h.sR,h.sB,h.sV,?_,?_⟩,⟨rfl,rfl,rfl,rfl,rfl,rfl,rfl,rfl⟩,?_,λk Z=>.inl Z⟩,⟨u,Pn,A,hs,λk M S _ _=>G k M S⟩⟩
 ·have X:=h.pt i hi;obtain⟨F,hC,hF⟩:=X.xm;have E:=h.sR.2.2 i hi;refine⟨⟨F,hC.keep (Z _ X.lt (λe=>h.sR.1 e.symm) (λe=>(h.sI _ e).2.1 rfl)),hF⟩,X.lk.keep (Z _ X.lk.lt E.1 (λe=>((h.sI _ e).2.2 i hi).1 rfl)),X.ou.keep hs (λx hx=>Z x (X.ou.lt x hx) (λe=>E.2 (by rw[hx,e])) (λe=>((h.sI x e).2.2 i hi).2 hx)),X.few,X.ok,X.gB,X.vg,X.vB,X.nz⟩
 ·intro k Z;rcases Z with e|e|e|e
  ·exact .inl (h.no k (.inl e))
  ·exact .inl (h.no k (.inr (.inl e)))
  ·exact .inl (h.no k (.inr (.inr (.inl e))))
  ·rcases U k e with V|V
   ·exact .inl (h.no k (H k V))
   ·exact .inr ⟨V,D.lt k e,e⟩
 ·refine⟨λe=> ?_,λe=> ?_,λb hb e=> ?_⟩
  ·rcases e with e|e
   ·exact h.nb.1 e
   ·have h8:w.heap.size<=z.Bb:=e.1;omega
  ·rcases e with e|e
   ·exact h.nb.2.1 e
   ·have h8:w.heap.size<=z.fm.g:=e.1;omega
  ·rcases e with e|e
   ·exact h.nb.2.2 b hb e
   ·have h9:=J b hb;omega
 ·intro k Z;rcases U k Z with V|V
  ·exact h.sI k V
  ·refine⟨λe=> ?_,λe=> ?_,λi hi=>⟨λe=> ?_,λe=> ?_⟩⟩
   ·have e':k=z.R:=e;have:=h.oe.lt;omega
   ·have e':k=z.g:=e;have:=(h.pt 0 h.n1).lt;omega
   ·have e':k=z.B i:=e;have:=(h.pt i hi).lk.lt;omega
   ·have:=(h.pt i hi).ou.lt k e;omega
 ·refine⟨λe=> ?_,h.Rc.2⟩;rcases U 0 e with V|V
  ·exact h.Rc.1 V
  ·have:=h.oe.lt;omega
 ·intro k Z;rcases Z with e|e|e|e
  ·exact .inl (.inl e)
  ·exact .inl (.inr (.inl e))
  ·exact .inl (.inr (.inr (.inl e)))
  ·exact(U k e).imp_left (H k)
theorem mr.c0 {z:Zt} (h:mr w z r):w.cell? ⟨z.R,0,ν⟩=μ (ι κ r.id):=h.oe.cell 0
theorem mr.c1 {z:Zt} (h:mr w z r):w.cell? ⟨z.R,1,ν⟩=μ (σ (μ ⟨z.g,0,ν⟩) r.n z.cap):=h.oe.cell 1
theorem mr.c2 {z:Zt} (h:mr w z r):w.cell? ⟨z.R,2,ν⟩=μ (π (μ ⟨z.Bb,0,ν⟩)):=h.oe.cell 2
theorem mr.c3 {z:Zt} (h:mr w z r):w.cell? ⟨z.R,3,ν⟩=μ z.iv:=h.oe.cell 3
theorem mr.c4 {z:Zt} (h:mr w z r):w.cell? ⟨z.R,4,ν⟩=μ (ι κ r.drop):=h.oe.cell 4
theorem mr.lt {w:dY} {z:Zt} {r:iM} (h:mr w z r):z.R<w.heap.size:=h.oe.lt
theorem mr.JZ {z:Zt} (h:mr w z r):z.g<w.heap.size:=(h.pt 0 h.n1).lt
def hasB(i:Int)(n:Nat):Bool:=decide (0<=i)&&decide (i<(n:Int))
theorem zI(h:i<n):hasB (i:Int) n=true:=by simp[hasB];omega
theorem NF(i:Int)(n:Nat):hasB i n=false \/ ∃k:Nat,k<n/\i=(k:Int):=by
 by_cases Z:0<=i
 ·by_cases Y:i<(n:Int)
  ·exact .inr ⟨i.toNat,eh,eh⟩
  ·exact .inl (by simp[hasB,Y])
 ·exact .inl (by simp[hasB,Z])
theorem Et(z:Zt)(r:iM)(i:Int)(w:dY)(h:mr w z r):
 eW eX 72 #[π (μ ⟨z.R,0,ν⟩),ι κ i] w λe w'=>e=ρ (.bool (hasB i r.n))/\w=w':=by
 have hl:=h.lt;have c1:=h.c1;unfold hasB;by_cases Z:0<=i
 ·by_cases Y:i<(r.n:Int)
  ·have hv:(decide (0<=i)&&decide (i<(r.n:Int)))=true:=by simp[Z,Y]
   rw[hv];clear hv h
   go_in
   go_wp2
   go_ret;exact⟨by first|rfl|(simp;omega),rfl⟩
  ·have hv:(decide (0<=i)&&decide (i<(r.n:Int)))=false:=by simp[Y]
   rw[hv];clear hv h
   go_in
   go_wp2
   go_ret;exact⟨by first|rfl|(simp;omega),rfl⟩
 ·have hv:(decide (0<=i)&&decide (i<(r.n:Int)))=false:=by simp[Z]
  rw[hv];clear hv h
  go_in
  go_wp2
  go_ret;exact⟨by first|rfl|(simp;omega),rfl⟩
structure oj(id:Int)(q:lD):Prop where
 who:0<=q.who/\q.who<=6
 me:q.who≠id
 both:q.both=true->1<=q.who
 left:0<=q.left/\q.left<=4
def Xn(K:Int->Option PS):Prop:=∀x,(K x).isSome=true->1<=x/\x<=6
theorem Xn.tL(h:Xn K) {k:Int} (hk:1<=k/\k<=6)(q:PS):Xn (wk K k q):=λx hx=>by
 unfold wk at hx;split at hx
 ·omega
 ·exact h x hx
structure ln(r:iM):Prop where
 id:1<=r.id/\r.id<=6
 m:∀i,i<r.n->1<=(r.P i).m/\(r.P i).m<=20
 pe:∀i,i<r.n->oj r.id (r.P i).pe
 own:∃q,r.K r.id=μ q/\oy r.id q.1 q.2=0
 Po:Xn r.K
theorem oj.nobody {id:Int} (h:1<=id):oj id Rt.nobody:=⟨⟨eA,eA⟩,λe=>(by have e2:(0:Int)=id:=e;omega),λe=>absurd e eA,⟨eA,eA⟩⟩
theorem oj.tick {q:lD} (hi:1<=id)(h:oj id q):oj id (iI q):=by
 unfold iI;split
 ·exact oj.nobody hi
 ·exact⟨h.who,h.me,h.both,by have:=h.left;simp;omega⟩
theorem oj.YA {f s:Int} (hi:1<=id)(hf:1<=f/\f<=6):oj id (jg id f s):=by
 unfold jg;split
 ·exact oj.nobody hi
 ·rename_i h
  exact⟨by simp;omega,by simpa using h,λ_=>by simp;omega,gY⟩
def BZ(P:Nat->jw)(n:Int)(k:Nat):Prop:=(P k).pe.both=true/\(P k).pe.who=n/\(match jP P n k with|none=>true|some b=>decide ((P k).m<(P b).m))=true
instance(P:Nat->jw)(n:Int)(k:Nat):Decidable (BZ P n k):=by unfold BZ;infer_instance
theorem xt {n:Int} (h:BZ P n k):jP P n (k+1)=μ k:=by
 unfold jP;exact ai h
theorem wq {n:Int} (h:¬BZ P n k):jP P n (k+1)=jP P n k:=by
 have:jP P n (k+1)=if BZ P n k then μ k else jP P n k:=by
  rw[jP];by_cases hc:BZ P n k
  ·rw[ai hc];exact ai hc
  ·rw[af hc];exact af hc
 rw[this,af h]
theorem oA {P:Nat->jw} {n:Int}:∀ {k b:Nat},jP P n k=μ b->b<k/\(P b).pe.both=true/\(P b).pe.who=n
 |0,b,h=>by simp[jP]at h
 |k+1,b,h=>by
  by_cases hc:BZ P n k
  ·rw[xt hc]at h;have:=Option.some.inj h;subst this;exact⟨eh,hc.1,hc.2.1⟩
  ·rw[wq hc]at h;have:=oA h;exact⟨eh,this.2⟩
def oL(r:iM)(j n:Nat):List jE:=(List.range' j n).filterMap λ(j:Nat)=>(jP r.P ((j:Int)+1) r.n).map λb=>((j:Int)+1,(r.P b).m)
theorem B1(r:iM):jx r=oL r 0 6:=by unfold jx oL;rw[dg]
theorem rW {r:iM} (h:ln r):∀(n j:Nat) (Y:Int),Y<=j->j+n<=6->qt r.id Y (oL r j n)=0/\(oL r j n).length<=n
 |0,j,Y,_,_=>by simp[oL,qt]
 |n+1,j,Y,h1,h2=>by
  have ih:=rW h n (j+1) ((j:Int)+1) eh eh;have ih2:=rW h n (j+1) Y eh eh;have e:oL r j (n+1)=(match jP r.P ((j:Int)+1) r.n with|none=>oL r (j+1) n|some b=>((j:Int)+1,(r.P b).m)::oL r (j+1) n):=by
   unfold oL;rw[dF,bk];cases jP r.P ((j:Int)+1) r.n<;>simp
  cases hb:jP r.P ((j:Int)+1) r.n with
  |none=>
   rw[hb]at e;simp only at e;rw[e];exact⟨ih2.1,eh⟩
  |some b=>
   rw[hb]at e;simp only at e;rw[e];obtain⟨Z,Jb,V⟩:=oA hb;have hm:=h.m b Z;have X:=h.pe b Z;have U:=X.me;rw[V]at U;refine⟨?_,by simp;omega⟩;unfold qt;rw[af (by simp only;omega)];simp only
   first
    |exact ih.1
    |(rw[af eh];exact ih.1)
    |(rw[af eh,af eh];exact ih.1)
theorem zJ(h:ln r) {seq:Int} (hs:1<=seq/\seq<=1000000):oy r.id seq (jx r)=0:=by
 have Z:=rW h 6 0 0 eh eh;rw[<-B1]at Z;have pT:=h.id;unfold oy;rw[af eh,af eh];exact Z.1
theorem ln.iU {r:iM} (h:ln r)(i:Nat)(p:jw)(Y:p.m=(r.P i).m)(X:i<r.n->oj r.id p.pe):ln (r.iU i p):=by
 refine⟨h.id,λj Z=> ?_,λj Z=> ?_,h.own,h.Po⟩
 ·show 1<=(la r.P i p j).m/\(la r.P i p j).m<=20;by_cases e:j=i
  ·subst e;simp only[la,if_true];rw[Y];exact h.m j Z
  ·simp only[la,if_neg e];exact h.m j Z
 ·show oj r.id (la r.P i p j).pe;by_cases e:j=i
  ·subst e;simp only[la,if_true];exact X Z
  ·simp only[la,if_neg e];exact h.pe j Z
theorem ln.behind {r:iM} (h:ln r) {seq:Int} (hs:0<=seq):ln (r.behind seq):=by
 unfold iM.behind;split
 ·refine⟨h.id,h.m,h.pe,⟨(seq+1,jx r),by simp[iM.Eo,wk],zJ h eh⟩,h.Po.tL h.id _⟩
 ·exact h
theorem ln.seq(h:ln r):1<=A1 r.K r.id/\A1 r.K r.id<=1000000:=by
 obtain⟨q,Z,hs⟩:=h.own;have:=(jt hs).2.1;unfold A1;rw[Z];exact this
theorem ln.change {r:iM} (h:ln r):ln r.change:=by
 unfold iM.change;split
 ·exact h
 ·exact h.behind (by have:=h.seq;omega)
theorem ln.yG(h:ln r)(Z:Nat->Int->Option PS):ln {r with O:=Z}:=⟨h.id,h.m,h.pe,h.own,h.Po⟩
theorem ln.meet {r:iM} (h:ln r)(i:Nat) {q:lD} (Y:oj r.id q):ln (r.meet i q):=by
 have Z:ln (r.iU i {r.P i with pe:=q}):=h.iU i _ rfl (λ_=>Y);unfold iM.meet;simp only;split
 ·exact Z
 ·split
  ·exact(Z.yG _).change.yG _
  ·exact(Z.yG _).change
def rowOf(m:Nat)(F:Nat->dZ):Array dZ:=(Array.range m).map F
theorem mG(m:Nat)(F:Nat->dZ):(rowOf m F).size=m:=by simp[rowOf]
theorem sJ(m:Nat)(F:Nat->dZ)(j:Nat)(h:j<m):(rowOf m F)[j]? =μ (F j):=by simp[rowOf,h]
section
variable {P:Program}
theorem qp.loadAt {w:dY} {g o m:Nat} {F:Nat->dZ} (h:qp w g o m F)(t:TypeId)(d:TypeDesc)(U:P.underlying t=some d)(hd:(match d with| .struct _| .array _ _=>true|_=>false)=true)(hi:(P.info? t).map (·.size)=some m):
 (fN t (π (μ ⟨g,o,ν⟩))).run P w=.ok (.agg (rowOf m F)) w:=by
 have hl:(loadCells ⟨g,o,ν⟩ (rowOf m F).toList.length).run P w=.ok (rowOf m F).toList.toArray w:=
  run_loadCells_list (P:=P) w ⟨g,o,ν⟩ (rowOf m F).toList (λj v hv=>by
   have V:(⟨g,o,ν⟩:Addr).add j=⟨g,o+j,ν⟩:=by unfold Addr.add;split<;>simp_all
   have X:j<m:=by
    have:=(aL.1 hv).1;simpa[rowOf]using this
   have T:(rowOf m F).toList[j]? =μ (F j):=by simpa using sJ m F j X
   rw[V,h.cell j X];exact T.symm.trans hv)
 cases Y:P.info? t with
 |none=>simp[Y]at hi
 |some i=>
  have hs:i.size=m:=by simpa[Y]using hi
  have Z:(isAgg t).run P w=.ok true w:=by
   unfold isAgg;rw[fP,run_underlying U w];cases d<;>simp_all
  simp only[Array.length_toList,Array.toArray_toList,mG]at hl;simp[fN,Instr.sureAddr,loadVar,fP,Z,sizeOf,typeInfo,Y,hs,hl]
theorem CT(w:dY) {rest:List Oper} {o:Oper} {a:Act} (U:o.guard=ν)(x:Operand)(t:TypeId)(Y:o.op=.load t x)
 (g off m:Nat) (F:Nat->dZ) (d:TypeDesc) (hx:a.eval x=.pointer (some ⟨g,off,none⟩)) (hb:qp w g off m F) (V:P.underlying t=some d) (hd:(match d with| .struct _| .array _ _=>true|_=>false)=true) (hi:(P.info? t).map (·.size)=some m)
 (h:wpList P ops Q rest (a.put o.dst (.agg (rowOf m F))) w):wpList P ops Q (o::rest) a w:=by
 refine wpList_plain U λK Z=> ?_;have X:=qp.loadAt hb t d V hd hi;unfold Oper.wp execOp;simp only[Y,fP,Sem.run_pure,Result.andThen_ok,hx,X];exact Z _ _ h
theorem og(w:dY) {rest:List Oper} {o:Oper} {a:Act} (Z:o.guard=ν)(x y:Operand)(t:TypeId)(X:o.op=.store t x y)(hd:o.dst=ν)
 (B:Nat) (C D:Array dZ) (hx:a.eval x=π (μ ⟨B,0,ν⟩)) (hy:a.eval y=.agg D) (hb:iX w B C t) (hs:C.size=D.size) (hi:(P.info? t).map (·.size)=μ D.size) (Y:D.all (·.oneCell')=true)
 (h:wpList P ops Q rest a (w.setRow B D)):wpList P ops Q (o::rest) a w:=by
 refine mB w Z x y t X B C D hx hy hb hs hi Y ?_;rw[hd];exact h
end
def zPt:Nat->dZ:=λj=>if j=0 then ι κ 0 else if j=1 then π ν else if j<67 then Nk (j-2)else if j=67 then ι κ 0 else if j=68 then .bool false else if j=69 then ι κ 0 else σ ν 0 0
theorem U9:(eX.info? 142).map (λi=>(i.zero,i.size))=μ (μ (.agg (rowOf 71 zPt)),71):=gq
theorem NG(w:dY):(zeroValue 142).run eX w=.ok (.agg (rowOf 71 zPt)) w:=(bV U9).1 w
theorem NH:(eX.info? 142).map (·.size)=μ 71:=(bV U9).2
theorem Df.one {l:List UInt8} {e d:Bool} (h:Df F l e d)(j:Nat)(hj:j<65):(F j).oneCell'=true:=by
 by_cases Z:j<62
 ·obtain⟨x,hx⟩:=h.live j Z;rw[hx];rfl
 ·have:j=62 \/j=63 \/j=64:=eh;rcases this with rfl|rfl|rfl
  ·rw[h.many];rfl
  ·rw[h.esc];rfl
  ·rw[h.bad];rfl
theorem Je(h:Df F p.rd.1 p.rd.2.1 p.rd.2.2)(hv:v.oneCell'=true):(rowOf 71 (xk p B v F)).all (·.oneCell')=true:=by
 rw[Array.all_eq_true];intro j S;rw[mG]at S;have e:(rowOf 71 (xk p B v F))[j] =xk p B v F j:=by simp[rowOf]
 rw[e];unfold xk;by_cases Z:j=0
 ·simp[Z];rfl
 by_cases Y:j=1
 ·simp[Y];rfl
 by_cases X:j<67
 ·simp only[Z,Y,X,if_false,if_true];exact Df.one h (j-2) eh
 by_cases T:j=67
 ·simp[T];rfl
 by_cases U:j=68
 ·simp[U];rfl
 by_cases V:j=69
 ·simp[V];rfl
 ·simp only[Z,Y,X,T,U,V,if_false];exact hv
theorem Row.one {xs:List dZ} (h:Row w k v n xs):v.oneCell'=true:=by
 rcases h.2 with⟨e,_⟩|⟨g,c,e,_⟩
 ·rw[e];rfl
 ·rw[e];rfl
def Hn:Option Nat->Int
 |none=>0
 |some b=>(b:Int)
theorem K8(P:Nat->jw)(n:Int)(k b:Nat)(h:jP P n k=μ b):b<k:=(oA h).1
theorem Ev(z:Zt)(r:iM)(x:Int)(w:dY)(h:mr w z r):
 eW eX 200 #[π (μ ⟨z.R,0,ν⟩),ι κ x] w λe w'=>e=ρ (τ #[ι κ (Hn (jP r.P x r.n)),.bool (jP r.P x r.n).isSome])/\eE w w':=by
 have hl:=h.lt;have c1:=h.c1;have hz:=NG;have rQ:=NH;have xX:=h.n3;have Da:=h.NC;obtain⟨n,y⟩:=gg (r.n);have HR:Hid _:=h;have Y:Hid _:=y;rw[y]at c1 xX Da;rw[y];obtain⟨Zp,Tg⟩:=gg (rowOf 71 zPt);have Rf:Zp.size=71:=by rw[<-Tg];exact mG _ _
 rw[Tg]at hz;clear h y Tg
 go_in
 go_wp2
 go_loopw [6,7,15] (λb f i wr=>∃k:Nat,k<=n/\i=ι κ k/\b=ι κ (Hn (jP r.P x k))/\f=.bool (jP r.P x k).isSome/\eE w wr) (λ_ _ i _=>n-(eY i).toNat)
 case atStart=>exact⟨0,Nat.zero_le _,rfl,rfl,rfl,av _ _⟩
 case round=>
  obtain⟨k,hk,rfl,rfl,rfl,iK⟩:=hrel;by_cases kB:k<n
  ·have nQ:(k:Int)<(n:Int):=eh;have G6:(0:Int)<=(k:Int):=eh;have R:=HR.out.below iK;have AK:k<r.n:=by rw[Y.out];exact kB
   have hp:=R.pt k AK;obtain⟨F,hC,hF⟩:=hp.xm;have o9:=Je (B:=z.B k) (v:=z.v k) hF (Row.one hp.ou);have gl:=R.JZ;have d1:=R.c1;have dl:=R.lt;rw[Y.out]at d1;have HM:Hid (∀b,jP r.P x k=μ b->wr.cell? ⟨z.g,b*71,ν⟩=μ (ι κ (r.P b).m)):=λb hb=>(R.pt b (by have:=K8 _ _ _ _ hb;omega)).c0;obtain⟨D,U⟩:=gg (rowOf 71 (xk (r.P k) (z.B k) (z.v k) F));have J0:D.size=71:=by rw[<-U];exact mG _ _
   have a0:D[0]? =μ (ι κ (r.P k).m):=by rw[<-U];exact sJ 71 _ 0 eA
   have H:D[67]? =μ (ι κ (r.P k).pe.who):=by rw[<-U];exact sJ 71 _ 67 eA
   have M:D[68]? =μ (.bool (r.P k).pe.both):=by rw[<-U];exact sJ 71 _ 68 eA
   rw[U]at o9;have ba:=gW wr (γ D 142);have A:iX (wr.alloc (γ D 142)) wr.heap.size D 142:=iX.new _ _ _;have T:Hid (eE w (wr.alloc (γ D 142))):=gk iK ba;have d1':=(aj (a:=⟨z.R,1,ν⟩) (ba.block z.R dl)).trans d1;have dl':z.R<(wr.alloc (γ D 142)).heap.size:=Nat.lt_of_lt_of_le dl ba.size;have G5:Hid (∀b,jP r.P x k=μ b->(wr.alloc (γ D 142)).cell? ⟨z.g,b*71,ν⟩=μ (ι κ (r.P b).m)):=λb hb=>(aj (a:=⟨z.g,b*71,ν⟩) (ba.block z.g gl)).trans (HM.out b hb);have gl':z.g<(wr.alloc (γ D 142)).heap.size:=Nat.lt_of_lt_of_le gl ba.size;have jj:=dP wr Zp D 142;go_wp2_with(first
    |(refine CT _ rfl (.tmp 18) 142 rfl z.g (k*71) 71 (xk (r.P k) (z.B k) (z.v k) F) _ rfl hC Tryz.underlying142 rfl rQ ?_;rw[U])
    |(refine og _ rfl (.tmp 9) (.tmp 19) 142 rfl rfl wr.heap.size Zp D rfl rfl (iX.new _ _ _) (by rw[Rf,J0]) (by rw[J0];exact rQ) o9 ?_;rw[jj]))
   have y0:=(A.cell 0).trans a0;have G:=(A.cell 67).trans H;have X:=(A.cell 68).trans M;have yl:wr.heap.size<(wr.alloc (γ D 142)).heap.size:=ag _ _ y0;obtain⟨W,hW⟩:=gg (wr.alloc (γ D 142));obtain⟨Z,hZ⟩:=gg (wr.heap.size);rw[hW]at T G5 d1' dl' gl' y0 G X yl;rw[hZ]at y0 G X yl;rw[hW,hZ];clear hW hZ jj A ba HM o9 hC hF hp R U a0 H M J0 d1 dl gl;cases hb:(r.P k).pe.both with
   |false=>
    have Y:Hid _:=wq (P:=r.P) (n:=x) (k:=k) (λhc=>by have:=hc.1;rw[hb]at this;cases this);rw[hb]at X
    go_wp2
    go_quiet(fail)
    go_wp2
    go_roundw
    case rel=>exact⟨k+1,eh,by go_num,by rw[Y.out],by rw[Y.out],below_drewN T.out _⟩
    case measure=>simp[eY];omega
   |true=>
    rw[hb]at X;cases hw:((r.P k).pe.who==x)with
    |false=>
     have Y:Hid _:=wq (P:=r.P) (n:=x) (k:=k) (λhc=>by have:=hc.2.1;simp[this]at hw)
     go_wp2
     go_quiet(fail)
     go_wp2
     go_roundw
     case rel=>exact⟨k+1,eh,by go_num,by rw[Y.out],by rw[Y.out],below_drewN T.out _⟩
     case measure=>simp[eY];omega
    |true=>
     have J:(r.P k).pe.who=x:=by simpa using hw
     cases V:jP r.P x k with
     |none=>
      have E:Hid _:=xt (P:=r.P) (n:=x) (k:=k) ⟨hb,J,by rw[V]⟩;have e1:Hn ν=0:=rfl;have u:(ν:Option Nat).isSome=false:=rfl;rw[e1,u]
      go_wp2
      go_quiet(fail)
      go_wp2
      go_roundw
      case rel=>exact⟨k+1,eh,by go_num,by rw[E.out];rfl,by rw[E.out];rfl,below_drewN T.out _⟩
      case measure=>simp[eY];omega
     |some b=>
      have hbk:=K8 _ _ _ _ V;have hM:=G5.out b V;have kA:(b:Int)<(n:Int):=eh;have yo:(0:Int)<=(b:Int):=eh;have e1:Hn (μ b)=(b:Int):=rfl;have u:(μ b:Option Nat).isSome=true:=rfl;by_cases S:(r.P k).m<(r.P b).m
      ·have E:Hid _:=xt (P:=r.P) (n:=x) (k:=k) ⟨hb,J,by rw[V];simp[S]⟩;have hmd:decide ((r.P k).m<(r.P b).m)=true:=by simp[S]
       rw[e1,u];clear S V
       go_wp2
       go_quiet(fail)
       go_wp2
       go_roundw
       case rel=>exact⟨k+1,eh,by go_num,by rw[E.out];rfl,by rw[E.out];rfl,below_drewN T.out _⟩
       case measure=>simp[eY];omega
      ·have Y:Hid (jP r.P x (k+1)=μ b):=(wq (P:=r.P) (n:=x) (k:=k) (λhc=>by have:=hc.2.2;rw[V]at this;simp[S]at this)).trans V;have hmd:decide ((r.P k).m<(r.P b).m)=false:=by simp[S]
       rw[e1,u];clear S V
       go_wp2
       go_quiet(fail)
       go_wp2
       go_roundw
       case rel=>exact⟨k+1,eh,by go_num,by rw[Y.out];rfl,by rw[Y.out];rfl,below_drewN T.out _⟩
       case measure=>simp[eY];omega
  ·have AK:k=n:=eh;subst AK
   go_wp2
   go_ret2
   exact⟨rfl,iK⟩
def Gn(r:iM)(k:Nat):List jE:=(List.range k).filterMap λ(j:Nat)=>(jP r.P ((j:Int)+1) r.n).map λb=>((j:Int)+1,(r.P b).m)
theorem Rh(h:jP r.P ((k:Int)+1) r.n=ν):Gn r (k+1)=Gn r k:=by
 unfold Gn;rw[bZ,bI];simp[h]
theorem Ri {b:Nat} (h:jP r.P ((k:Int)+1) r.n=μ b):Gn r (k+1)=Gn r k++ [((k:Int)+1,(r.P b).m)] :=by
 unfold Gn;rw[bZ,bI];simp[h]
theorem Ew(z:Zt)(r:iM)(w:dY)(h:mr w z r):
 eW eX 179 #[π (μ ⟨z.R,0,ν⟩)] w λe w'=>∃v,e=ρ v/\Made w w' v (jx r):=by
 obtain⟨i0,hi,ox,nh,mO⟩:=aY zh;have HR:Hid _:=h;clear h
 go_in
 go_wp2
 go_loopw [3,7] (λout i wr=>∃(k:Nat) (ao:Option Addr) (m cp:Nat),k<=6/\out=σ ao m cp/\i=ι κ k/\m<=k/\Row wr 2 (σ ao m cp) m (iR (Gn r k))/\(∀j,eu (σ ao m cp)=μ j->w.heap.size<=j)/\eE w wr) (λ_ i _=>6-(eY i).toNat)
 case atStart=>exact⟨0,ν,0,0,Nat.zero_le _,rfl,rfl,Nat.le_refl _,by simpa[Gn,iR]using Row.nil w 2,λj D=>mY D,av _ _⟩
 case round=>
  obtain⟨k,ao,m,cp,hk,rfl,rfl,ZK,V,T,X⟩:=hrel;by_cases kB:k<6
  ·have nQ:(k:Int)<6:=eh;have G6:(0:Int)<=(k:Int):=eh;have R:=HR.out.below X;have Z:=Ev z r ((k:Int)+1) wr R;cases hb:jP r.P ((k:Int)+1) r.n with
   |none=>
    have Z:eW eX 200 #[π (μ ⟨z.R,0,ν⟩),ι κ ((k:Int)+1)] wr λe w'=>e=ρ (τ #[ι κ 0,.bool false])/\eE wr w':=by
     rw[hb]at Z;exact Z
    have J:Hid _:=Rh hb;have Y:Hid _:=V;have M:Hid _:=X;clear R hb V X;go_wp2_with(fail);refine Z.mono ?_;rintro e w1 ⟨rfl,b1⟩;clear Z
    go_wp2
    go_roundw
    case rel=>exact⟨k+1,_,m,cp,eh,rfl,by go_num,eh,by rw[J.out];exact Row.below Y.out b1,T,gk M.out b1⟩
    case measure=>simp[eY];omega
   |some b=>
    have Z:eW eX 200 #[π (μ ⟨z.R,0,ν⟩),ι κ ((k:Int)+1)] wr λe w'=>e=ρ (τ #[ι κ (b:Int),.bool true])/\eE wr w':=by
     rw[hb]at Z;exact Z
    have J:Hid _:=Ri hb;have H:=(oA hb).1;have S:Hid _:=R;have Y:Hid _:=V;have M:Hid _:=X;clear R hb V X;go_wp2_with(fail);refine Z.mono ?_;rintro e w1 ⟨rfl,b1⟩;have U:=S.out.below b1;have d1:=U.c1;have dl:=U.lt;have gl:=U.JZ;have g0:=(U.pt b H).c0;have kA:(b:Int)<(r.n:Int):=eh;have yo:(0:Int)<=(b:Int):=eh;have vY:=Row.below Y.out b1;have E:=gk M.out b1;clear Z U;go_wp2_with(at_builtin;go_must(refine iG _ rfl (.tmp 18) (.tmp 30) 38 rfl 123 i0 (.agg #[ι κ 0,ι κ 0]) 2 16 Tryz.underlying38 hi ox nh mO rfl eA (σ ao m cp) m (iR (Gn r k)) rfl (vY.alloc _) _ 1 1 [ι κ ((k:Int)+1),ι κ (r.P b).m] rfl rfl eA (ng _ _ _ _ _ gY) (lK _ _ _ _) (by unfold maxLen;omega) eh ?_));intro g' jr w2 u A y;have mR:=lV (E.alloc E.size _) A T;have mM:=nU (B:=w.heap.size) y (by have:=E.size;omega) T;rw[show [eB .i64 ((k:Int)+1),eB .i64 (r.P b).m] =[eB .i64 (((k:Int)+1,(r.P b).m):jE).1,eB .i64 (((k:Int)+1,(r.P b).m):jE).2]from rfl,<-mb,<-J.out]at u;clear A y
    go_wp2
    go_roundw
    case rel=>exact⟨k+1,_,m+1,jr,eh,rfl,by go_num,eh,u,λj D=>kF mM D,mR⟩
    case measure=>simp[eY];omega
  ·have G:k=6:=eh;subst G;have CD:m=(jx r).length:=by have:=V.1;rw[ld]at this;show m=(Gn r 6).length;omega
   go_wp2
   go_ret;exact⟨_,rfl,⟨by rw[<-CD];exact V,T,X⟩⟩
theorem AR(a b:Option Addr)(ca E n m:Nat)(os qs:List jE)(w:dY)(S:jc w a n os)(hb:jc w b m qs)(hn:n<=1000000)(hm:m<=1000000):
 eW eX 178 #[σ a n ca,σ b m E] w λe w'=>e=ρ (.bool (decide (os=qs)))/\∃k,w'=w.drewN k:=by
 have hl:=S.1;have IE:=hb.1;by_cases H:n=m
 ·subst H;have heq:((n:Int) !=(n:Int))=false:=gY
  go_in
  go_wp2
  go_loopw [13] (λi wr=>∃k m:Nat,k<=n/\i=ι κ k/\os.take k=qs.take k/\wr=w.drewN m) (λi _=>n-(eY i).toNat)
  case atStart=>exact⟨0,0,Nat.zero_le _,rfl,rfl,rfl⟩
  case round=>
   obtain⟨k,m,hk,rfl,U,rfl⟩:=hrel;have M:Hid _:=U;clear U;by_cases kB:k<n
   ·rcases S.2 with hA|⟨b1,o1,rfl,hA⟩
    ·omega
    rcases hb.2 with X|⟨b2,o2,rfl,X⟩
    ·omega
    obtain⟨c1,c2⟩:=hA k eh;obtain⟨c3,c4⟩:=X k eh;have V:Hid (os.take (k+1)=os.take k++ [os[k]'(by omega)]):=aB eh;have T:Hid (qs.take (k+1)=qs.take k++ [qs[k]'(by omega)]):=aB eh;have Y:Hid (os=qs->os[k]'(by omega)=qs[k]'(by omega)):=λh=>by subst h;rfl
    clear hA X;generalize os[k]'(by omega)=o at c1 c2 V Y;generalize qs[k]'(by omega)=q at c3 c4 T Y;have nQ:(k:Int)<(n:Int):=eh;cases q1:(o.1==q.1)
    ·have Z:Hid (decide (os=qs)=false):=by
      show _=_;rw[bO];intro h;have:=Y.out h;rw[this]at q1;simp at q1
     go_wp2
     go_quiet(fail)
     go_wp2_with(fail);rw[Z.out];go_ret;exact⟨rfl,_,drewN_drewN _ _ _⟩
    ·cases q2:(o.2==q.2)
     ·have Z:Hid (decide (os=qs)=false):=by
       show _=_;rw[bO];intro h;have:=Y.out h;rw[this]at q2;simp at q2
      go_wp2
      go_quiet(fail)
      go_wp2_with(fail);rw[Z.out];go_ret;exact⟨rfl,_,drewN_drewN _ _ _⟩
     ·have G:Hid (os.take (k+1)=qs.take (k+1)):=by
       show _=_;rw[V.out,T.out,M.out];simp at q1 q2;congr 2;exact aV q1 q2
      go_wp2
      go_quiet(fail)
      go_wp2
      go_roundw
      case rel=>exact⟨k+1,_,eh,by go_num,G.out,rfl⟩
      case measure=>simp[eY];omega
   ·have J:decide (os=qs)=true:=by
     have D:os.take k=os:=aJ eh;have A:qs.take k=qs:=aJ eh;have:=M.out;rw[D,A]at this;simp[this]
    go_wp2_with(fail);rw[J];go_ret;exact⟨rfl,m,rfl⟩
 ·have heq:((n:Int) !=(m:Int))=true:=by simp;omega
  have Z:decide (os=qs)=false:=by
   rw[bO];intro h;subst h;omega
  rw[Z]
  go_in
  go_wp2
  go_ret;exact⟨rfl,0,rfl⟩
theorem Rj(C:kV)(o:Nat)(e:jE)(es:List jE):ni C o (e::es)=ni (tM C o e.1.toNat e.2) o es:=rfl
theorem Pp(o:Nat)(own:Int)(x y:Nat):∀(es:List jE) (Y:Int) (C:kV),qt own Y es=0->ni C o es x y=if x=o then((es.find? λe=>e.1==(y:Int)).map (·.2)).getD (C x y)else C x y
 |[],_,C,_=>by
  show C x y=_;split<;>simp
 |e::es,Y,C,h=>by
  unfold qt at h;split at h
  ·simp at h
  ·rename_i h1
   split at h
   ·simp at h
   ·rw[Rj,Pp o own x y es e.1 _ h];by_cases hx:x=o
    ·rw[ai hx,ai hx,List.find?_cons];by_cases hy:e.1=(y:Int)
     ·have Z:(e.1==(y:Int))=true:=by simp[hy]
      rw[Z];have X:es.find? (λe=>e.1==(y:Int))=ν:=by
       rw[List.find?_eq_none];intro f hf;have:=Pq own es e.1 h f hf;simp;omega
      rw[X];simp only[Option.map_none,Option.getD_none,Option.map_some,Option.getD_some,tM];rw[ai ⟨hx,eh⟩]
     ·have Z:(e.1==(y:Int))=false:=by simp[hy]
      rw[Z];have:tM C o e.1.toNat e.2 x y=C x y:=by
       simp only[tM];rw[af eh]
      rw[this]
    ·rw[af hx,af hx];simp only[tM];rw[af eh]
where
 Pq (own:Int):∀(es:List jE) (ah:Int),qt own ah es=0->∀f∈es,ah<f.1
  |[],_,_,f,hf=>by simp at hf
  |e::es,ah,h,f,hf=>by
   unfold qt at h;split at h
   ·simp at h
   ·split at h
    ·simp at h
    ·rcases aP.1 hf with rfl|hf
     ·omega
     ·have:=Pq own es e.1 h f hf;omega
def gAt(es:List jE)(y:Nat):Int:=((es.find? λe=>e.1==(y:Int)).map (·.2)).getD 0
theorem K9 {K:Int->Option PS} {n:Nat} {S:Nat->SV} {E:Nat->List jE} (h:vp K n S E)(x y:Nat):∀k,k<=n->(∀j,j<k->(S j).own=(x:Int)->jV S E k x y=gAt (E j) y)/\((∀j,j<k->(S j).own≠(x:Int))->jV S E k x y=0)
 |0,_=>⟨λj Z=>eh,λ_=>rfl⟩
 |k+1,hk=>by
  have ih:=K9 h x y k eh;have T:=h.ok k eh;obtain⟨ho,_,_,M⟩:=jt T;have U:jV S E (k+1) x y=if x=(S k).own.toNat then(((E k).find? λe=>e.1==(y:Int)).map (·.2)).getD (jV S E k x y)else jV S E k x y:=Pp (S k).own.toNat (S k).own x y (E k) 0 (jV S E k) M
  rw[U];by_cases hx:x=(S k).own.toNat
  ·rw[ai hx];have V:jV S E k x y=0:=ih.2 (λj Z e=>by
    have:=h.Tc j k Z eh;omega)
   rw[V];refine⟨λj Z hs=> ?_,λY=>absurd eh (Y k eh)⟩;by_cases X:j=k
   ·subst X;rfl
   ·have:=h.Tc j k eh eh;omega
  ·rw[af hx];refine⟨λj Z hs=> ?_,λY=>ih.2 (λj Z=>Y j eh)⟩;by_cases X:j=k
   ·subst X;omega
   ·exact ih.1 j eh hs
theorem vp.grid {S:Nat->SV} {E:Nat->List jE} (h:vp K n S E)(U:Xn K):jV S E n=xV K:=by
 funext x y
 have X:=K9 h x y n (Nat.le_refl _);unfold xV;cases Z:K (x:Int)with
 |none=>
  simp only;refine X.2 (λj Y e=> ?_);have:=(h.at_ j Y).2;rw[e,Z]at this;cases this
 |some q=>
  simp only;have hr:=U x (by rw[Z];rfl);obtain⟨j,Y,V⟩:=h.all x ⟨eh,eh⟩ (by rw[Z];rfl);rw[X.1 j Y V];have:=(h.at_ j Y).2;rw[V,Z]at this;have:=(dO (Option.some.inj this)).2;unfold gAt;rw[<-this]
