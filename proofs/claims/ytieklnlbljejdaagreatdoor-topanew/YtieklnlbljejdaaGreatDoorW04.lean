import Derived.Test.YtieklnlbljejdaaGreatDoorW03
open Go.Value renaming int → ι, slice → σ, pointer → π, tuple → τ, nilIface → η
open Go.IntKind renaming i64 → κ
open Go.Ending renaming returned → ρ
open Go.Obj renaming cells → γ
open Option renaming none → ν, some → μ
open Go renaming Value → dZ, World → dY, Calls → eZ
open Go.Proofs.Tryz renaming prog → e7
open Go.RowKit renaming intOf → fa
open And renaming intro → gb
open Go.Value renaming ownBlock → eu
open List renaming range → gg
set_option maxRecDepth 100000
set_option maxHeartbeats 8000000
namespace Go.Proofs.YtieklnlbljejdaaGreatDoor
open Go.RowKit
variable {B:Nat} {X:Nat->Prop} {os:List jH} {ps:List PV} {v:Value} {w w':World}
def LS.next(s:LS)(nx:Int):LS:=if nx<=3 then {s with st:=nx,ns:=s.fs,nm:=s.fm,sz:=255}else {s with st:=nx}
theorem Kept.tab {o:Option Nat} (k:Kept w w' B o)(h:jh w)(hB:B≠0)(Y:o≠μ 0):jh w':=λe s Z hs=>
 (aj (a:=⟨0,e*10+s,ν⟩) (k.block 0 h.lt eh Y)).trans (h e s Z hs)
theorem Pz(B:Nat)(X:Nat->Prop)(s:LS)(v:dZ)(ps:List PV)(p:PV)(ev:Int)(D:List UInt8)(nx:Int)(f:Nat)(w:dY)(Y:jh w)(h:rK w B X s v ps)(T:jj s.st ev=(D,nx,f))(hf:f≠0):
 eZ e7 171 #[π (μ ⟨B,0,ν⟩),ι κ ev,.agg #[ι κ p.code,ι κ p.id,σ p.a p.n p.cap]] w λe w'=>e=ρ (.iface 128 (ι κ (f:Int)))/\eE w w':=by
 have V:=gY w (γ #[ι κ p.code,ι κ p.id,σ p.a p.n p.cap] 37);have U:=I0 s.st ev D nx f T _ (Y.below V);have Z:jk f=.iface 128 (ι κ (f:Int)):=by simp[jk,hf]
 rw[Z]at U;have hl:=h.lk.lt;have c6:w.cell? ⟨B,6,ν⟩=μ (ι κ s.st):=h.lk.cell 6;clear h Y Z
 go_in
 go_wp2_with(fail);refine U.mono ?_;rintro e w1 ⟨rfl,m1,rfl⟩
 go_wp2
 go_ret;exact⟨rfl,below_drewN V _⟩
structure Rl(w wr:dY)(B:Nat)(X:Nat->Prop)(Z:Nat)(v:dZ)(ps:List PV)(p:PV)(S:ByteArray)(k:Nat)(sF:LS)(oF:List kP)(sk:LS)(vk:dZ)(qs:List PV):Prop where
 rep:rK wr B X sk vk (ps++qs)
 bd:Bd sk (100+k)
 fin:qM (S.data.toList.drop k) sk=sF
 out:qs.map PV.abs++yq (S.data.toList.drop k) sk p.abs=oF
 zp:vK wr X vk p
 kept:Kept w wr B v.ownBlock
 hv:∀g,vk.ownBlock=μ g->v.ownBlock=μ g \/w.heap.size<=g
 d0:wr.cell? ⟨Z,0,ν⟩=μ (ι κ p.code)
 d1:wr.cell? ⟨Z,1,ν⟩=μ (ι κ p.id)
 d2:wr.cell? ⟨Z,2,ν⟩=μ (σ p.a p.n p.cap)
 nz:vk.ownBlock≠μ Z
 few:qs.length<=k
theorem K5(c:UInt8)(s:LS)(a:kP):(Gl c s a).length<=1:=by
 unfold Gl;split
 ·simp
 ·split
  ·simp
  ·split
   ·simp
   ·split<;>simp
theorem K6 {wr V:dY} {Z:Nat} {p:PV} {S:ByteArray} {k:Nat} {sF:LS} {oF:List kP} {sk:LS} {vk:dZ} {qs:List PV} {c:UInt8} {r:List UInt8}
 (Y:Rl w wr B X Z v ps p S k sF oF sk vk qs) (H:S.data.toList.drop k=c::r) (hW:nF wr.drew V B X (pY c sk) vk (ps++qs) (Gl c sk p.abs)) (u:eE wr wr.drew):
 ∃v2 q2,Rl w V B X Z v ps p S (k+1) sF oF (pY c sk) v2 q2:=by
 obtain⟨⟨v2,q2,hR,A,hv⟩,h⟩:=hW;have y:S.data.toList.drop (k+1)=r:=by
  have:=congrArg (List.drop 1) H;simpa using this
 have M:Kept wr V B vk.ownBlock:=(Kept.iW B vk.ownBlock u).trans h (λi e=>.inl e);have T:∀j,V.cell? ⟨Z,j,ν⟩=wr.cell? ⟨Z,j,ν⟩:=λj=>aj (a:=⟨Z,j,ν⟩) (M.block Z (ag wr _ Y.d0) (λe=>by
  subst e;have U:=Y.d0;have E:=Y.d1;have J:=Y.d2;have D:wr.cell? ⟨Z,2,ν⟩=μ (ι κ sk.ns):=Y.rep.lk.cell 2;rw[J]at D;simp at D) Y.nz)
 have rV:wr.drew.heap.size=wr.heap.size:=rfl;refine⟨v2,qs++q2,by rw[<-aD];exact hR,?_,?_,?_,?_,?_,?_,(T 0).trans Y.d0,(T 1).trans Y.d1,(T 2).trans Y.d2,?_,?_⟩
 ·have:=Bd.act Y.bd eh c;exact⟨this.o1,this.o2,by have:=this.l1;push_cast;omega,by have:=this.l2;push_cast;omega⟩
 ·rw[y,<-Y.fin,H];rfl
 ·rw[y,<-Y.out,H,cS,A,aD];rfl
 ·exact Y.zp.kept Y.rep.self M (λg G=>hv g G)
 ·refine Y.kept.trans M (λi e=> ?_);rcases Y.hv i e with U|U
  ·exact .inl U
  ·exact .inr U
 ·intro g G;rcases hv g G with U|U
  ·exact Y.hv g U
  ·exact .inr (Nat.le_trans Y.kept.size U)
 ·intro e;rcases hv Z e with U|U
  ·exact Y.nz U
  ·have J:Z<wr.heap.size:=ag wr _ Y.d0;have E:wr.heap.size<=Z:=U;omega
 ·rw[az];have U:q2.length=(Gl c sk p.abs).length:=by rw[<-A];simp
  have E:=K5 c sk p.abs;have J:=Y.few;omega
theorem U3(B:Nat)(X:Nat->Prop)(s:LS)(v:dZ)(ps:List PV)(p:PV)(ev:Int)(S:ByteArray)(nx:Int)(w:dY)(hT:jh w)(h:rK w B X s v ps)(hb:Bd s 100)(hp:vK w X v p)(hn:ps.length<=50)(hR:jj s.st ev=(S.data.toList,nx,0))(hS:S.size<=4):
 eZ e7 171 #[π (μ ⟨B,0,ν⟩),ι κ ev,.agg #[ι κ p.code,ι κ p.id,σ p.a p.n p.cap]] w λe w'=>e=ρ η/\nF w w' B X (qM S.data.toList (s.next nx)) v ps (yq S.data.toList (s.next nx) p.abs):=by
 have A:=gY w (γ #[ι κ p.code,ι κ p.id,σ p.a p.n p.cap] 37);have hA:=λj=>aq w #[ι κ p.code,ι κ p.id,σ p.a p.n p.cap] 37 (0,0) j;have kj:=I0 s.st ev S.data.toList nx 0 hR _ (hT.below A);have e0:jk 0=η:=rfl;have eS:(⟨S.data.toList.toArray⟩:ByteArray)=S:=gZ;rw[e0,eS]at kj;have hl:=h.lk.lt;have Ya:=h.row.lt;have c6:w.cell? ⟨B,6,ν⟩=μ (ι κ s.st):=h.lk.cell 6;have h0:=h.below A;have hp0:=hp.kept h.self (Kept.iW B v.ownBlock A) (λ_ e=>.inl e);obtain⟨M,u⟩:=gq (qM S.data.toList (s.next nx));obtain⟨J,y⟩:=gq (yq S.data.toList (s.next nx) p.abs);rw[u,y];have HsF:Hid _:=u;have HoF:Hid _:=y;clear u y
 go_in
 go_wp2_with(fail);refine kj.mono ?_;rintro e w1 ⟨rfl,m1,rfl⟩;obtain⟨U,j8⟩:=gq ((w.alloc (γ #[ι κ p.code,ι κ p.id,σ p.a p.n p.cap] 37)).drewN m1);obtain⟨Z,hZ⟩:=gq (w.heap.size);have d0:U.cell? ⟨Z,0,ν⟩=μ (ι κ p.code):=by rw[<-j8,<-hZ];exact hA 0
 have d1:U.cell? ⟨Z,1,ν⟩=μ (ι κ p.id):=by rw[<-j8,<-hZ];exact hA 1
 have d2:U.cell? ⟨Z,2,ν⟩=μ (σ p.a p.n p.cap):=by rw[<-j8,<-hZ];exact hA 2
 have kC:eE w U:=by rw[<-j8];exact below_drewN A m1
 have T:rK U B X s v ps:=h.below kC;have CS:vK U X v p:=hp.kept h.self (Kept.iW B v.ownBlock kC) (λ_ e=>.inl e);have XA:=Kept.iW B v.ownBlock kC;rw[j8,hZ];have yF:B≠Z:=eh;have hnz:v.ownBlock≠μ Z:=λe=>by have:=Ya Z e;omega
 clear kj j8 hZ hA h0 A h c6 hl e0 eS hT hp hp0 kC Ya;have X9:=T.lk.lt;have c0:U.cell? ⟨B,0,ν⟩=μ (ι κ s.fs):=T.lk.cell 0;have c1:U.cell? ⟨B,1,ν⟩=μ (ι κ s.fm):=T.lk.cell 1;have c2:U.cell? ⟨B,2,ν⟩=μ (ι κ s.ns):=T.lk.cell 2;have c3:U.cell? ⟨B,3,ν⟩=μ (ι κ s.nm):=T.lk.cell 3;have c6:U.cell? ⟨B,6,ν⟩=μ (ι κ s.st):=T.lk.cell 6;have c7:U.cell? ⟨B,7,ν⟩=μ (ι κ s.sz):=T.lk.cell 7;have fz:∀j,U.frozen? ⟨B,j,ν⟩=false:=T.lk.frozen;have tail:∀(E:dY) (s2:LS),rK E B X s2 v ps->Kept U E B v.ownBlock->s.next nx=s2->Bd s2 100->Rl w E B X Z v ps p S 0 M J s2 v [] :=by
  intro E s2 Gc Gx hs2 mX;have Ep:∀j,E.cell? ⟨Z,j,ν⟩=U.cell? ⟨Z,j,ν⟩:=λj=>aj (a:=⟨Z,j,ν⟩) (Gx.block Z (ag U _ d0) (λe=>yF e.symm) hnz);exact⟨by rw[aB];exact Gc,⟨mX.o1,mX.o2,by have:=mX.l1;omega,by have:=mX.l2;omega⟩,by rw[<-HsF.out,hs2];rfl,by rw[<-HoF.out,hs2];rfl,CS.kept T.self Gx (λ_ e=>.inl e),XA.trans Gx (λi e=>.inl e),λ_ e=>.inl e,(Ep 0).trans d0,(Ep 1).trans d1,(Ep 2).trans d2,hnz,Nat.le_refl _⟩
 have HT:Hid _:=tail;clear tail;clear HsF HoF;by_cases hx:nx<=3
 ·have M0:Hid (Rl w ((((U.setCell ⟨B,6,ν⟩ (ι κ nx)).setCell ⟨B,2,ν⟩ (ι κ s.fs)).setCell ⟨B,3,ν⟩ (ι κ s.fm)).setCell ⟨B,7,ν⟩ (ι κ 255)) B X Z v ps p S 0 M J {s with st:=nx,ns:=s.fs,nm:=s.fm,sz:=255} v []):=
   HT.out _ _ ((((T.lz 6 _ {s with st:=nx} rfl).lz 2 _ {s with st:=nx,ns:=s.fs} rfl).lz 3 _ {s with st:=nx,ns:=s.fs,nm:=s.fm} rfl).lz 7 _ _ rfl) (kO (kO (kO (kO (Kept.refl _ B _) 6 _) 2 _) 3 _) 7 _) (by simp[LS.next,hx]) ⟨hb.o1,hb.o2,hb.l1,hb.l2⟩
  clear HT T XA CS;go_wp2_with(fail);obtain⟨E,ny⟩:=gq (((((U.setCell ⟨B,6,ν⟩ (ι κ nx)).setCell ⟨B,2,ν⟩ (ι κ s.fs)).setCell ⟨B,3,ν⟩ (ι κ s.fm)).setCell ⟨B,7,ν⟩ (ι κ 255)));have M1:Hid (Rl w E B X Z v ps p S 0 M J {s with st:=nx,ns:=s.fs,nm:=s.fm,sz:=255} v []):=by show Rl _ _ _ _ _ _ _ _ _ _ _ _ _ _ _;rw[<-ny];exact M0.out
  rw[ny];clear M0 ny d0 d1 d2 c0 c1 c2 c3 c6 c7 fz
  go_loopw [42] (λi wr=>∃(k:Nat) (H:LS) (G:dZ) (qs:List PV),k<=S.size/\i=ι κ k/\Rl w wr B X Z v ps p S k M J H G qs) (λi _=>S.size-(fa i).toNat)
  case atStart=>exact⟨0,_,v,[],Nat.zero_le _,rfl,M1.out⟩
  case round=>
   obtain⟨k,H,G,qs,A,rfl,Y⟩:=hrel;by_cases kD:k<S.size
   ·have nS:(k:Int)<(S.size:Int):=eh;have Hr:(0:Int)<=(k:Int):=eh;have HD:Hid (S.data.toList.drop k=S[k] ::S.data.toList.drop (k+1)):=by
     show _=_;rw[aS (by simpa using kD)];rfl
    obtain⟨x0,x1,x2⟩:=gb Y.d0 (gb Y.d1 Y.d2);have xl:Z<wr.heap.size:=ag wr _ x0;have D:eE wr wr.drew:=jG (au _ _);have HC:=Dj S[k] B X H G (ps++qs) p wr.drew (Y.rep.below D) ⟨Y.bd.o1,Y.bd.o2,by have:=Y.bd.l1;omega,by have:=Y.bd.l2;omega⟩ (Y.zp.kept Y.rep.self (Kept.iW B G.ownBlock D) (λ_ e=>.inl e)) (by rw[az];have:=Y.few;omega)
    go_wp2
    go_region_with(go_at_call 208;refine HC.mono ?_;rintro e V ⟨rfl,hW⟩)
    all_goals
     have M2:Hid (∃v2 q2,Rl w V B X Z v ps p S (k+1) M J (pY S[k] H) v2 q2):=K6 Y HD.out hW D;clear HC
     go_wp2
     go_roundw
     case rel=>
      obtain⟨v2,q2,uj⟩:=M2.out;exact⟨k+1,_,v2,q2,eh,by go_num,uj⟩
     case measure=>simp[fa];omega
   ·have G7:S.data.toList.drop k=[] :=a8 (by
     have:S.data.toList.length=S.size:=gZ;omega)
    have HF:Hid (nF w wr B X M v ps J):=by
     have T:=Y.fin;have h2:=Y.out;rw[G7]at T h2;have h3:H=M:=T;subst h3;refine⟨⟨G,qs,Y.rep,by simpa[yq]using h2,Y.hv⟩,Y.kept⟩
    clear Y G7
    go_wp2
    go_ret;exact⟨rfl,HF.out⟩
 ·have M0:Hid (Rl w (U.setCell ⟨B,6,ν⟩ (ι κ nx)) B X Z v ps p S 0 M J {s with st:=nx} v []):=
   HT.out _ _ (T.lz 6 _ _ rfl) (kO (Kept.refl _ B _) 6 _) (by simp[LS.next,hx]) ⟨hb.o1,hb.o2,hb.l1,hb.l2⟩
  clear HT T XA CS;go_wp2_with(fail);obtain⟨E,ny⟩:=gq ((U.setCell ⟨B,6,ν⟩ (ι κ nx)));have M1:Hid (Rl w E B X Z v ps p S 0 M J {s with st:=nx} v []):=by show Rl _ _ _ _ _ _ _ _ _ _ _ _ _ _ _;rw[<-ny];exact M0.out
  rw[ny];clear M0 ny d0 d1 d2 c0 c1 c2 c3 c6 c7 fz
  go_loopw [42] (λi wr=>∃(k:Nat) (H:LS) (G:dZ) (qs:List PV),k<=S.size/\i=ι κ k/\Rl w wr B X Z v ps p S k M J H G qs) (λi _=>S.size-(fa i).toNat)
  case atStart=>exact⟨0,_,v,[],Nat.zero_le _,rfl,M1.out⟩
  case round=>
   obtain⟨k,H,G,qs,A,rfl,Y⟩:=hrel;by_cases kD:k<S.size
   ·have nS:(k:Int)<(S.size:Int):=eh;have Hr:(0:Int)<=(k:Int):=eh;have HD:Hid (S.data.toList.drop k=S[k] ::S.data.toList.drop (k+1)):=by
     show _=_;rw[aS (by simpa using kD)];rfl
    obtain⟨x0,x1,x2⟩:=gb Y.d0 (gb Y.d1 Y.d2);have xl:Z<wr.heap.size:=ag wr _ x0;have D:eE wr wr.drew:=jG (au _ _);have HC:=Dj S[k] B X H G (ps++qs) p wr.drew (Y.rep.below D) ⟨Y.bd.o1,Y.bd.o2,by have:=Y.bd.l1;omega,by have:=Y.bd.l2;omega⟩ (Y.zp.kept Y.rep.self (Kept.iW B G.ownBlock D) (λ_ e=>.inl e)) (by rw[az];have:=Y.few;omega)
    go_wp2
    go_region_with(go_at_call 208;refine HC.mono ?_;rintro e V ⟨rfl,hW⟩)
    all_goals
     have M2:Hid (∃v2 q2,Rl w V B X Z v ps p S (k+1) M J (pY S[k] H) v2 q2):=K6 Y HD.out hW D;clear HC
     go_wp2
     go_roundw
     case rel=>
      obtain⟨v2,q2,uj⟩:=M2.out;exact⟨k+1,_,v2,q2,eh,by go_num,uj⟩
     case measure=>simp[fa];omega
   ·have G7:S.data.toList.drop k=[] :=a8 (by
     have:S.data.toList.length=S.size:=gZ;omega)
    have HF:Hid (nF w wr B X M v ps J):=by
     have T:=Y.fin;have h2:=Y.out;rw[G7]at T h2;have h3:H=M:=T;subst h3;refine⟨⟨G,qs,Y.rep,by simpa[yq]using h2,Y.hv⟩,Y.kept⟩
    clear Y G7
    go_wp2
    go_ret;exact⟨rfl,HF.out⟩
theorem A8(a b:Option Addr)(ca D n m:Nat)(os qs:List jH)(w:dY)(H:jg w a n os)(hb:jg w b m qs)(hn:n<=1000000)(hm:m<=1000000):
 eZ e7 230 #[σ a n ca,σ b m D] w λe w'=>e=ρ (.bool (decide (os=qs)))/\∃k,w'=w.drewN k:=by
 have hl:=H.1;have I2:=hb.1;by_cases E:n=m
 ·subst E;have heq:((n:Int) !=(n:Int))=false:=gZ
  go_in
  go_wp2
  go_loopw [13] (λi wr=>∃k m:Nat,k<=n/\i=ι κ k/\os.take k=qs.take k/\wr=w.drewN m) (λi _=>n-(fa i).toNat)
  case atStart=>exact⟨0,0,Nat.zero_le _,rfl,rfl,rfl⟩
  case round=>
   obtain⟨k,m,hk,rfl,J,rfl⟩:=hrel;have M:Hid _:=J;clear J;by_cases kD:k<n
   ·rcases H.2 with hA|⟨b1,o1,rfl,hA⟩
    ·omega
    rcases hb.2 with V|⟨b2,o2,rfl,V⟩
    ·omega
    obtain⟨c1,c2⟩:=hA k eh;obtain⟨c3,c4⟩:=V k eh;have U:Hid (os.take (k+1)=os.take k++ [os[k]'(by omega)]):=aA eh;have T:Hid (qs.take (k+1)=qs.take k++ [qs[k]'(by omega)]):=aA eh;have Y:Hid (os=qs->os[k]'(by omega)=qs[k]'(by omega)):=λh=>by subst h;rfl
    clear hA V;generalize os[k]'(by omega)=o at c1 c2 U Y;generalize qs[k]'(by omega)=q at c3 c4 T Y;have nS:(k:Int)<(n:Int):=eh;cases q1:(o.1==q.1)
    ·have Z:Hid (decide (os=qs)=false):=by
      show _=_;rw[bK];intro h;have:=Y.out h;rw[this]at q1;simp at q1
     go_wp2
     go_quiet(fail)
     go_wp2_with(fail);rw[Z.out];go_ret;exact⟨rfl,_,drewN_drewN _ _ _⟩
    ·cases q2:(o.2==q.2)
     ·have Z:Hid (decide (os=qs)=false):=by
       show _=_;rw[bK];intro h;have:=Y.out h;rw[this]at q2;simp at q2
      go_wp2
      go_quiet(fail)
      go_wp2_with(fail);rw[Z.out];go_ret;exact⟨rfl,_,drewN_drewN _ _ _⟩
     ·have G:Hid (os.take (k+1)=qs.take (k+1)):=by
       show _=_;rw[U.out,T.out,M.out];simp at q1 q2;congr 2;exact aV q1 q2
      go_wp2
      go_quiet(fail)
      go_wp2
      go_roundw
      case rel=>exact⟨k+1,_,eh,by go_num,G.out,rfl⟩
      case measure=>simp[fa];omega
   ·have u:decide (os=qs)=true:=by
     have A:os.take k=os:=aI eh;have y:qs.take k=qs:=aI eh;have:=M.out;rw[A,y]at this;simp[this]
    go_wp2_with(fail);rw[u];go_ret;exact⟨rfl,m,rfl⟩
 ·have heq:((n:Int) !=(m:Int))=true:=by simp;omega
  have Z:decide (os=qs)=false:=by
   rw[bK];intro h;subst h;omega
  rw[Z]
  go_in
  go_wp2
  go_ret;exact⟨rfl,0,rfl⟩
def nY(s:LS)(ev:Int):LS:=qM (jj s.st ev).1 (s.next (jj s.st ev).2.1)
def pT(s:LS)(ev:Int)(zp:kP):List kP:=yq (jj s.st ev).1 (s.next (jj s.st ev).2.1) zp
theorem Ba(s e:Int):(jj s e).1.length<=4:=by
 unfold jj;split
 ·simp
 ·rename_i h
  exact(show∀e,e<12->∀s,s<10->(lE s e).1.length<=4 by decide+kernel) e.toNat eh s.toNat eh
theorem zG(B:Nat)(X:Nat->Prop)(s:LS)(v:dZ)(ps:List PV)(p:PV)(ev:Int)(w:dY)(Y:jh w)(h:rK w B X s v ps)(hb:Bd s 100)(U:vK w X v p)(V:ps.length<=50)(hf:(jj s.st ev).2.2=0):
 eZ e7 171 #[π (μ ⟨B,0,ν⟩),ι κ ev,.agg #[ι κ p.code,ι κ p.id,σ p.a p.n p.cap]] w λe w'=>e=ρ η/\nF w w' B X (nY s ev) v ps (pT s ev p.abs):=by
 have hl:=Ba s.st ev;unfold nY pT;obtain⟨D,nx,f,Z⟩:∃D nx f,jj s.st ev=(D,nx,f):=⟨_,_,_,rfl⟩
 rw[Z]at hf hl⊢;simp only at hf hl⊢;subst hf;exact U3 B X s v ps p ev ⟨D.toArray⟩ nx w Y h hb U V Z (by show D.toArray.size<=4;simpa using hl)
def nA:List jH->Int
 |[] =>255
 |o::r=>if o.1=1 then o.2 else nA r
theorem NG(a:Option Addr)(n cap:Nat)(os:List jH)(w:dY)(hn:n<=1000000)(U:jg w a n os):
 eZ e7 229 #[σ a n cap] w λe w'=>e=ρ (ι κ (nA os))/\eE w w':=by
 go_in
 go_wp2
 go_loopw [7] (λi wr=>∃k:Nat,k<=n/\i=ι κ k/\nA os=nA (os.drop k)/\eE w wr) (λi _=>n-(fa i).toNat)
 case atStart=>exact⟨0,Nat.zero_le _,rfl,rfl,au _ _⟩
 case round=>
  obtain⟨k,hk,rfl,T,Y⟩:=hrel;have hF:Hid _:=T;clear T;by_cases E:k<n
  ·have H:=U.below Y;rcases H.2 with h0|⟨b,off,rfl,hc⟩
   ·omega
   have J:k<os.length:=by rw[U.1];exact E
   obtain⟨c1,c2⟩:=hc k J;have V:Hid (os.drop k=os[k] ::os.drop (k+1)):=aS J;generalize os[k] =o at c1 c2 V;clear hc;have nS:(k:Int)<(n:Int):=eh;have M:=Y.alloc Y.size (γ #[ι κ o.1,ι κ o.2] 276);cases q1:(o.1==1)
   ·have Z:Hid (nA os=nA (os.drop (k+1))):=by
     show _=_;rw[hF.out,V.out,nA,af (by simpa using q1)]
    go_wp2
    go_roundw
    case rel=>exact⟨k+1,eh,by go_num,Z.out,M⟩
    case measure=>simp[fa];omega
   ·have Z:Hid (nA os=o.2):=by
     show _=_;rw[hF.out,V.out,nA,ai (by simpa using q1)]
    go_wp2_with(fail);rw[Z.out];go_ret;exact⟨rfl,M⟩
  ·have Z:Hid (nA os=255):=by
    show _=_;have G:os.drop k=[] :=a8 (by rw[U.1];omega);rw[hF.out,G,nA]
   go_wp2_with(fail);rw[Z.out];go_ret;exact⟨rfl,Y⟩
def LS.sized(s:LS)(os:List jH):LS:=if 6<=s.st then {s with sz:=nA os}else s
theorem K7(B:Nat)(X:Nat->Prop)(s:LS)(v:dZ)(ps:List PV)(id:Int)(a:Option Addr)(n cap:Nat)(os:List jH)(w:dY)(hT:jh w)(h:rK w B X s v ps)(hb:Bd s 100)(hn:ps.length<=50)
 (ho:jg w a n os) (uU:∀k,uQ a n=μ k->¬X k/\v.ownBlock≠μ k/\k<w.heap.size) (kr:kN a cap) (Ay:n<=1000) (m1:0<=s.nm) (m2:s.nm<=255) (hj:mB s.nm os=(2,os)) (hf:(jj s.st 6).2.2=0):
 eZ e7 211 #[π (μ ⟨B,0,ν⟩),.agg #[ι κ 1,ι κ id,σ a n cap]] w λe w'=>e=ρ η/\nF w w' B X ((nY s 6).sized os) v ps (pT s 6 (2,id,os)):=by
 have hk:=gY w (γ #[ι κ 1,ι κ id,σ a n cap] 37);have hA:=λj=>aq w #[ι κ 1,ι κ id,σ a n cap] 37 (0,0) j;have hl:=h.lk.lt;have Ya:=h.row.lt;have T:=h.below hk;have hz:∀w:dY,(zeroValue 37).run e7 w=.ok (.agg #[ι κ 0,ι κ 0,σ ν 0 0]) w:=λw=>gX;have YC:=ho.1;obtain⟨U,j8⟩:=gq (w.alloc (γ #[ι κ 1,ι κ id,σ a n cap] 37));obtain⟨Z,hZ⟩:=gq (w.heap.size);have d1:U.cell? ⟨Z,1,ν⟩=μ (ι κ id):=by rw[<-j8,<-hZ];exact hA 1
 have d2:U.cell? ⟨Z,2,ν⟩=μ (σ a n cap):=by rw[<-j8,<-hZ];exact hA 2
 rw[j8]at T hk;have yF:B≠Z:=eh;have hnz:v.ownBlock≠μ Z:=λe=>by have:=Ya Z e;omega
 have HW:Hid _:=j8;have HZ:Hid _:=hZ;clear hA j8 hZ hl;have c2:U.cell? ⟨B,2,ν⟩=μ (ι κ s.ns):=T.lk.cell 2;have c3:U.cell? ⟨B,3,ν⟩=μ (ι κ s.nm):=T.lk.cell 3;have X9:=T.lk.lt;have Ka:Z<U.heap.size:=ag U _ d1;have Qw:=T.old;have vD:=T.self;have hJ:=G5 s.ns s.nm a n cap os U.drew m1 m2 eh kr (ho.below (jG hk));rw[hj]at hJ
 go_in
 go_wp2_with(fail);rw[HW.out,HZ.out]
 go_region_with(go_at_call 228;refine hJ.mono ?_;rintro e G ⟨u,rfl,hM⟩)
 all_goals
  obtain⟨a',n',jv,rfl,hP⟩:=I4 (X:=X) (v:=v) 2 id hM (show os.length<=1000 by omega) Qw (λk hk3=>Nat.lt_of_lt_of_le (Ya k hk3) hk.size);have zh:eE U G:=gu (jG (au _ _)) hM.below;have R2:=T.below zh;have d1':G.cell? ⟨Z,1,ν⟩=μ (ι κ id):=(zh.cell (p:=⟨Z,1,ν⟩) Ka).trans d1;have d2':G.cell? ⟨Z,2,ν⟩=μ (σ a n cap):=(zh.cell (p:=⟨Z,2,ν⟩) Ka).trans d2;have Jm:Z<G.heap.size:=ag G _ d1';have y:=gY G (γ #[ι κ 2,ι κ id,σ a' n' jv] 37);have D:=gu hk (gu zh y);have R3:=R2.below y;have P3:=hP.kept vD (Kept.iW B v.ownBlock y) (λ_ e=>.inl e);have HC:=zG B X s v ps ⟨2,id,a',n',jv,os⟩ 6 _ (hT.below D) R3 hb P3 hn hf;have M:=(y.cell (p:=⟨Z,2,ν⟩) Jm).trans d2';have zH:=ho.below D;have afL:Z<(G.alloc (γ #[ι κ 2,ι κ id,σ a' n' jv] 37)).heap.size:=ag _ _ M;clear hM hP R2 zh c2 c3 d1 d2 T hJ R3 P3;go_wp2_with(fail);refine HC.mono ?_;rintro e E ⟨rfl,hW⟩;obtain⟨⟨v',qs,Y,YD,hv4⟩,V⟩:=hW;have c6:E.cell? ⟨B,6,ν⟩=μ (ι κ (nY s 6).st):=Y.lk.cell 6;have z2:E.cell? ⟨Z,2,ν⟩=μ (σ a n cap):=(aj (a:=⟨Z,2,ν⟩) (V.block Z afL (λe=>yF e.symm) hnz)).trans M;have XI:jg E a n os:=zH.O1 (λk hk4=>by obtain⟨q1,q2,q3⟩:=uU k hk4;exact V.block k (Nat.lt_of_lt_of_le q3 D.size) (λe=>q1 (by rw[e];exact vD)) q2);have hl4:=Y.lk.lt;have apX:Z<E.heap.size:=ag E _ z2;have J:Kept w E B v.ownBlock:=(Kept.iW B v.ownBlock D).trans V (λi e=>.inl e);have hvv:∀g,v'.ownBlock=μ g->v.ownBlock=μ g \/w.heap.size<=g:=λg hg=>by
   rcases hv4 g hg with e|e
   ·exact .inl e
   ·exact .inr (Nat.le_trans D.size e)
  clear HC hv4 V zH M d2' d1' Jm afL y D;obtain⟨s',H⟩:∃s',nY s 6=s':=⟨_,rfl⟩
  rw[H]at Y c6;have HS:Hid _:=H;clear H;by_cases h6:6<=s'.st
  ·go_wp2_with(fail);refine(NG a n cap os E eh XI).mono ?_;rintro e w5 ⟨rfl,k5⟩;have A:=Y.below k5;have c7:w5.cell? ⟨B,7,ν⟩=μ (ι κ s'.sz):=A.lk.cell 7;have fz:∀j,w5.frozen? ⟨B,j,ν⟩=false:=A.lk.frozen;have hl5:=A.lk.lt;have HR6:Hid (rK (w5.setCell ⟨B,7,ν⟩ (ι κ (nA os))) B X {s' with sz:=nA os} v' (ps++qs)):=A.lz 7 _ _ rfl;have HK6:Hid (Kept w (w5.setCell ⟨B,7,ν⟩ (ι κ (nA os))) B v.ownBlock):=kO (J.trans (Kept.iW B v.ownBlock k5) (λi e=>.inl e)) 7 _;clear A Y J k5 XI z2 c6
   go_wp2
   go_ret;rw[HS.out];have e6:s'.sized os={s' with sz:=nA os}:=by simp[LS.sized,h6]
   rw[e6];exact⟨rfl,⟨v',qs,HR6.out,YD,hvv⟩,HK6.out⟩
  ·go_wp2
   go_ret;rw[HS.out];have e6:s'.sized os=s':=by unfold LS.sized;rw[af eh]
   rw[e6];exact⟨rfl,⟨v',qs,Y,YD,hvv⟩,J⟩
theorem YE(B:Nat)(X:Nat->Prop)(s:LS)(v:dZ)(ps:List PV)(w:dY)(h:rK w B X s v ps):
 eZ e7 174 #[π (μ ⟨B,0,ν⟩)] w λe w'=>e=ρ v/\rK w' B X s (σ ν 0 0) [] /\Row w' 3 v ps.length (QF ps)/\(∀p∈ps,vK w' X v p)/\Kept w w' B ν:=by
 have hl:=h.lk.lt;have TX:w.cell? ⟨B,11,ν⟩=μ v:=h.lk.cell 11;have fz:∀j,w.frozen? ⟨B,j,ν⟩=false:=h.lk.frozen;have Z:Kept w (w.setCell ⟨B,11,ν⟩ (σ ν 0 0)) B ν:=kO (Kept.refl w B _) 11 _;have T:Kept w (w.setCell ⟨B,11,ν⟩ (σ ν 0 0)) B v.ownBlock:=kO (Kept.refl w B _) 11 _;have J:Hid (rK (w.setCell ⟨B,11,ν⟩ (σ ν 0 0)) B X s (σ ν 0 0) []):=⟨h.lk.set 11 _,Row.nil _ 3,λg H=>by simp[eu]at H,h.self,λk V=>Nat.lt_of_lt_of_le (h.old k V) Z.size,λp U=>by simp at U⟩
 have M:Hid (Row (w.setCell ⟨B,11,ν⟩ (σ ν 0 0)) 3 v ps.length (QF ps)):=h.row.keep Z.size (λk Y=>ak _ _ _ k (λe=>h.ne (by rw[Y];exact congrArg μ e)));have HP:Hid (∀p∈ps,vK (w.setCell ⟨B,11,ν⟩ (σ ν 0 0)) X v p):=λp U=>(h.pk p U).kept h.self T (λ_ e=>.inl e);clear h T
 go_in
 go_wp2
 go_ret;exact⟨rfl,J.out,M.out,HP.out,Z⟩
theorem sO(w:dY):(zeroValue 37).run e7 w=.ok (.agg #[ι κ 0,ι κ 0,σ ν 0 0]) w:=gX
theorem akC(ev:Int)(U:ev=0 \/ev=1 \/ev=2 \/ev=3)(B:Nat)(X:Nat->Prop)(s:LS)(v:dZ)(ps:List PV)(w:dY)(Z:jh w)(h:rK w B X s v ps)(hb:Bd s 100)(V:ps.length<=50)(hf:(jj s.st ev).2.2=0):
 eZ e7 120 #[π (μ ⟨B,0,ν⟩),ι κ ev] w λe w'=>e=ρ η/\nF w w' B X (nY s ev) v ps (pT s ev (0,0,[])):=by
 have hz:=sO;have hc:=zG B X s v ps ⟨0,0,ν,0,0,[]⟩ ev w Z h hb (qX _ _ _ _ _) V hf;clear h Z hb hf;rcases U with rfl|rfl|rfl|rfl
 all_goals
  go_in
  go_wp2_with(fail);refine hc.mono ?_;rintro e w1 ⟨rfl,Y⟩;clear hc
  go_wp2
  go_ret;exact⟨rfl,Y⟩
theorem Hv(B:Nat)(X:Nat->Prop)(s:LS)(v:dZ)(ps:List PV)(w:dY)(h:rK w B X s v ps):
 eZ e7 114 #[π (μ ⟨B,0,ν⟩)] w λe w'=>e=ρ (ι κ s.st)/\w=w':=by
 have hl:=h.lk.lt;have c6:w.cell? ⟨B,6,ν⟩=μ (ι κ s.st):=h.lk.cell 6;clear h
 go_in
 go_wp2
 go_ret;exact⟨rfl,rfl⟩
def kt(s:LS):LS:=if(decide (4<=s.st)&&decide (s.st<=8))=false then s else if 0<s.wt-1 then {s with wt:=s.wt-1}else if 0<s.lf then nY {s with wt:=s.wt-1} 4 else nY {s with wt:=s.wt-1} 5
def lT(s:LS):List kP:=if(decide (4<=s.st)&&decide (s.st<=8))=false then []else if 0<s.wt-1 then []else if 0<s.lf then pT {s with wt:=s.wt-1} 4 (0,0,[])else pT {s with wt:=s.wt-1} 5 (0,0,[])
theorem K8:∀s:Nat,4<=s->s<=8->(lE s 4).2.2=0/\(lE s 5).2.2=0:=by
 intro s Z h2;exact(show∀s,s<9->4<=s->(lE s 4).2.2=0/\(lE s 5).2.2=0 by decide+kernel) s eh Z
theorem U4(B:Nat)(X:Nat->Prop)(s:LS)(v:dZ)(ps:List PV)(w:dY)(hT:jh w)(hB:B≠0)(Tz:v.ownBlock≠μ 0)(h:rK w B X s v ps)(hb:Bd s 100)(hn:ps.length<=50)(w1: -1000<=s.wt)(w2:s.wt<=1000):
 eZ e7 147 #[π (μ ⟨B,0,ν⟩)] w λe w'=>e=ρ (τ #[])/\nF w w' B X (kt s) v ps (lT s):=by
 have hz:=sO;have hl:=h.lk.lt;have c6:w.cell? ⟨B,6,ν⟩=μ (ι κ s.st):=h.lk.cell 6;have c8:w.cell? ⟨B,8,ν⟩=μ (ι κ s.lf):=h.lk.cell 8;have c9:w.cell? ⟨B,9,ν⟩=μ (ι κ s.wt):=h.lk.cell 9;have fz:∀j,w.frozen? ⟨B,j,ν⟩=false:=h.lk.frozen;have T:=Qx s.st w;cases Z:(decide (4<=s.st)&&decide (s.st<=8))
 ·have Y:kt s=s:=by unfold kt;rw[ai Z]
  have V:lT s=[] :=by unfold lT;rw[ai Z]
  rw[Y,V];rw[Z]at T;have y:Hid (nF w w B X s v ps []):=nF.still h (Kept.refl _ _ _);clear h hb Y V Z
  go_in
  go_wp2_with(fail);refine T.mono ?_;rintro e w3 ⟨rfl,rfl⟩
  go_wp2
  first|go_end0|refine iM rfl rfl ?_
  exact⟨rfl,y.out⟩
 ·have M:rK (w.setCell ⟨B,9,ν⟩ (ι κ (s.wt-1))) B X {s with wt:=s.wt-1} v ps:=h.lz 9 _ _ rfl;have D:Kept w (w.setCell ⟨B,9,ν⟩ (ι κ (s.wt-1))) B v.ownBlock:=kO (Kept.refl _ _ _) 9 _;have G:=D.tab hT hB Tz;have E:Bd {s with wt:=s.wt-1} 100:=⟨hb.o1,hb.o2,hb.l1,hb.l2⟩
  have kj:4<=s.st/\s.st<=8:=by simpa using Z
  have A:(jj s.st 4).2.2=0/\(jj s.st 5).2.2=0:=by
   obtain⟨H,u⟩:∃H:Nat,s.st=H:=⟨s.st.toNat,eh⟩
   rw[u];have:=K8 H eh eh;rw[show(4:Int)=((4:Nat):Int)from rfl,show(5:Int)=((5:Nat):Int)from rfl,nE H 4 eh eA,nE H 5 eh eA];exact this
  by_cases J:0<s.wt-1
  ·have Y:kt s={s with wt:=s.wt-1}:=by unfold kt;rw[af (by rw[Z];simp),ai J]
   have V:lT s=[] :=by unfold lT;rw[af (by rw[Z];simp),ai J]
   rw[Y,V];rw[Z]at T;have y:Hid (nF w _ B X _ v ps []):=nF.still M D;clear h M hb E Y V Z A kj G D
   go_in
   go_wp2_with(fail);refine T.mono ?_;rintro e w3 ⟨rfl,rfl⟩
   go_wp2
   first|go_end0|refine iM rfl rfl ?_
   exact⟨rfl,y.out⟩
  ·by_cases U:0<s.lf
   ·have Y:kt s=nY {s with wt:=s.wt-1} 4:=by unfold kt;rw[af (by rw[Z];simp),af J,ai U]
    have V:lT s=pT {s with wt:=s.wt-1} 4 (0,0,[]):=by unfold lT;rw[af (by rw[Z];simp),af J,ai U]
    rw[Y,V];rw[Z]at T;have hc:=zG B X {s with wt:=s.wt-1} v ps ⟨0,0,ν,0,0,[]⟩ 4 _ G M E (qX _ _ _ _ _) hn A.1;clear h M hb E Y V Z A kj G
    go_in
    go_wp2_with(fail);refine T.mono ?_;rintro e w3 ⟨rfl,rfl⟩;go_wp2_with(fail);refine hc.mono ?_;rintro e w4 ⟨rfl,hW⟩;clear hc
    go_wp2
    first|go_end0|refine iM rfl rfl ?_
    exact⟨rfl,hW.from D⟩
   ·have Y:kt s=nY {s with wt:=s.wt-1} 5:=by unfold kt;rw[af (by rw[Z];simp),af J,af U]
    have V:lT s=pT {s with wt:=s.wt-1} 5 (0,0,[]):=by unfold lT;rw[af (by rw[Z];simp),af J,af U]
    rw[Y,V];rw[Z]at T;have hc:=zG B X {s with wt:=s.wt-1} v ps ⟨0,0,ν,0,0,[]⟩ 5 _ G M E (qX _ _ _ _ _) hn A.2;clear h M hb E Y V Z A kj G
    go_in
    go_wp2_with(fail);refine T.mono ?_;rintro e w3 ⟨rfl,rfl⟩;go_wp2_with(fail);refine hc.mono ?_;rintro e w4 ⟨rfl,hW⟩;clear hc
    go_wp2
    first|go_end0|refine iM rfl rfl ?_
    exact⟨rfl,hW.from D⟩
def tr(s:LS)(ev:Int)(zp:kP):LS×List kP×Nat:=if(jj s.st ev).2.2=0 then(nY s ev,pT s ev zp,0)else(s,[],(jj s.st ev).2.2)
theorem tW {s:LS} {ev:Int} (zp:kP)(h:(jj s.st ev).2.2=0):tr s ev zp=(nY s ev,pT s ev zp,0):=by unfold tr;rw[ai h]
theorem wC {s:LS} {ev:Int} (zp:kP)(h:(jj s.st ev).2.2≠0):tr s ev zp=(s,[],(jj s.st ev).2.2):=by unfold tr;rw[af h]
theorem uz(B:Nat)(X:Nat->Prop)(s:LS)(v:dZ)(ps:List PV)(p:PV)(ev:Int)(w:dY)(Y:jh w)(h:rK w B X s v ps)(hb:Bd s 100)(U:vK w X v p)(V:ps.length<=50):
 eZ e7 171 #[π (μ ⟨B,0,ν⟩),ι κ ev,.agg #[ι κ p.code,ι κ p.id,σ p.a p.n p.cap]] w λe w'=>e=ρ (jk (tr s ev p.abs).2.2)/\nF w w' B X (tr s ev p.abs).1 v ps (tr s ev p.abs).2.1:=by
 by_cases hf:(jj s.st ev).2.2=0
 ·rw[tW _ hf];exact zG B X s v ps p ev w Y h hb U V hf
 ·rw[wC _ hf];obtain⟨D,nx,f,Z⟩:∃D nx f,jj s.st ev=(D,nx,f):=⟨_,_,_,rfl⟩
  rw[Z]at hf⊢;refine(Pz B X s v ps p ev D nx f w Y h Z hf).mono ?_;rintro e w' ⟨rfl,hb⟩;exact⟨by simp only[jk];rw[af hf],nF.still (h.below hb) (Kept.iW B _ hb)⟩
theorem NH {mg:Int} (h:(mB mg os).1=2):mB mg os=(2,os):=by
 unfold mB at*;split
 ·rename_i Z;rw[ai Z]at h;simp at h
 ·rename_i Z
  rw[af Z]at h;split
  ·rename_i Y;rw[ai Y]at h;simp at h
  ·rfl
def uA(s:LS)(id:Int)(os:List jH):LS×List kP×Nat:=
 if(mB s.nm os).1=2 then(if(tr s 6 (2,id,os)).2.2=0 then((tr s 6 (2,id,os)).1.sized os,(tr s 6 (2,id,os)).2.1,0)else tr s 6 (2,id,os))else tr s 7 ((mB s.nm os).1,id,(mB s.nm os).2)
theorem K9(mg:Int):∀os:List jH,(rm mg os).length<=os.length
 |[] =>by simp[rm]
 |o::r=>by
  have ih:=K9 mg r;have e:rm mg (o::r)=xQ mg o++rm mg r:=by simp[rm]
  have h1:(xQ mg o).length<=1:=by
   unfold xQ;split
   ·simp
   ·split<;>simp
  rw[e,az,cN];omega
theorem NI(mg:Int)(os:List jH):(mB mg os).2.length<=os.length:=by
 unfold mB;split
 ·exact cK _ _
 ·split
  ·exact K9 mg os
  ·exact Nat.le_refl _
theorem Er(B:Nat)(X:Nat->Prop)(s:LS)(v:dZ)(ps:List PV)(id:Int)(a:Option Addr)(n cap:Nat)(os:List jH)(w:dY)(hT:jh w)(h:rK w B X s v ps)(hb:Bd s 100)(hn:ps.length<=50)
 (ho:jg w a n os) (kr:kN a cap) (Ay:n<=1000) (m1:0<=s.nm) (m2:s.nm<=255) (Y:Int) (V:List jH) (hj:mB s.nm os=(Y,V)) (ev:Int) (wB:Y=2/\ev=6/\(jj s.st 6).2.2≠0 \/Y≠2/\ev=7):
 eZ e7 211 #[π (μ ⟨B,0,ν⟩),.agg #[ι κ 1,ι κ id,σ a n cap]] w λe w'=>e=ρ (jk (tr s ev (Y,id,V)).2.2)/\nF w w' B X (tr s ev (Y,id,V)).1 v ps (tr s ev (Y,id,V)).2.1:=by
 have G:=gY w (γ #[ι κ 1,ι κ id,σ a n cap] 37);have hA:=λj=>aq w #[ι κ 1,ι κ id,σ a n cap] 37 (0,0) j;have hl:=h.lk.lt;have Ya:=h.row.lt;have T:=h.below G;have hz:∀w:dY,(zeroValue 37).run e7 w=.ok (.agg #[ι κ 0,ι κ 0,σ ν 0 0]) w:=λw=>gX;have YC:=ho.1;obtain⟨U,D⟩:=gq (w.alloc (γ #[ι κ 1,ι κ id,σ a n cap] 37));obtain⟨Z,hZ⟩:=gq (w.heap.size);have d1:U.cell? ⟨Z,1,ν⟩=μ (ι κ id):=by rw[<-D,<-hZ];exact hA 1
 have d2:U.cell? ⟨Z,2,ν⟩=μ (σ a n cap):=by rw[<-D,<-hZ];exact hA 2
 rw[D]at T G;have HW:Hid _:=D;have HZ:Hid _:=hZ;clear hA D hZ hl;have c2:U.cell? ⟨B,2,ν⟩=μ (ι κ s.ns):=T.lk.cell 2;have c3:U.cell? ⟨B,3,ν⟩=μ (ι κ s.nm):=T.lk.cell 3;have X9:=T.lk.lt;have Ka:Z<U.heap.size:=ag U _ d1;have Qw:=T.old;have vD:=T.self;have hJ:=G5 s.ns s.nm a n cap os U.drew m1 m2 eh kr (ho.below (jG G));have yy:=NI s.nm os;rw[hj]at hJ yy;simp only at hJ yy;have hlj:V.length<=1000:=eh;clear yy hj;obtain⟨E,hE⟩:=gq (jk (tr s ev (Y,id,V)).2.2);obtain⟨S',J⟩:∃S',(tr s ev (Y,id,V)).1=S':=⟨_,rfl⟩
 obtain⟨O',M⟩:∃O',(tr s ev (Y,id,V)).2.1=O':=⟨_,rfl⟩
 rw[hE,J,M];have akD:Y=2/\ev=6/\(∃f:Nat,E=.iface 128 (ι κ (f:Int))) \/Y≠2/\ev=7:=by
  rcases wB with⟨rfl,rfl,hf⟩|h7
  ·refine .inl ⟨rfl,rfl,(jj s.st 6).2.2,?_⟩;rw[<-hE,wC _ hf];simp only[jk];rw[af hf]
  ·exact .inr h7
 have y:Hid _:=gb hE (gb J M);clear wB hE J M
 go_in
 go_wp2_with(fail);rw[HW.out,HZ.out]
 go_region_with(go_at_call 228;refine hJ.mono ?_;rintro e A ⟨u,rfl,hM⟩)
 all_goals
  obtain⟨a',n',jv,rfl,hP⟩:=I4 (X:=X) (v:=v) Y id hM hlj Qw (λk hk3=>Nat.lt_of_lt_of_le (Ya k hk3) G.size);have zh:eE U A:=gu (jG (au _ _)) hM.below;have R2:=T.below zh;have d1':A.cell? ⟨Z,1,ν⟩=μ (ι κ id):=(zh.cell (p:=⟨Z,1,ν⟩) Ka).trans d1;have Jm:Z<A.heap.size:=ag A _ d1';have Rm:=gY A (γ #[ι κ Y,ι κ id,σ a' n' jv] 37);have XH:=gu G (gu zh Rm);have R3:=R2.below Rm;have P3:=hP.kept vD (Kept.iW B v.ownBlock Rm) (λ_ e=>.inl e);have H:=uz B X s v ps ⟨Y,id,a',n',jv,V⟩ ev _ (hT.below XH) R3 hb P3 hn;have Dr:PV.abs ⟨Y,id,a',n',jv,V⟩=(Y,id,V):=rfl;rw[Dr,y.out.1,y.out.2.1,y.out.2.2]at H;clear Dr y;clear hM hP R2 zh c2 c3 d1 d2 T hJ R3 P3;rcases akD with⟨rfl,rfl,f,rfl⟩|⟨hc,rfl⟩
  ·go_wp2_with(fail);refine H.mono ?_;rintro e w4 ⟨rfl,hW⟩;clear H
   go_wp2
   go_ret;exact⟨rfl,hW.from (Kept.iW B v.ownBlock XH)⟩
  ·have uV:(Y !=2)=true:=by simpa using hc
   clear hc;go_wp2_with(fail);refine H.mono ?_;rintro e w4 ⟨rfl,hW⟩;clear H
   go_wp2
   go_ret;exact⟨rfl,hW.from (Kept.iW B v.ownBlock XH)⟩
theorem La(B:Nat)(X:Nat->Prop)(s:LS)(v:dZ)(ps:List PV)(id:Int)(a:Option Addr)(n cap:Nat)(os:List jH)(w:dY)(V:jh w)(h:rK w B X s v ps)(hb:Bd s 100)(U:ps.length<=50)
 (T:jg w a n os) (H:∀k,uQ a n=μ k->¬X k/\v.ownBlock≠μ k/\k<w.heap.size) (M:kN a cap) (Y:n<=1000) (m1:0<=s.nm) (m2:s.nm<=255):
 eZ e7 211 #[π (μ ⟨B,0,ν⟩),.agg #[ι κ 1,ι κ id,σ a n cap]] w λe w'=>e=ρ (jk (uA s id os).2.2)/\nF w w' B X (uA s id os).1 v ps (uA s id os).2.1:=by
 by_cases Z:(mB s.nm os).1=2
 ·have J:=NH Z;by_cases hf:(jj s.st 6).2.2=0
  ·have e:uA s id os=((nY s 6).sized os,pT s 6 (2,id,os),0):=by
    unfold uA;rw[ai Z,tW _ hf,ai rfl]
   rw[e];exact K7 B X s v ps id a n cap os w V h hb U T H M Y m1 m2 J hf
  ·have e:uA s id os=tr s 6 (2,id,os):=by
    unfold uA;rw[ai Z,wC _ hf,af hf]
   rw[e];exact Er B X s v ps id a n cap os w V h hb U T M Y m1 m2 2 os J 6 (.inl ⟨rfl,rfl,hf⟩)
 ·have e:uA s id os=tr s 7 ((mB s.nm os).1,id,(mB s.nm os).2):=by
   unfold uA;rw[af Z]
  rw[e];exact Er B X s v ps id a n cap os w V h hb U T M Y m1 m2 _ _ rfl 7 (.inr ⟨Z,rfl⟩)
def LS.tell(s:LS)(code:Int)(os:List jH):LS:=if 6<=s.st then {s with ns:=(pv code os (s.ns,s.nm)).1,nm:=(pv code os (s.ns,s.nm)).2}else s
def tX(s:LS)(code id:Int)(os:List jH):LS×List kP×Nat:=
 if id≠s.ow then(s,[],6)else if code=2 then(if os≠oA s.qs s.qm then(s,[],6)else tr s 8 (0,id,[]))else tr (s.tell code os) 9 (0,id,[])
theorem NJ(B:Nat)(X:Nat->Prop)(s:LS)(v:dZ)(ps:List PV)(code id:Int)(a:Option Addr)(n cap:Nat)(os:List jH)(w:dY)(hT:jh w)(xw:B≠0)(Tz:v.ownBlock≠μ 0)(h:rK w B X s v ps)(hb:Bd s 100)(hn:ps.length<=50)
 (ho:jg w a n os) (Ay:n<=1000):
 eZ e7 212 #[π (μ ⟨B,0,ν⟩),.agg #[ι κ code,ι κ id,σ a n cap]] w λe w'=>e=ρ (jk (tX s code id os).2.2)/\nF w w' B X (tX s code id os).1 v ps (tX s code id os).2.1:=by
 have hk:=gY w (γ #[ι κ code,ι κ id,σ a n cap] 37);have hA:=λj=>aq w #[ι κ code,ι κ id,σ a n cap] 37 (0,0) j;have hl:=h.lk.lt;have H:=h.below hk;have hz:∀w:dY,(zeroValue 37).run e7 w=.ok (.agg #[ι κ 0,ι κ 0,σ ν 0 0]) w:=λw=>gX;obtain⟨U,j8⟩:=gq (w.alloc (γ #[ι κ code,ι κ id,σ a n cap] 37));obtain⟨Z,hZ⟩:=gq (w.heap.size);have d0:U.cell? ⟨Z,0,ν⟩=μ (ι κ code):=by rw[<-j8,<-hZ];exact hA 0
 have d1:U.cell? ⟨Z,1,ν⟩=μ (ι κ id):=by rw[<-j8,<-hZ];exact hA 1
 have d2:U.cell? ⟨Z,2,ν⟩=μ (σ a n cap):=by rw[<-j8,<-hZ];exact hA 2
 rw[j8]at H hk;have HW:Hid _:=j8;have HZ:Hid _:=hZ;have HBZ:Hid (B≠Z):=by show B≠Z;omega
 clear hA j8 hZ hl;have c2:U.cell? ⟨B,2,ν⟩=μ (ι κ s.ns):=H.lk.cell 2;have c3:U.cell? ⟨B,3,ν⟩=μ (ι κ s.nm):=H.lk.cell 3;have c4:U.cell? ⟨B,4,ν⟩=μ (ι κ s.qs):=H.lk.cell 4;have c5:U.cell? ⟨B,5,ν⟩=μ (ι κ s.qm):=H.lk.cell 5;have c6:U.cell? ⟨B,6,ν⟩=μ (ι κ s.st):=H.lk.cell 6;have TY:U.cell? ⟨B,10,ν⟩=μ (ι κ s.ow):=H.lk.cell 10;have X9:=H.lk.lt;have G:Z<U.heap.size:=ag U _ d1;cases TB:(id !=s.ow)
 ·have pZ:id=s.ow:=by simpa using TB
  cases h22:(code==2)
  ·have Ty:code≠2:=by simpa using h22
   have y:tX s code id os=tr (s.tell code os) 9 (0,id,[]):=by
    unfold tX;rw[af (by simpa using pZ),af Ty]
   rw[y];clear y Ty pZ;by_cases h6:6<=s.st
   ·have et:s.tell code os={s with ns:=(pv code os (s.ns,s.nm)).1,nm:=(pv code os (s.ns,s.nm)).2}:=by unfold LS.tell;rw[ai h6]
    rw[et];clear et;have hTo:=λ(W:dY) (hW:eE w W)=>T6 s.ns s.nm code a n cap os W eh (ho.below hW);generalize (pv code os (s.ns,s.nm)).1=ts at hTo⊢;generalize (pv code os (s.ns,s.nm)).2=tm at hTo⊢;obtain⟨E,hE⟩:=gq (jk (tr {s with ns:=ts,nm:=tm} 9 (0,id,[])).2.2);obtain⟨S',hS'⟩:∃S',(tr {s with ns:=ts,nm:=tm} 9 (0,id,[])).1=S':=⟨_,rfl⟩
    obtain⟨O',hO'⟩:∃O',(tr {s with ns:=ts,nm:=tm} 9 (0,id,[])).2.1=O':=⟨_,rfl⟩
    rw[hE,hS',hO'];have HE:Hid _:=gb hE (gb hS' hO');have HTo:Hid _:=hTo;clear hE hS' hO' hTo
    go_in
    go_wp2_with(fail);rw[HW.out,HZ.out]
    go_quiet(fail)
    go_wp2_with(fail);obtain⟨Y,D⟩:=gq (U.drewN nq);have V:eE U Y:=by rw[<-D];exact below_drewN (au _ _) _
    rw[D];have M:=H.below V;have e0:Y.cell? ⟨Z,0,ν⟩=μ (ι κ code):=(V.cell (p:=⟨Z,0,ν⟩) G).trans d0;have e1:Y.cell? ⟨Z,1,ν⟩=μ (ι κ id):=(V.cell (p:=⟨Z,1,ν⟩) G).trans d1;have e2:Y.cell? ⟨Z,2,ν⟩=μ (σ a n cap):=(V.cell (p:=⟨Z,2,ν⟩) G).trans d2;have f2:Y.cell? ⟨B,2,ν⟩=μ (ι κ s.ns):=M.lk.cell 2;have f3:Y.cell? ⟨B,3,ν⟩=μ (ι κ s.nm):=M.lk.cell 3;have afO:=M.lk.lt;have Jm:Z<Y.heap.size:=ag Y _ e1;have T:=gu hk V;have HR2:Hid _:=M;have hC:=HTo.out Y.drew (jG T);clear d0 d1 d2 c2 c3 c4 c5 c6 TY H D V X9 G M HTo
    go_region_with(go_at_call 231;refine hC.mono ?_;rintro e J ⟨rfl,b3⟩;have Rm:eE Y J:=gu (jG (au _ _)) b3;have R3:=HR2.out.below Rm;have g2:J.cell? ⟨B,2,ν⟩=μ (ι κ s.ns):=R3.lk.cell 2;have g3:J.cell? ⟨B,3,ν⟩=μ (ι κ s.nm):=R3.lk.cell 3;have gf:∀j,J.frozen? ⟨B,j,ν⟩=false:=R3.lk.frozen;have gl:=R3.lk.lt;have z1:J.cell? ⟨Z,1,ν⟩=μ (ι κ id):=(Rm.cell (p:=⟨Z,1,ν⟩) Jm).trans e1)
    all_goals
     have R4:rK ((J.setCell ⟨B,2,ν⟩ (ι κ ts)).setCell ⟨B,3,ν⟩ (ι κ tm)) B X {s with ns:=ts,nm:=tm} v ps:=(R3.lz 2 _ {s with ns:=ts} rfl).lz 3 _ _ rfl;have K4:Kept w ((J.setCell ⟨B,2,ν⟩ (ι κ ts)).setCell ⟨B,3,ν⟩ (ι κ tm)) B v.ownBlock:=kO (kO (Kept.iW B _ (gu T Rm)) 2 _) 3 _;have A:=uz B X {s with ns:=ts,nm:=tm} v ps ⟨0,id,ν,0,0,[]⟩ 9 _ (K4.tab hT xw Tz) R4 ⟨hb.o1,hb.o2,hb.l1,hb.l2⟩ (qX _ _ _ _ _) hn;have Dr:PV.abs ⟨0,id,ν,0,0,[]⟩=(0,id,[]):=rfl;rw[Dr,HE.out.1,HE.out.2.1,HE.out.2.2]at A;clear Dr HE R4 R3 hC;have ap2:Z<J.heap.size:=ag J _ z1;have yF:=HBZ.out;go_wp2_with(fail);refine A.mono ?_;rintro e w5 ⟨rfl,hW⟩;clear A
     go_wp2
     go_ret;exact⟨rfl,hW.from K4⟩
   ·have et:s.tell code os=s:=by unfold LS.tell;rw[af h6]
    rw[et];clear et
    go_in
    go_wp2_with(fail);rw[HW.out,HZ.out]
    go_quiet(fail)
    obtain⟨Y,D⟩:=gq (U.drewN nq);have V:eE U Y:=by rw[<-D];exact below_drewN (au _ _) _
    rw[D];have M:=H.below V;have e0:Y.cell? ⟨Z,0,ν⟩=μ (ι κ code):=(V.cell (p:=⟨Z,0,ν⟩) G).trans d0;have e1:Y.cell? ⟨Z,1,ν⟩=μ (ι κ id):=(V.cell (p:=⟨Z,1,ν⟩) G).trans d1;have f6:Y.cell? ⟨B,6,ν⟩=μ (ι κ s.st):=M.lk.cell 6;have afO:=M.lk.lt;have Jm:Z<Y.heap.size:=ag Y _ e1;have T:=gu hk V;have A:=uz B X s v ps ⟨0,id,ν,0,0,[]⟩ 9 _ (hT.below T) M hb (qX _ _ _ _ _) hn;clear d0 d1 d2 c2 c3 c4 c5 c6 TY H D V X9 G M;go_wp2_with(fail);refine A.mono ?_;rintro e w5 ⟨rfl,hW⟩;clear A
    go_wp2
    go_ret;exact⟨rfl,hW.from (Kept.iW B v.ownBlock T)⟩
  ·have Ty:code=2:=by simpa using h22
   subst Ty;have HID:Hid _:=pZ;clear h22 pZ
   go_in
   go_wp2_with(fail);rw[HW.out,HZ.out]
   go_quiet(fail)
   go_wp2_with(fail);obtain⟨Y,D⟩:=gq (U.drewN nq);have V:eE U Y:=by rw[<-D];exact below_drewN (au _ _) _
   rw[D];have M:=H.below V;have e0:Y.cell? ⟨Z,0,ν⟩=μ (ι κ 2):=(V.cell (p:=⟨Z,0,ν⟩) G).trans d0;have e1:Y.cell? ⟨Z,1,ν⟩=μ (ι κ id):=(V.cell (p:=⟨Z,1,ν⟩) G).trans d1;have e2:Y.cell? ⟨Z,2,ν⟩=μ (σ a n cap):=(V.cell (p:=⟨Z,2,ν⟩) G).trans d2;have f4:Y.cell? ⟨B,4,ν⟩=μ (ι κ s.qs):=M.lk.cell 4;have f5:Y.cell? ⟨B,5,ν⟩=μ (ι κ s.qm):=M.lk.cell 5;have afO:=M.lk.lt;have Jm:Z<Y.heap.size:=ag Y _ e1;have T:=gu hk V;clear d0 d1 d2 c2 c3 c4 c5 c6 TY H D V X9 G TB
   go_region_with(first
    |(go_at_call 224;refine(Ko s.qs s.qm _).mono ?_;rintro e J ⟨u,rfl,hM⟩;obtain⟨ua,uc,rfl,un,ul⟩:=hM.shape;have k3:=hM.below;have g2:J.cell? ⟨Z,2,none⟩=some (.slice a n cap):=(k3.cell (p:=⟨Z,2,none⟩) Jm).trans e2)
    |(go_at_call 230;refine(A8 a ua cap uc n _ os (oA s.qs s.qm) J (ho.below (gu (jG T) k3)) hM.opts.2 eh (by have:=G6 s.qs s.qm;omega)).mono ?_;rintro e w4 ⟨rfl,m4,rfl⟩))
   all_goals
    have k04:eE w (J.drewN m4):=below_drewN (gu (jG T) k3) m4;have k24:eE Y (J.drewN m4):=below_drewN (gu (jG (au _ _)) k3) m4;have R4:=M.below k24;have g1:(J.drewN m4).cell? ⟨Z,1,ν⟩=μ (ι κ id):=(k24.cell (p:=⟨Z,1,ν⟩) Jm).trans e1;have ap3:Z<(J.drewN m4).heap.size:=ag _ _ g1;have A:=uz B X s v ps ⟨0,id,ν,0,0,[]⟩ 8 _ (hT.below k04) R4 hb (qX _ _ _ _ _) hn;have HR4:Hid _:=R4;clear M R4 k24 hM;by_cases G0:os=oA s.qs s.qm
    ·have hd:decide (os=oA s.qs s.qm)=true:=by simp[G0]
     have y:tX s 2 id os=tr s 8 (0,id,[]):=by
      unfold tX;rw[af (by simpa using HID.out),ai rfl,af (by simpa using G0)]
     clear G0
     try rw[hd]
     go_wp2_with(fail);refine A.mono ?_;rintro e w5 ⟨rfl,hW⟩;clear A
     go_wp2
     go_ret;rw[y];exact⟨rfl,hW.from (Kept.iW B v.ownBlock k04)⟩
    ·have hd:decide (os=oA s.qs s.qm)=false:=by simp[G0]
     have y:tX s 2 id os=(s,[],6):=by
      unfold tX;rw[af (by simpa using HID.out),ai rfl,ai G0]
     clear G0 A
     try rw[hd]
     go_wp2
     go_ret;rw[y];exact⟨rfl,nF.still HR4.out (Kept.iW B v.ownBlock k04)⟩
 ·have pZ:id≠s.ow:=by simpa using TB
  have y:tX s code id os=(s,[],6):=by
   unfold tX;rw[ai pZ]
  rw[y];clear y pZ
  go_in
  go_wp2_with(fail);rw[HW.out,HZ.out]
  go_quiet(fail)
  go_wp2
  go_ret;exact⟨rfl,nF.still (H.below (below_drewN (au _ _) _)) (Kept.iW B v.ownBlock (below_drewN hk _))⟩
def jN(s:LS)(p:kP):LS×List kP×Nat:=
 if jU p.1 p.2.1 p.2.2≠0 then(s,[],jU p.1 p.2.1 p.2.2)else if p.1=1 then uA s p.2.1 p.2.2 else if p.1=5 then tr s 10 (0,p.2.1,[])else if p.1=6 then tr s 11 (0,p.2.1,[])else tX s p.1 p.2.1 p.2.2
theorem U5(B:Nat)(X:Nat->Prop)(s:LS)(v:dZ)(ps:List PV)(p:PV)(w:dY)(hT:jh w)(xw:B≠0)(Tz:v.ownBlock≠μ 0)(h:rK w B X s v ps)(hb:Bd s 100)(hn:ps.length<=50)(hp:vK w X v p)(m1:0<=s.nm)(m2:s.nm<=255):
 eZ e7 185 #[π (μ ⟨B,0,ν⟩),.agg #[ι κ p.code,ι κ p.id,σ p.a p.n p.cap]] w λe w'=>e=ρ (jk (jN s p.abs).2.2)/\nF w w' B X (jN s p.abs).1 v ps (jN s p.abs).2.1:=by
 obtain⟨code,id,a,n,cap,os⟩:=p;obtain⟨H,kr,A,yy,uU⟩:=hp;simp only at H kr A yy;have D:∀k,uQ a n=μ k->¬X k/\v.ownBlock≠μ k/\k<w.heap.size:=uU;have Dr:PV.abs ⟨code,id,a,n,cap,os⟩=(code,id,os):=rfl;rw[Dr];have G:=gY w (γ #[ι κ code,ι κ id,σ a n cap] 37);have hA:=λj=>aq w #[ι κ code,ι κ id,σ a n cap] 37 (0,0) j;have hC:=uo code id a n cap os _ eh A (H.below G);have hz:∀w:dY,(zeroValue 37).run e7 w=.ok (.agg #[ι κ 0,ι κ 0,σ ν 0 0]) w:=λw=>gX;obtain⟨Z,hZ⟩:=gq (w.heap.size);have V:∀j,(w.alloc (γ #[ι κ code,ι κ id,σ a n cap] 37)).cell? ⟨Z,j,ν⟩= #[ι κ code,ι κ id,σ a n cap][j]? :=by rw[<-hZ];exact hA
 have U:Z<(w.alloc (γ #[ι κ code,ι κ id,σ a n cap] 37)).heap.size:=by simp;omega
 have y:Hid _:=hZ;clear hA hZ uU Dr;by_cases E:jU code id os=0
 ·have e0:jk 0=η:=rfl;rw[E,e0]at hC;have main:∀(ev:Int),∀Y:dY,eE w Y->eZ e7 171 #[π (μ ⟨B,0,ν⟩),ι κ ev,.agg #[ι κ 0,ι κ id,σ ν 0 0]] Y λe w'=>e=ρ (jk (tr s ev (0,id,[])).2.2)/\nF w w' B X (tr s ev (0,id,[])).1 v ps (tr s ev (0,id,[])).2.1:=by
   intro ev Y k;refine(uz B X s v ps ⟨0,id,ν,0,0,[]⟩ ev Y (hT.below k) (h.below k) hb (qX _ _ _ _ _) hn).mono ?_;rintro e w' ⟨rfl,T⟩;exact⟨rfl,T.from (Kept.iW B v.ownBlock k)⟩
  have J:jN s (code,id,os)=if code=1 then uA s id os else if code=5 then tr s 10 (0,id,[])else if code=6 then tr s 11 (0,id,[])else tX s code id os:=by
   unfold jN;rw[af (by simpa using E)]
  rw[J];clear J E e0;by_cases u:code=1
  ·subst u;rw[ai rfl];have HH:∀Y:dY,eE w Y->eZ e7 211 #[π (μ ⟨B,0,ν⟩),.agg #[ι κ 1,ι κ id,σ a n cap]] Y λe w'=>e=ρ (jk (uA s id os).2.2)/\nF w w' B X (uA s id os).1 v ps (uA s id os).2.1:=by
    intro Y k;refine(La B X s v ps id a n cap os Y (hT.below k) (h.below k) hb hn (H.below k) (λj O0=>by obtain⟨q1,q2,q3⟩:=D j O0;exact⟨q1,q2,Nat.lt_of_lt_of_le q3 k.size⟩) kr eh m1 m2).mono ?_;rintro e w' ⟨rfl,T⟩;exact⟨rfl,T.from (Kept.iW B v.ownBlock k)⟩
   clear main D h H
   go_in
   go_wp2_with(fail);refine hC.mono ?_;rintro e w1 ⟨rfl,k1⟩;have d0:w1.cell? ⟨Z,0,ν⟩=μ (ι κ 1):=(k1.cell (p:=⟨Z,0,ν⟩) U).trans (V 0);have d1:w1.cell? ⟨Z,1,ν⟩=μ (ι κ id):=(k1.cell (p:=⟨Z,1,ν⟩) U).trans (V 1);have d2:w1.cell? ⟨Z,2,ν⟩=μ (σ a n cap):=(k1.cell (p:=⟨Z,2,ν⟩) U).trans (V 2);have I1:Z<w1.heap.size:=ag w1 _ d0;have M:=HH w1 (gu G k1);clear hC V U HH;rw[y.out];go_wp2_with(fail);refine M.mono ?_;rintro e w2 ⟨rfl,T⟩;clear M
   go_wp2
   go_ret;exact⟨rfl,T⟩
  ·rw[af u];have b1:(code==1)=false:=by simpa using u
   by_cases h5:code=5
   ·subst h5;rw[ai rfl];clear D h H
    go_in
    go_wp2_with(fail);refine hC.mono ?_;rintro e w1 ⟨rfl,k1⟩;have d0:w1.cell? ⟨Z,0,ν⟩=μ (ι κ 5):=(k1.cell (p:=⟨Z,0,ν⟩) U).trans (V 0);have d1:w1.cell? ⟨Z,1,ν⟩=μ (ι κ id):=(k1.cell (p:=⟨Z,1,ν⟩) U).trans (V 1);have I1:Z<w1.heap.size:=ag w1 _ d0;have M:=main 10 w1 (gu G k1);clear hC V U main;rw[y.out];go_wp2_with(fail);refine M.mono ?_;rintro e w2 ⟨rfl,T⟩;clear M
    go_wp2
    go_ret;exact⟨rfl,T⟩
   ·rw[af h5];have b5:(code==5)=false:=by simpa using h5
    by_cases h6:code=6
    ·subst h6;rw[ai rfl];clear D h H
     go_in
     go_wp2_with(fail);refine hC.mono ?_;rintro e w1 ⟨rfl,k1⟩;have d0:w1.cell? ⟨Z,0,ν⟩=μ (ι κ 6):=(k1.cell (p:=⟨Z,0,ν⟩) U).trans (V 0);have d1:w1.cell? ⟨Z,1,ν⟩=μ (ι κ id):=(k1.cell (p:=⟨Z,1,ν⟩) U).trans (V 1);have I1:Z<w1.heap.size:=ag w1 _ d0;have M:=main 11 w1 (gu G k1);clear hC V U main;rw[y.out];go_wp2_with(fail);refine M.mono ?_;rintro e w2 ⟨rfl,T⟩;clear M
     go_wp2
     go_ret;exact⟨rfl,T⟩
    ·rw[af h6];have b6:(code==6)=false:=by simpa using h6
     have HH:∀Y:dY,eE w Y->eZ e7 212 #[π (μ ⟨B,0,ν⟩),.agg #[ι κ code,ι κ id,σ a n cap]] Y λe w'=>e=ρ (jk (tX s code id os).2.2)/\nF w w' B X (tX s code id os).1 v ps (tX s code id os).2.1:=by
      intro Y k;refine(NJ B X s v ps code id a n cap os Y (hT.below k) xw Tz (h.below k) hb hn (H.below k) eh).mono ?_;rintro e w' ⟨rfl,T⟩;exact⟨rfl,T.from (Kept.iW B v.ownBlock k)⟩
     clear main D h H u h5 h6
     go_in
     go_wp2_with(fail);refine hC.mono ?_;rintro e w1 ⟨rfl,k1⟩;have d0:w1.cell? ⟨Z,0,ν⟩=μ (ι κ code):=(k1.cell (p:=⟨Z,0,ν⟩) U).trans (V 0);have d1:w1.cell? ⟨Z,1,ν⟩=μ (ι κ id):=(k1.cell (p:=⟨Z,1,ν⟩) U).trans (V 1);have d2:w1.cell? ⟨Z,2,ν⟩=μ (σ a n cap):=(k1.cell (p:=⟨Z,2,ν⟩) U).trans (V 2);have I1:Z<w1.heap.size:=ag w1 _ d0;have M:=HH w1 (gu G k1);clear hC V U HH;rw[y.out];go_wp2_with(fail);refine M.mono ?_;rintro e w2 ⟨rfl,T⟩;clear M
     go_wp2
     go_ret;exact⟨rfl,T⟩
 ·have J:jN s (code,id,os)=(s,[],jU code id os):=by
   unfold jN;rw[ai E]
  rw[J];have ee:jk (jU code id os)=.iface 128 (ι κ (jU code id os:Int)):=by simp only[jk];rw[af E]
  simp only[ee]at hC⊢;have HR:Hid (∀Y:dY,eE w Y->rK Y B X s v ps):=λY k=>h.below k;clear J E ee h H;generalize jU code id os=f at hC⊢
  go_in
  go_wp2_with(fail);refine hC.mono ?_;rintro e w1 ⟨rfl,k1⟩;clear hC
  go_wp2
  go_ret;exact⟨rfl,nF.still (HR.out _ (gu G k1)) (Kept.iW B v.ownBlock (gu G k1))⟩
def k8(s:LS)(ev:Int):LS×List kP×Nat:=if ev=0 \/ev=1 \/ev=2 \/ev=3 then tr s ev (0,0,[])else(s,[],1)
theorem acf(ev:Int)(B:Nat)(X:Nat->Prop)(s:LS)(v:dZ)(ps:List PV)(w:dY)(Y:jh w)(h:rK w B X s v ps)(hb:Bd s 100)(T:ps.length<=50):
 eZ e7 120 #[π (μ ⟨B,0,ν⟩),ι κ ev] w λe w'=>e=ρ (jk (k8 s ev).2.2)/\nF w w' B X (k8 s ev).1 v ps (k8 s ev).2.1:=by
 have hz:=sO;have hc:=uz B X s v ps ⟨0,0,ν,0,0,[]⟩ ev w Y h hb (qX _ _ _ _ _) T;by_cases Z:ev=0 \/ev=1 \/ev=2 \/ev=3
 ·have e:k8 s ev=tr s ev (0,0,[]):=by unfold k8;rw[ai Z]
  rw[e];clear h Y hb e;rcases Z with rfl|rfl|rfl|rfl
  all_goals
   go_in
   go_wp2_with(fail);refine hc.mono ?_;rintro e w1 ⟨rfl,U⟩;clear hc
   go_wp2
   go_ret;exact⟨rfl,U⟩
 ·have e:k8 s ev=(s,[],1):=by unfold k8;rw[af Z]
  rw[e];have b0:(ev==0)=false:=by simp;omega
  have b1:(ev==1)=false:=by simp;omega
  have b2:(ev==2)=false:=by simp;omega
  have b3:(ev==3)=false:=by simp;omega
  have V:Hid (nF w w B X s v ps []):=nF.still h (Kept.refl _ _ _);clear hc h Y hb e Z
  go_in
  go_wp2
  go_ret;exact⟨rfl,V.out⟩
def YG:List UInt8->Int->Int
 |[],x=>x
 |c::r,x=>YG r (if c=105 then 4 else if c=122 then 0 else if c=114 then x-1 else if c=116 then x-1 else x)
def YH:List UInt8->Int->Int
 |[],x=>x
 |c::r,x=>YH r (if c=105 then x else if c=122 then 3 else if c=114 then 3 else if c=116 then 3 else x)
theorem Hw:∀(L:List UInt8) (s:LS),0<=s.ow->s.ow<=255->(qM L s).st=s.st/\(qM L s).sz=s.sz/\(qM L s).fs=s.fs/\(qM L s).fm=s.fm/\(qM L s).ns=s.ns/\(qM L s).nm=s.nm/\(qM L s).lf=YG L s.lf/\(qM L s).wt=YH L s.wt/\0<=(qM L s).ow/\(qM L s).ow<=255
 |[],s,h1,h2=>⟨rfl,rfl,rfl,rfl,rfl,rfl,rfl,rfl,h1,h2⟩
 |c::r,s,h1,h2=>by
  have e:qM (c::r) s=qM r (pY c s):=rfl;have U:(pY c s).st=s.st/\(pY c s).sz=s.sz/\(pY c s).fs=s.fs/\(pY c s).fm=s.fm/\(pY c s).ns=s.ns/\(pY c s).nm=s.nm/\(pY c s).lf=(if c=105 then 4 else if c=122 then 0 else if c=114 then s.lf-1 else if c=116 then s.lf-1 else s.lf)/\(pY c s).wt=(if c=105 then s.wt else if c=122 then 3 else if c=114 then 3 else if c=116 then 3 else s.wt)/\0<=(pY c s).ow/\(pY c s).ow<=255:=by
   by_cases c1:c=105
   ·subst c1;exact⟨rfl,rfl,rfl,rfl,rfl,rfl,rfl,rfl,h1,h2⟩
   ·by_cases c2:c=122
    ·subst c2;exact⟨rfl,rfl,rfl,rfl,rfl,rfl,rfl,rfl,h1,h2⟩
    ·by_cases c3:c=114
     ·subst c3;exact⟨rfl,rfl,rfl,rfl,rfl,rfl,rfl,rfl,by show 0<=(s.ow+1) %256;omega,by show(s.ow+1) %256<=255;omega⟩
     ·by_cases c4:c=116
      ·subst c4;exact⟨rfl,rfl,rfl,rfl,rfl,rfl,rfl,rfl,by show 0<=(s.ow+1) %256;omega,by show(s.ow+1) %256<=255;omega⟩
      ·have V:pY c s=s:=by simp[pY,c1,c2,c3,c4]
       rw[V,af c1,af c2,af c3,af c4,af c1,af c2,af c3,af c4];exact⟨rfl,rfl,rfl,rfl,rfl,rfl,rfl,rfl,h1,h2⟩
  obtain⟨T,M,p3,J,H,G,E,D,A,Z⟩:=U;obtain⟨q1,q2,y,u,j,q6,h,q8,q9,Y⟩:=Hw r (pY c s) A Z;rw[e];exact⟨q1.trans T,q2.trans M,y.trans p3,u.trans J,j.trans H,q6.trans G,by rw[h,E];rfl,by rw[q8,D];rfl,q9,Y⟩
def xT(st lf wt:Int):Bool:=decide (0<=st)&&decide (st<=9)&&decide (0<=lf)&&decide (lf<=4)&& (!(decide (st=7)||decide (st=9))||decide (lf=4))&&decide (0<=wt)&&decide (wt<=3)&& (!(decide (4<=st)&&decide (st<=8))||decide (1<=wt))
theorem sP(st lf wt:Int):xT st lf wt=true↔(0<=st/\st<=9/\0<=lf/\lf<=4/\(st=7 \/st=9->lf=4)/\0<=wt/\wt<=3/\(4<=st/\st<=8->1<=wt)):=by
 simp only[xT,Bool.and_eq_true,Bool.or_eq_true,Bool.not_eq_true',decide_eq_true_eq,decide_eq_false_iff_not,Bool.or_eq_false_iff,Bool.and_eq_false_iff];constructor
 ·rintro⟨⟨⟨⟨⟨⟨⟨a,b⟩,c⟩,d⟩,e⟩,f⟩,g⟩,h⟩;exact⟨a,b,c,d,eh,f,g,eh⟩
 ·rintro⟨a,b,c,d,e,f,g,h⟩;exact⟨⟨⟨⟨⟨⟨⟨a,b⟩,c⟩,d⟩,eh⟩,f⟩,g⟩,eh⟩
theorem acg:((gg 12).all λe=>(gg 10).all λs=>(gg 5).all λl=>(gg 4).all λt=> !(e !=4&&e !=5&&xT (s:Int) (l:Int) (t:Int)&& ((lE s e).2.2==0))||xT (lE s e).2.1 (YG (lE s e).1 (l:Int)) (YH (lE s e).1 (t:Int)))=true:=by decide+kernel
theorem U6(e:Nat)(M:e<12)(s:Nat)(hs:s<10)(l:Nat)(hl:l<5)(t:Nat)(J:t<4)(h:e≠4/\e≠5/\xT (s:Int) (l:Int) (t:Int)=true/\(lE s e).2.2=0):xT (lE s e).2.1 (YG (lE s e).1 (l:Int)) (YH (lE s e).1 (t:Int))=true:=by
 have Z:=aZ.1 (aZ.1 (aZ.1 (aZ.1 acg e (aP.2 M)) s (aP.2 hs)) l (aP.2 hl)) t (aP.2 J);obtain⟨Y,V,U,T⟩:=h;have b4:(e !=4)=true:=by simpa using Y
 have b5:(e !=5)=true:=by simpa using V
 have b7:((lE s e).2.2==0)=true:=by simpa using T
 rw[b4,b5,U,b7]at Z;simpa using Z
theorem Lc:∀s:Nat,s<10->∀l:Nat,l<5->(4<=s/\s<=8/\1<=l/\xT (s:Int) (l:Int) 1=true)->xT (lE s 4).2.1 (YG (lE s 4).1 (l:Int)) (YH (lE s 4).1 0)=true:=by decide+kernel
theorem Ld:∀s:Nat,s<10->(4<=s/\s<=8/\xT (s:Int) 0 1=true)->xT (lE s 5).2.1 (YG (lE s 5).1 0) (YH (lE s 5).1 0)=true:=by decide+kernel
structure AE(s:LS):Prop where
 ok:xT s.st s.lf s.wt=true
 o1:0<=s.ow
 o2:s.ow<=255
 m1:0<=s.nm
 m2:s.nm<=255
 f1:0<=s.fm
 f2:s.fm<=255
theorem AE.bd {s:LS} (h:AE s):Bd s 100:=by
 obtain⟨a,b,c,d,_⟩:=(sP _ _ _).1 h.ok;exact⟨h.o1,h.o2,eh,eh⟩
theorem AE.wt {s:LS} (h:AE s):0<=s.wt/\s.wt<=3:=by
 obtain⟨_,_,_,_,_,a,b,_⟩:=(sP _ _ _).1 h.ok;exact⟨a,b⟩
theorem yG {s:LS} (h1:0<=s.ow)(h2:s.ow<=255)(m1:0<=s.nm)(m2:s.nm<=255)(f1:0<=s.fm)(f2:s.fm<=255)(ev:Int)(Z:xT (jj s.st ev).2.1 (YG (jj s.st ev).1 s.lf) (YH (jj s.st ev).1 s.wt)=true):AE (nY s ev):=by
 unfold nY;obtain⟨D,nx,f,T⟩:∃D nx f,jj s.st ev=(D,nx,f):=⟨_,_,_,rfl⟩
 rw[T]at Z⊢;simp only at Z⊢;have M:(s.next nx).st=nx/\(s.next nx).lf=s.lf/\(s.next nx).wt=s.wt/\(s.next nx).ow=s.ow/\(s.next nx).fm=s.fm/\((s.next nx).nm=s.nm \/(s.next nx).nm=s.fm):=by
  unfold LS.next;split
  ·exact⟨rfl,rfl,rfl,rfl,rfl,.inr rfl⟩
  ·exact⟨rfl,rfl,rfl,rfl,rfl,.inl rfl⟩
 obtain⟨n1,J,n3,n4,V,n6⟩:=M;obtain⟨q1,_,_,U,_,q6,H,G,E,Y⟩:=Hw D (s.next nx) eh eh;refine⟨by rw[q1,H,G,n1,J,n3];exact Z,E,Y,?_,?_,by rw[U,V];exact f1,by rw[U,V];exact f2⟩
 ·rw[q6];rcases n6 with e|e<;>rw[e] <;>assumption
 ·rw[q6];rcases n6 with e|e<;>rw[e] <;>assumption
theorem AE.ev {s:LS} (h:AE s)(e:Nat)(Z:e<12)(T:e≠4)(M:e≠5)(zp:kP):AE (tr s e zp).1:=by
 by_cases hf:(jj s.st e).2.2=0
 ·rw[tW _ hf];obtain⟨a,b,c,d,_,f,g,_⟩:=(sP _ _ _).1 h.ok;refine yG h.o1 h.o2 h.m1 h.m2 h.f1 h.f2 e ?_;have U:=h.ok;obtain⟨st,Y⟩:∃st:Nat,s.st=st:=⟨s.st.toNat,eh⟩
  obtain⟨l,hl⟩:∃l:Nat,s.lf=l:=⟨s.lf.toNat,eh⟩
  obtain⟨t,V⟩:∃t:Nat,s.wt=t:=⟨s.wt.toNat,eh⟩
  rw[Y]at hf;rw[nE st e eh Z]at hf;rw[Y,hl,V,nE st e eh Z];rw[Y,hl,V]at U;exact U6 e Z st eh l eh t eh ⟨T,M,U,hf⟩
 ·rw[wC _ hf];exact h
theorem AE.k8 {s:LS} (h:AE s)(ev:Int):AE (k8 s ev).1:=by
 unfold Go.Proofs.YtieklnlbljejdaaGreatDoor.k8;split
 ·rename_i Z
  rcases Z with rfl|rfl|rfl|rfl
  ·exact h.ev 0 eA eA eA _
  ·exact h.ev 1 eA eA eA _
  ·exact h.ev 2 eA eA eA _
  ·exact h.ev 3 eA eA eA _
 ·exact h
theorem AE.tick {s:LS} (h:AE s):AE (kt s):=by
 obtain⟨a,b,c,d,E,f,g,G⟩:=(sP _ _ _).1 h.ok;unfold kt;by_cases H:4<=s.st/\s.st<=8
 ·rw[af (by simp;omega)];by_cases U:0<s.wt-1
  ·rw[ai U];exact⟨(sP _ _ _).2 ⟨a,b,c,d,E,by show 0<=s.wt-1;omega,by show s.wt-1<=3;omega,λ_=>by show 1<=s.wt-1;omega⟩,h.o1,h.o2,h.m1,h.m2,h.f1,h.f2⟩
  ·rw[af U];have T:s.wt=1:=by have:=G H;omega
   have M:s.wt-1=0:=eh;have Y:=h.ok;obtain⟨st,V⟩:∃st:Nat,s.st=st:=⟨s.st.toNat,eh⟩
   obtain⟨l,hl⟩:∃l:Nat,s.lf=l:=⟨s.lf.toNat,eh⟩
   by_cases Z:0<s.lf
   ·rw[ai Z];refine yG (s:={s with wt:=s.wt-1}) h.o1 h.o2 h.m1 h.m2 h.f1 h.f2 4 ?_;show xT (jj s.st 4).2.1 (YG (jj s.st 4).1 s.lf) (YH (jj s.st 4).1 (s.wt-1))=true;rw[M,V,hl,show(4:Int)=((4:Nat):Int)from rfl,nE st 4 eh eA];rw[V,hl,T]at Y;exact Lc st eh l eh ⟨eh,eh,eh,Y⟩
   ·rw[af Z];refine yG (s:={s with wt:=s.wt-1}) h.o1 h.o2 h.m1 h.m2 h.f1 h.f2 5 ?_;show xT (jj s.st 5).2.1 (YG (jj s.st 5).1 s.lf) (YH (jj s.st 5).1 (s.wt-1))=true;have J:s.lf=0:=eh;rw[M,V,J,show(5:Int)=((5:Nat):Int)from rfl,nE st 5 eh eA];rw[V,J,T]at Y;exact Ld st eh ⟨eh,eh,Y⟩
 ·rw[ai (by simp;omega)];exact h
theorem Et:∀(os seen:List jH),qg seen os=0->∀o∈os,yA o.1=true/\yA o.2=true
 |[],_,_=>λo Y=>by simp at Y
 |o::r,seen,h=>by
  unfold qg at h;split at h
  ·simp at h
  ·rename_i Z
   split at h
   ·simp at h
   ·intro x hx;rcases aO.1 hx with rfl|hx
    ·simpa using Z
    ·exact Et r (seen++ [o]) h x hx
theorem Le {code id:Int} (h:jU code id os=0):∀o∈os,yA o.1=true/\yA o.2=true:=by
 unfold jU at h;split at h
 ·simp at h
 ·split at h
  ·simp at h
  ·split at h
   ·simp at h
   ·exact Et os [] h
theorem PB(code:Int):∀(os:List jH) (p:Int×Int),(∀o∈os,yA o.1=true/\yA o.2=true)->0<=p.2->p.2<=255->0<=(pv code os p).2/\(pv code os p).2<=255
 |[],_,_,h1,h2=>⟨h1,h2⟩
 |o::r,p,hb,h1,h2=>by
  have e:pv code (o::r) p=pv code r (kc code p o):=rfl;rw[e];have Y:=(Dn o.2).1 (hb o gZ).2;have Z:0<=(kc code p o).2/\(kc code p o).2<=255:=by
   unfold kc;split
   ·split
    ·exact⟨h1,h2⟩
    ·split
     ·exact⟨Int.le_refl _,show(0:Int)<=255 by decide⟩
     ·exact⟨h1,h2⟩
   ·split
    ·split
     ·exact⟨h1,h2⟩
     ·split
      ·exact Y
      ·exact⟨h1,h2⟩
    ·exact⟨h1,h2⟩
  exact PB code r _ (λx hx=>hb x (by simp[hx])) Z.1 Z.2
theorem AE.sized {s:LS} (h:AE s)(os:List jH):AE (s.sized os):=by
 unfold LS.sized;split
 ·exact⟨h.ok,h.o1,h.o2,h.m1,h.m2,h.f1,h.f2⟩
 ·exact h
theorem AE.jN {s:LS} (h:AE s)(p:kP):AE (jN s p).1:=by
 unfold Go.Proofs.YtieklnlbljejdaaGreatDoor.jN;split
 ·exact h
 ·rename_i V
  have Z:jU p.1 p.2.1 p.2.2=0:=by simpa using V
  split
  ·unfold uA;split
   ·split
    ·exact(h.ev 6 eA eA eA _).sized _
    ·exact h.ev 6 eA eA eA _
   ·exact h.ev 7 eA eA eA _
  ·split
   ·exact h.ev 10 eA eA eA _
   ·split
    ·exact h.ev 11 eA eA eA _
    ·unfold tX;split
     ·exact h
     ·split
      ·split
       ·exact h
       ·exact h.ev 8 eA eA eA _
      ·have Y:AE (s.tell p.1 p.2.2):=by
        unfold LS.tell;split
        ·have:=PB p.1 p.2.2 (s.ns,s.nm) (Le Z) h.m1 h.m2;exact⟨h.ok,h.o1,h.o2,this.1,this.2,h.f1,h.f2⟩
        ·exact h
       exact Y.ev 9 eA eA eA _
section
variable {P:Program}
end
section
variable {P:Program} {md:Region.Mode} {ops:Array Oper} {Q:Exit->Act->World->Prop} {S:World->Prop}
theorem jr(i:Nat)(d:Option Tmp) {oi:Oper} {fuel:Nat} {listed:Array Bool} {a:Act} (hi:ops[i]? =μ oi)(hd:oi.dst=d)
 (hs:Region.noSelect ops=true) (hf:Region.free md ops listed i=true) (V:(Region.ready md ops listed).contains i=true)
 (Z:∀c a w,Q (.panic c) (a.put d v) w->Q (.panic c) a w) (U:Region.wanted oi (yielded ops a.tmps)=true) (hy:∀w,S w->(execOp a.eval oi).run P w=.ok (.value v) w) (Y:S w)
 (h:wpAnyH P md ops Q S fuel (listed.setIfInBounds i true) (a.put d v) w):wpAnyH P md ops Q S (fuel+1) listed a w:=by
 subst hd;exact wpAnyH_take hi hs hf V Z (Or.inl ⟨U,hy⟩) Y h
end
theorem uB {x:dY} {o:Obj} {C:Array dZ} {t:TypeId} (h:iZ w B C t)(Z:(w.alloc o).drew.grownBy x v.ownBlock)(hv:v.ownBlock≠μ B):iZ x B C t:=by
 refine h.keep ?_;rw[Z.block B (by show B<(w.alloc o).heap.size;have:=h.lt;simp;omega) (λe=>hv e.symm)];exact aU w o B h.lt
theorem U7(w:dY):(zeroValue 254).run e7 w=.ok (.agg #[ι κ 0,ι κ 0,ι κ 0,ι κ 0,ι κ 0,ι κ 0,ι κ 0,ι κ 0,ι κ 0,ι κ 0,ι κ 0,σ ν 0 0]) w:=gX
theorem C4(w:dY)(o:Obj):(w.alloc o).heap[w.heap.size]? =μ o:=aY w o
theorem YI(S M:Int)(w:dY)(Y:¬S<40)(V:¬255<S)(U:¬M<1)(T:¬255<M):
 eZ e7 119 #[ι κ S,ι κ M] w λe w'=>∃B,e=ρ (τ #[π (μ ⟨B,0,ν⟩),η])/\Lk w' B (TS S M S M 0 0 0 255 0 0 0 (σ ν 0 0))/\w.heap.size<=B/\eE w w':=by
 have hz:=zm;have hzl:=U7;have J:=abF S M w Y V U T;clear Y V U T
 go_in
 go_wp2_with(fail);refine J.mono ?_;rintro e w1 ⟨rfl,hb⟩;have hs:=hb.size;have A:=(hb.alloc hb.size (γ #[ι κ S,ι κ M] 252))
 have H:=gu A (gY _ (γ (TS S M S M 0 0 0 255 0 0 0 (σ ν 0 0)) 254));have Z:=C4 (w1.alloc (γ #[ι κ S,ι κ M] 252)) (γ (TS S M S M 0 0 0 255 0 0 0 (σ ν 0 0)) 254);have D:(w1.alloc (γ #[ι κ S,ι κ M] 252)).heap.size=w1.heap.size+1:=gZ;rw[D]at Z;have E:Hid _:=Z;have G:Hid _:=H;clear Z H J
 go_wp2
 go_ret2
 exact⟨w1.heap.size+1,rfl,E.out,eh,G.out⟩
theorem rK.rest {s:LS} (h:Lk w B (s.c (σ ν 0 0))):rK w B (λk=>k<w.heap.size) s (σ ν 0 0) [] :=
 ⟨h,Row.nil _ 3,λg Z=>by simp[eu]at Z,h.lt,λ_ Y=>Y,λp V=>by simp at V⟩
def NL(S M:Int):LS:=⟨S,M,S,M,0,0,0,255,0,0,0⟩
theorem Eu(S M:Int):(k8 {NL S M with st:=1} 0).2.2=0/\(k8 {NL S M with st:=1} 0).1.st=6/\(k8 {NL S M with st:=1} 0).2.1.length=1:=⟨gX,gX,gX⟩
theorem rK.far {M:Nat} {s:LS} (h:rK w B X s v ps)(k:Kept w w' M ν)(U:X M)(G:B≠M):rK w' B X s v ps:=by
 have hb:∀j,j<w.heap.size->j≠M->w'.heap[j]? =w.heap[j]? :=λj Z J=>k.block j Z J gZ;refine⟨h.lk.keep (hb B h.lk.lt G),h.row.keep k.size (λj Z=>hb j (h.row.lt j Z) (λe=>h.own j Z (by rw[e];exact U))),h.own,h.self,λj Z=>Nat.lt_of_lt_of_le (h.old j Z) k.size,λp H=> ?_⟩;obtain⟨o,z,l,f,fr⟩:=h.pk p H;exact⟨o.O1 (λj Z=>by obtain⟨Y,_,V⟩:=fr j Z;exact hb j V (λe=>Y (by rw[e];exact U))),z,l,f,λj Z=>by obtain⟨Y,T,V⟩:=fr j Z;exact⟨Y,T,Nat.lt_of_lt_of_le V k.size⟩⟩
theorem Ev:∀(L:List UInt8) (s:LS) (a:kP),(yq L s a).length<=L.length
 |[],_,_=>Nat.le_refl _
 |c::r,s,a=>by
  have e:yq (c::r) s a=Gl c s a++yq r (pY c s) a:=rfl;have h1:=Ev r (pY c s) a;have h2:=K5 c s a;rw[e,az,cN];omega
theorem tK(s:LS)(ev:Int)(a:kP):(tr s ev a).2.1.length<=4:=by
 by_cases hf:(jj s.st ev).2.2=0
 ·rw[tW _ hf];have h1:=Ev (jj s.st ev).1 (s.next (jj s.st ev).2.1) a;have h2:=Ba s.st ev;show(pT s ev a).length<=4;unfold pT;omega
 ·rw[wC _ hf];simp
theorem zJ(s:LS)(ev:Int):(k8 s ev).2.1.length<=4:=by
 unfold k8;split
 ·exact tK _ _ _
 ·simp
theorem Hx(s:LS):(lT s).length<=4:=by
 have hc:∀(s:LS) (ev:Int),(pT s ev (0,0,[])).length<=4:=λs ev=>by
  have h1:=Ev (jj s.st ev).1 (s.next (jj s.st ev).2.1) (0,0,[]);have h2:=Ba s.st ev;unfold pT;omega
 unfold lT;split
 ·simp
 ·split
  ·simp
  ·split
   ·exact hc _ _
   ·exact hc _ _
theorem Hy(s:LS)(p:kP):(jN s p).2.1.length<=4:=by
 unfold jN;split
 ·simp
 ·split
  ·unfold uA;split
   ·split
    ·exact tK _ _ _
    ·exact tK _ _ _
   ·exact tK _ _ _
  ·split
   ·exact tK _ _ _
   ·split
    ·exact tK _ _ _
    ·unfold tX;split
     ·simp
     ·split
      ·split
       ·simp
       ·exact tK _ _ _
      ·exact tK _ _ _
theorem Rn(B:Nat)(l code id:Int)(a:Option Addr)(n cap:Nat)(w:dY)(h1:(l==105)=false)(h2:(l==122)=false)(h3:(l==114)=false)(h4:(l==116)=false)(h5:(l==97)=false)(h6:(l==110)=false)(h7:(l==107)=false):
 eZ e7 208 #[π (μ ⟨B,0,ν⟩),.int .u8 l,.agg #[ι κ code,ι κ id,σ a n cap]] w λe w'=>e=ρ (τ #[])/\eE w w':=by
 have hb:=gY w (γ #[ι κ code,ι κ id,σ a n cap] 37)
 go_in
 go_wp2
 first|go_end0|refine iM rfl rfl ?_
 exact⟨rfl,hb⟩
theorem NM(B:Nat)(fs fm ns nm qs qm sz lf wt ow code id:Int)(v:dZ)(a:Option Addr)(n cap:Nat)(w:dY)(hT:jh w)(h:Lk w B (TS fs fm ns nm qs qm 0 sz lf wt ow v)):
 eZ e7 171 #[π (μ ⟨B,0,ν⟩),ι κ 2,.agg #[ι κ code,ι κ id,σ a n cap]] w λe w'=>e=ρ η/\Lk w' B (TS fs fm fs fm qs qm 1 255 lf wt ow v)/\w.grownBy w' (μ B):=by
 have G:=gY w (γ #[ι κ code,ι κ id,σ a n cap] 37);have hA:=λj=>aq w #[ι κ code,ι κ id,σ a n cap] 37 (0,0) j;have h0:=h.below G;have Tw:=hT.below G;have D:=I0 0 2 [115] 1 0 (by decide+kernel) _ Tw;have e0:jk 0=η:=rfl;rw[e0]at D;have hl:=h.lt;have E:w.cell? ⟨B,6,ν⟩=μ (ι κ 0):=h.cell 6
 go_in
 go_wp2_with(fail);refine D.mono ?_;rintro e w1 ⟨rfl,m1,rfl⟩;obtain⟨Y,M⟩:=gq ((w.alloc (γ #[ι κ code,ι κ id,σ a n cap] 37)).drewN m1);obtain⟨Z,H⟩:=gq (w.heap.size);have d0:Y.cell? ⟨Z,0,ν⟩=μ (ι κ code):=by rw[<-M,<-H];exact hA 0
 have d1:Y.cell? ⟨Z,1,ν⟩=μ (ι κ id):=by rw[<-M,<-H];exact hA 1
 have d2:Y.cell? ⟨Z,2,ν⟩=μ (σ a n cap):=by rw[<-M,<-H];exact hA 2
 have U:Lk Y B (TS fs fm ns nm qs qm 0 sz lf wt ow v):=by rw[<-M];exact h0
 have kG:w.grownBy Y (μ B):=by rw[<-M];exact sG B (below_drewN G m1)
 rw[M,H];have V:B≠Z:=eh;clear D M H hA h0 Tw G h E hl e0 hT;have X9:=U.lt;have c0:Y.cell? ⟨B,0,ν⟩=μ (ι κ fs):=U.cell 0;have c1:Y.cell? ⟨B,1,ν⟩=μ (ι κ fm):=U.cell 1;have c2:Y.cell? ⟨B,2,ν⟩=μ (ι κ ns):=U.cell 2;have c3:Y.cell? ⟨B,3,ν⟩=μ (ι κ nm):=U.cell 3;have E:Y.cell? ⟨B,6,ν⟩=μ (ι κ 0):=U.cell 6;have c7:Y.cell? ⟨B,7,ν⟩=μ (ι κ sz):=U.cell 7;have fz:∀j,Y.frozen? ⟨B,j,ν⟩=false:=U.frozen;have H2:Hid (Lk ((((Y.setCell ⟨B,6,ν⟩ (ι κ 1)).setCell ⟨B,2,ν⟩ (ι κ fs)).setCell ⟨B,3,ν⟩ (ι κ fm)).setCell ⟨B,7,ν⟩ (ι κ 255)) B (TS fs fm fs fm qs qm 1 255 lf wt ow v)):=((((U.set 6 _).set 2 _).set 3 _).set 7 _)
 have G2:Hid (w.grownBy ((((Y.setCell ⟨B,6,ν⟩ (ι κ 1)).setCell ⟨B,2,ν⟩ (ι κ fs)).setCell ⟨B,3,ν⟩ (ι κ fm)).setCell ⟨B,7,ν⟩ (ι κ 255)) (μ B)):=(pF (pF (pF (pF kG 6 _) 2 _) 3 _) 7 _)
 have A:Hid (((((Y.setCell ⟨B,6,ν⟩ (ι κ 1)).setCell ⟨B,2,ν⟩ (ι κ fs)).setCell ⟨B,3,ν⟩ (ι κ fm)).setCell ⟨B,7,ν⟩ (ι κ 255)).cell? ⟨Z,0,ν⟩=μ (ι κ code)):=by show _=_;rw[aM _ _ _ _ V,aM _ _ _ _ V,aM _ _ _ _ V,aM _ _ _ _ V];exact d0
 have y:Hid (((((Y.setCell ⟨B,6,ν⟩ (ι κ 1)).setCell ⟨B,2,ν⟩ (ι κ fs)).setCell ⟨B,3,ν⟩ (ι κ fm)).setCell ⟨B,7,ν⟩ (ι κ 255)).cell? ⟨Z,1,ν⟩=μ (ι κ id)):=by show _=_;rw[aM _ _ _ _ V,aM _ _ _ _ V,aM _ _ _ _ V,aM _ _ _ _ V];exact d1
 have u:Hid (((((Y.setCell ⟨B,6,ν⟩ (ι κ 1)).setCell ⟨B,2,ν⟩ (ι κ fs)).setCell ⟨B,3,ν⟩ (ι κ fm)).setCell ⟨B,7,ν⟩ (ι κ 255)).cell? ⟨Z,2,ν⟩=μ (σ a n cap)):=by show _=_;rw[aM _ _ _ _ V,aM _ _ _ _ V,aM _ _ _ _ V,aM _ _ _ _ V];exact d2
 go_wp2_with(fail);obtain⟨T,J⟩:=gq ((((Y.setCell ⟨B,6,ν⟩ (ι κ 1)).setCell ⟨B,2,ν⟩ (ι κ fs)).setCell ⟨B,3,ν⟩ (ι κ fm)).setCell ⟨B,7,ν⟩ (ι κ 255));have h2:Lk T B (TS fs fm fs fm qs qm 1 255 lf wt ow v):=by rw[<-J];exact H2.out
 have BQ:w.grownBy T (μ B):=by rw[<-J];exact G2.out
 have d0:T.cell? ⟨Z,0,ν⟩=μ (ι κ code):=by rw[<-J];exact A.out
 have d1:T.cell? ⟨Z,1,ν⟩=μ (ι κ id):=by rw[<-J];exact y.out
 have d2:T.cell? ⟨Z,2,ν⟩=μ (σ a n cap):=by rw[<-J];exact u.out
 rw[J];clear H2 G2 A y u J fz X9 E U kG c0 c1 c2 c3 c7;have Ka:Z<T.heap.size:=ag T _ d0;refine bZ 2 ?_;rw[bR]
 go_wp2
 go_region_with(go_at_call 208;refine(Rn B 115 code id a n cap _ eA eA eA eA eA eA eA).mono ?_;rintro e V0 ⟨rfl,k0⟩)
 all_goals
  have L0:=(h2.drew).below k0;have g0:=BU BQ (BU (sG B (jG (au _ _))) (sG B k0));go_wp2_with(fail);rw[bR]
  go_wp2
  go_ret;exact⟨rfl,L0,g0⟩
theorem U8(B:Nat)(fs fm ns nm qs qm sz lf wt ow:Int)(v:dZ)(w:dY)(Z:jh w)(h:Lk w B (TS fs fm ns nm qs qm 0 sz lf wt ow v)):
 eZ e7 120 #[π (μ ⟨B,0,ν⟩),ι κ 2] w λe w'=>e=ρ η/\Lk w' B (TS fs fm fs fm qs qm 1 255 lf wt ow v)/\w.grownBy w' (μ B):=by
 have hz:=sO;have hc:=NM B fs fm ns nm qs qm sz lf wt ow 0 0 v ν 0 0 w Z h;clear h Z
 go_in
 go_wp2_with(fail);refine hc.mono ?_;rintro e w1 ⟨rfl,Y,V⟩
 go_wp2
 go_ret;exact⟨rfl,Y,V⟩
