import Derived.Test.YtieklnlbljejdaaGreatDoorC10
open Go.Value renaming int → ι, slice → σ, pointer → π, tuple → τ, nilIface → η
open Go.IntKind renaming i64 → κ
open Go.Ending renaming returned → ρ
open Go.Obj renaming cells → γ
open Option renaming none → ν, some → μ
open List renaming range → fW, mem_filter → gY, append_nil → gQ
open Prod renaming fst → gZ, snd → ia
open Go renaming Calls → eX
open Go.Proofs.Tryz renaming prog → eY
set_option maxRecDepth 100000
set_option maxHeartbeats 4000000
namespace Go.Proofs.YtieklnlbljejdaaGreatDoor
open Go.RowKit St
namespace Rt
variable {D N i p:Nat} {L:List ot} {S:List (Int×List UInt8)} {T:List (Nat×Nat)} {W w w' w0:World} {X:Nat->Prop} {e:Ending} {many:Int} {ps:List (List UInt8)} {s:LS}
theorem Zk(c:UInt8)(s:LS):(pS c s).st=s.st:=by
 unfold pS
 repeat' split
 all_goals rfl
theorem P6:∀(L:List UInt8) (s:LS),(qI L s).st=s.st
 |[],_=>rfl
 |c::r,s=>by
  show(qI r (pS c s)).st=s.st;rw[P6 r,Zk]
theorem Zl(s:LS)(nx:Int):(s.next nx).st=nx:=by
 unfold LS.next;split<;>rfl
theorem wL(s:LS)(ev:Int):(nW s ev).st=(jh s.st ev).2.1:=by
 unfold nW;rw[P6,Zl]
def ux(s:Int):Bool:=s==3||(decide (5<=s)&&decide (s<=9))
theorem Dx {s:Int} (h:ux s=true):∃k:Nat,s=k/\k<10:=by
 refine⟨s.toNat,?_⟩;simp only[ux,Bool.or_eq_true,beq_iff_eq,Bool.and_eq_true,decide_eq_true_eq]at h;omega
theorem adz:((fW 12).all λe=>(fW 10).all λs=> !(decide (4<=e)&&ux (s:Int)&& ((lp s e).2.2==0))||ux (lp s e).2.1)=true:=by decide+kernel
theorem Zm {e s:Nat} (U:e<12)(V:4<=e)(hs:s<10)(Q:ux (s:Int)=true)(Y:(lp s e).2.2=0):ux (lp s e).2.1=true:=by
 have Z:=aZ.1 (aZ.1 adz e (aP.2 U)) s (aP.2 hs);have b4:decide (4<=e)=true:=by simpa using V
 have b7:((lp s e).2.2==0)=true:=by simpa using Y
 rw[b4,Q,b7]at Z;simpa using Z
theorem E8(e:Nat)(V:e<12)(U:4<=e)(a:kN)(h:ux s.st=true):ux (sY s e a).1.st=true:=by
 obtain⟨k,Q,Y⟩:=Dx h;by_cases Z:(jh s.st e).2.2=0;{rw[tP a Z];show ux (nW s e).st=true;rw[wL];rw[Q]at h Z⊢;rw[nA k e Y V]at Z⊢;exact Zm V U Y h Z};{rw[wa a Z];exact h}
theorem Zn(s:LS)(code:Int)(os:List jJ):(s.tell code os).st=s.st:=by
 unfold LS.tell;split<;>rfl
theorem Wi(s:LS)(os:List jJ):(s.sized os).st=s.st:=by
 unfold LS.sized;split<;>rfl
theorem Zo(p:kN)(h:ux s.st=true):ux (jK s p).1.st=true:=by
 unfold jK;split;{exact h};{split;{unfold uk;split;{split;{rw[Wi];exact E8 6 ew ew _ h};{exact E8 6 ew ew _ h}};{exact E8 7 ew ew _ h}};{split;{exact E8 10 ew ew _ h};{split;{exact E8 11 ew ew _ h};{unfold tQ;split;{exact h};{split;{split;{exact h};{exact E8 8 ew ew _ h}};{exact E8 9 ew ew _ (by rw[Zn];exact h)}}}}}}
theorem LZ:((fW 10).all λs=> !(ux (s:Int)&&decide (4<=s)&&decide (s<=8))||(ux (lp s 4).2.1&&ux (lp s 5).2.1))=true:=by decide+kernel
theorem Wj(h:ux s.st=true):ux (kj s).st=true:=by
 obtain⟨k,Y,V⟩:=Dx h;unfold kj;split;{exact h}
 ·rename_i Q
  have U:4<=k/\k<=8:=by
   rw[Y]at Q;simp at Q;omega
  have Z:=aZ.1 LZ k (aP.2 V);rw[<-Y,h]at Z;simp[U.1,U.2]at Z;split;{exact h};{split;{rw[wL];show ux (jh s.st 4).2.1=true;rw[Y,show(4:Int)=((4:Nat):Int)from rfl,nA k 4 V ew];exact Z.1};{rw[wL];show ux (jh s.st 5).2.1=true;rw[Y,show(5:Int)=((5:Nat):Int)from rfl,nA k 5 V ew];exact Z.2}}
theorem L5:((fW 10).all λs=> !(ux (s:Int))||((lp s 1).2.2==0&& (lp s 1).2.1==1))=true:=by decide+kernel
theorem tH(h:ux s.st=true):(kY s 1).2.2=0/\(kY s 1).1.st=1:=by
 obtain⟨k,V,Y⟩:=Dx h;have Z:=aZ.1 L5 k (aP.2 Y);rw[<-V,h]at Z;simp at Z;have U:(jh s.st 1).2.2=0:=by
  rw[V,show(1:Int)=((1:Nat):Int)from rfl,nA k 1 Y ew];exact Z.1
 have e:kY s 1=(nW s 1,pL s 1 (0,0,[]),0):=by
  unfold kY;rw[ai gU,tP _ U]
 rw[e];refine⟨rfl,?_⟩;show(nW s 1).st=1;rw[wL,V,show(1:Int)=((1:Nat):Int)from rfl,nA k 1 Y ew];exact Z.2
theorem Ee(h:s.st=1):(kY s 0).2.2=0/\ux (kY s 0).1.st=true:=by
 have Z:(jh s.st 0).2.2=0:=by rw[h];decide+kernel
 have e:kY s 0=(nW s 0,pL s 0 (0,0,[]),0):=by
  unfold kY;rw[ai gU,tP _ Z]
 rw[e];refine⟨rfl,?_⟩;show ux (nW s 0).st=true;rw[wL,h];decide+kernel
theorem Wk(h:ux s.st=true):ux (jd s).1.st=true:=by
 have Z:=Wj h;unfold jd;split;{exact(Ee (tH Z).2).2};{exact Z}
theorem Sv(h:s.st=1):(jd s).1=s:=by
 have Z:kj s=s:=by unfold kj;simp[h]
 unfold jd;rw[Z];simp[h]
structure pj(up:Bool)(p:jv):Prop where
 st:if up=true then ux p.L.st=true else p.L.st=1
 gate:p.pe.who≠0->p.L.st=9
theorem pj.congr {up:Bool} {p q:jv} (h:pj up p)(Z:q.L=p.L)(Y:q.pe=p.pe):pj up q:=⟨by rw[Z];exact h.st,by rw[Z,Y];exact h.gate⟩
theorem wM(p:jv)(c:UInt8)(s:List UInt8):(p.put c s).L=p.L:=by
 unfold jv.put
 repeat' split
 all_goals rfl
theorem E9:∀(l:List kN) (p:jv),(p.say l).L=p.L
 |[],_=>rfl
 |q::r,p=>by
  show((if jS q.1 q.2.1 q.2.2=0 then p.put 76 (mG q.1 q.2.1 q.2.2)else p).say r).L=_;rw[E9 r];split;{exact wM _ _ _};{rfl}
theorem wN:∀(l:List (Int×PS)) (p:jv),(p.kH l).L=p.L/\(p.kH l).pe=p.pe
 |[],_=>⟨rfl,rfl⟩
 |q::r,p=>by
  obtain⟨Z,Y⟩:=wN r (p.put 83 (rh q.1 q.2.1 q.2.2));exact⟨Z.trans (wM _ _ _),Y.trans (rP _ _ _)⟩
def kh(r r':iN)(p:Nat):Prop:=(r'.P p).L=(r.P p).L/\(r'.P p).pe=(r.P p).pe
theorem kh.refl(r:iN)(p:Nat):kh r r p:=⟨rfl,rfl⟩
theorem kh.trans {a b c:iN} {p:Nat} (h:kh a b p)(g:kh b c p):kh a c p:=⟨g.1.trans h.1,g.2.trans h.2⟩
theorem kh.xQ {r r':iN} (h:r'.P=r.P)(p:Nat):kh r r' p:=by unfold kh;rw[h];exact⟨rfl,rfl⟩
theorem kh.iU(r:iN)(i:Nat)(q:jv)(Z:q.L=(r.P i).L)(Y:q.pe=(r.P i).pe)(p:Nat):kh r (r.iU i q) p:=by
 show(k9 r.P i q p).L=_/\(k9 r.P i q p).pe=_;by_cases e:p=i;{subst e;rw[jy];exact⟨Z,Y⟩};{rw[jr _ _ e];exact⟨rfl,rfl⟩}
theorem kh.yR(r:iN)(q:jv)(h:p≠i):kh r (r.iU i q) p:=by
 show(k9 r.P i q p).L=_/\(k9 r.P i q p).pe=_;rw[jr _ _ h];exact⟨rfl,rfl⟩
theorem kh.qP(r:iN)(q:lD)(h:p≠i):kh r (r.meet i q) p:=by
 unfold kh;rw[(mV r i q).2.2.2,jr _ _ h];exact⟨rfl,rfl⟩
theorem zW(r:iN)(i:Nat)(q:lD):((r.meet i q).P i).L=(r.P i).L/\((r.meet i q).P i).pe=q:=by
 rw[(mV r i q).2.2.2,jy];exact⟨rfl,rfl⟩
theorem kh.send(r:iN)(t:zb)(p:Nat):kh r (r.send t) p:=by
 unfold iN.send;split;{exact kh.xQ rfl p};{split;{exact kh.xQ rfl p};{exact kh.iU _ _ _ (wM _ _ _) (rP _ _ _) p}}
theorem kh.state(r:iN)(i:Nat)(l:List UInt8)(p:Nat):kh r (jj r i l) p:=by
 unfold jj;simp only;split;{exact kh.refl r p};{split;{exact kh.xQ (oG _ _).2.2.2 p};{split;{exact kh.iU _ i _ (wM _ _ _) (rP _ _ _) p};{exact kh.xQ rfl p}}}
theorem Ou(r:iN)(i:Nat)(c:UInt8)(s:List UInt8)(p:Nat):((mB r i c s).P p).L=(r.P p).L/\(p≠i->kh r (mB r i c s) p):=by
 unfold mB;split;{split;{refine⟨?_,λh=>kh.qP r _ h⟩;by_cases e:p=i;{subst e;exact(zW r p _).1};{exact(kh.qP r _ e).1}};{exact⟨rfl,λ_=>kh.refl r p⟩}}
 ·split;{exact⟨(kh.state r i s p).1,λ_=>kh.state r i s p⟩}
  ·split
   ·have h:kh r (kC r i s) p:=by
     unfold kC;simp only;split<;>exact kh.xQ rfl p
    exact⟨h.1,λ_=>h⟩
   ·split
    ·have h:kh r (ry r s) p:=by
      unfold ry;split;{exact kh.send _ _ p};{exact kh.refl r p}
     exact⟨h.1,λ_=>h⟩
    ·exact⟨rfl,λ_=>kh.refl r p⟩
def Ov(p:jv):Prop:=ux p.L.st=true/\(p.pe.who≠0->p.L.st=9)
theorem pj.up {p:jv}:pj true p↔Ov p:=⟨λh=>⟨by simpa using h.st,h.gate⟩,λh=>⟨by simpa using h.1,h.2⟩⟩
theorem Ov.congr {p q:jv} (h:Ov p)(Z:q.L=p.L)(Y:q.pe=p.pe):Ov q:=by
 unfold Ov;rw[Z,Y];exact h
theorem Sw {p:jv} (s:List UInt8)(h:ux p.L.st=true):ux (p.packet s).L.st=true:=by
 unfold jv.packet;simp only;split;{rw[E9];exact Zo _ h};{exact h}
theorem Ih {r:iN} (i:Nat)(c:UInt8)(s:List UInt8)(h:Ov (r.P i)):Ov ((r.take i c s).P i)/\∀p,p≠i->kh r (r.take i c s) p:=by
 have V:ux ((j1 r i c s).P i).L.st=true:=by
  unfold j1;split;{show ux (k9 r.P i _ i).L.st=true;rw[jy];exact Sw s h.1};{exact h.1}
 have U:∀p,p≠i->kh r (j1 r i c s) p:=λp Z=>by
  unfold j1;split;{exact kh.yR r _ Z};{exact kh.refl r p}
 rw[lJ];split;{obtain⟨a,b⟩:=zW (j1 r i c s) i nobody;refine⟨⟨by rw[a];exact V,λe=>absurd (by rw[b];rfl) e⟩,λp Z=>(U p Z).trans (kh.qP _ _ Z)⟩}
 ·rename_i Q
  have Y:((j1 r i c s).P i).L.st=9:=by simpa using Q
  obtain⟨a,_⟩:=Ou (j1 r i c s) i c s i;exact⟨⟨by rw[a];exact V,λ_=>by rw[a];exact Y⟩,λp Z=>(U p Z).trans ((Ou _ i c s p).2 Z)⟩
theorem Fa:∀(l:List (List UInt8)) {r:iN} (i:Nat),Ov (r.P i)->Ov ((r.takes i l).P i)/\∀p,p≠i->kh r (r.takes i l) p
 |[],r,i,h=>⟨h,λp _=>kh.refl r p⟩
 |t::l,r,i,h=>by
  show Ov (((jN r i t).takes i l).P i)/\∀p,p≠i->kh r ((jN r i t).takes i l) p;have Z:Ov ((jN r i t).P i)/\∀p,p≠i->kh r (jN r i t) p:=by
   cases t with
   |nil=>exact⟨h,λp _=>kh.refl r p⟩
   |cons c s=>exact Ih i c s h
  obtain⟨a,b⟩:=Fa l i Z.1;exact⟨a,λp Y=>(Z.2 p Y).trans (b p Y)⟩
theorem Sx {r:iN} (i:Nat)(l:List UInt8)(h:Ov (r.P i)):Ov ((r.recv i l).P i)/\∀p,p≠i->kh r (r.recv i l) p:=by
 unfold iN.recv;simp only;have Z:∀p,kh r (r.iU i {r.P i with rd:=(kx (r.P i).rd l).2.2}) p:=λp=>kh.iU r i {r.P i with rd:=(kx (r.P i).rd l).2.2} rfl rfl p;obtain⟨a,b⟩:=Fa (kx (r.P i).rd l).1 (r:=r.iU i {r.P i with rd:=(kx (r.P i).rd l).2.2}) i (h.congr (Z i).1 (Z i).2);exact⟨a,λp Y=>(Z p).trans (b p Y)⟩
theorem Wl(r:iN)(i p:Nat):kh r (r.recv i []) p:=kh.iU r i _ rfl rfl p
theorem sP(p:jv):p.tick.L=(jd p.L).1:=by
 unfold jv.tick;rw[E9]
theorem Ii {r:iN} {up:Bool} (i:Nat)(h:pj up (r.P i)):pj up ((r.iW i).P i)/\∀p,p≠i->kh r (r.iW i) p:=by
 have J:((jb r i).P i).L=(jd (r.P i).L).1:=by
  show(k9 r.P i (r.P i).tick i).L=_;rw[jy,sP]
 have U:if up=true then ux ((jb r i).P i).L.st=true else((jb r i).P i).L.st=1:=by
  rw[J];have:=h.st;split;{rename_i V;rw[ai V]at this;exact Wk this};{rename_i V;rw[af V]at this;rw[Sv this];exact this}
 have Q:∀p,p≠i->kh r (jb r i) p:=λp Z=>kh.yR r _ Z;rw[k7];split;{obtain⟨a,b⟩:=zW (jb r i) i nobody;exact⟨⟨by rw[a];exact U,λe=>absurd (by rw[b];rfl) e⟩,λp Z=>(Q p Z).trans (kh.qP _ _ Z)⟩}
 ·rename_i H
  have Y:((jb r i).P i).L.st=9:=by simpa using H
  have M:∀(x:iN) (p:Nat),kh x (mJ x i) p:=λx p=>by
   unfold mJ;simp only;refine kh.iU x i _ ?_ ?_ p;{split;{exact(wN _ _).1.trans (wM _ _ _)};{exact wM _ _ _}};{split;{exact(wN _ _).2.trans (rP _ _ _)};{exact rP _ _ _}}
  obtain⟨a,b⟩:=zW (jb r i) i (iJ ((jb r i).P i).pe);obtain⟨c,d⟩:=M ((jb r i).meet i (iJ ((jb r i).P i).pe)) i;exact⟨⟨by rw[c,a];exact U,λ_=>by rw[c,a];exact Y⟩,λp Z=>(Q p Z).trans ((kh.qP _ _ Z).trans (M _ p))⟩
theorem Fb {r:iN} {U:Nat->Bool}:∀q,(∀p,p<q->pj (U p) (r.P p))->(∀p,p<q->pj (U p) ((r.ja q).P p))/\∀p,q<=p->kh r (r.ja q) p
 |0,_=>⟨λp Z=>absurd Z dZ,λp _=>kh.refl r p⟩
 |q+1,h=>by
  obtain⟨a,b⟩:=Fb (U:=U) q (λp Z=>h p dZ);have Y:=b q (Nat.le_refl q);obtain⟨c,d⟩:=Ii (r:=r.ja q) q ((h q dZ).congr Y.1 Y.2);refine⟨λp Z=> ?_,λp Z=>(b p dZ).trans (d p dZ)⟩;by_cases e:p=q;{subst e;exact c};{have:=d p e;exact(a p dZ).congr this.1 this.2}
theorem xC {r:iN} {up:Bool} (i:Nat)(h:pj (!up) (r.P i)):pj up ((r.iH i up).1.P i)/\(r.iH i up).2=0/\∀p,p≠i->kh r (r.iH i up).1 p:=by
 have Y:(kY (r.P i).L (if up=true then 0 else 1)).2.2=0/\(if up=true then ux (kY (r.P i).L (if up=true then 0 else 1)).1.st=true else(kY (r.P i).L (if up=true then 0 else 1)).1.st=1):=by
  cases up;{exact tH (pj.up.1 h).1};{exact Ee (by simpa using h.st)}
 have e:(r.P i).iH up=(({r.P i with L:=(kY (r.P i).L (if up=true then 0 else 1)).1,rd:=([],false,false)}:jv).say (kY (r.P i).L (if up=true then 0 else 1)).2.1,0):=by
  unfold jv.iH;simp only;rw[af (by simp[Y.1])]
 unfold iN.iH;rw[e];simp only;rw[af gU];obtain⟨x,hx⟩:=gg (({r.P i with L:=(kY (r.P i).L (if up=true then 0 else 1)).1,rd:=([],false,false)}:jv).say (kY (r.P i).L (if up=true then 0 else 1)).2.1);have Z:x.L=(kY (r.P i).L (if up=true then 0 else 1)).1:=by rw[<-hx,E9]
 rw[hx];obtain⟨a,b⟩:=zW (r.iU i x) i nobody;have c:((r.iU i x).P i)=x:=by show k9 r.P i x i=x;exact jy _ _ _
 refine⟨⟨by rw[a,c,Z];exact Y.2,λe=>absurd (by rw[b];rfl) e⟩,rfl,λp V=>(kh.yR r _ V).trans (kh.qP _ _ V)⟩
structure GN(y:iM):Prop where
 ends:∀c d,c<y.nc->d<2->pj (y.C c).iQ ((y.R ((y.C c).e d).1).P ((y.C c).e d).2)
 off:∀c d,c<y.nc->d<2->(y.C c).iQ=false->(y.C c).on d=[]
structure Ends(y:iM):Prop where
 ds:∀c d c' d',c<y.nc->d<2->c'<y.nc->d'<2->(y.C c).e d=(y.C c').e d'->c=c'/\d=d'
 p3:∀c d,c<y.nc->d<2->((y.C c).e d).2<3
 rn:∀i,(y.R i).n=3 \/y.n<=i
 en:∀c d,c<y.nc->d<2->((y.C c).e d).1<y.n
theorem j3.oJ {y:iM} {k:Nat} (h:j3 y D k):Ends y:=⟨h.ds,λc d hc hd=>(h.en c d hc hd).2,λi=>by
 by_cases e:i<y.n;{exact .inl (h.rn i e).1}
 ·exact .inr dZ,λc d hc hd=>(h.en c d hc hd).1⟩
theorem GN.alike {y y':iM} (h:GN y)(Y:y'.nc=y.nc)(hC:∀c,c<y.nc->(y'.C c).e=(y.C c).e/\(y'.C c).iQ=(y.C c).iQ/\((y.C c).iQ=false->∀d,d<2->(y'.C c).on d=[]))
 (Z:∀i p,kh (y.R i) (y'.R i) p):GN y':=by
 refine⟨λc d hc hd=> ?_,λc d hc hd hf=> ?_⟩;{rw[Y]at hc;rw[(hC c hc).1,(hC c hc).2.1];exact(h.ends c d hc hd).congr (Z _ _).1 (Z _ _).2};{rw[Y]at hc;rw[(hC c hc).2.1]at hf;exact(hC c hc).2.2 hf d hd}
theorem Ij {y:iM} (h:GN y)(c d:Nat)(hc:c<y.nc):GN (y.kZ c d):=by
 obtain⟨s1,V,s3,s4,Y⟩:=mW y c d;refine h.alike V (λx hx=>⟨(Y x).1,(Y x).2,λhf e Z=> ?_⟩) (λi p=> ?_)
 ·show(if x=c then(y.C c).put d _ else y.C x).on e=[]
  by_cases ex:x=c;{rw[ai ex];subst ex;unfold qC.put;rw[af (by simp[hf])];exact h.off x e hx Z hf};{rw[af ex];exact h.off x e hx Z hf}
 ·unfold kh;rw[Bl];split<;>exact⟨rfl,rfl⟩
theorem Ik {y:iM} (h:GN y):∀k,k<=y.nc->GN (y.j2 k)
 |0,_=>h
 |k+1,hk=>by
  have Y:=Ik h k dZ;have Z:(y.j2 k).nc=y.nc:=(j4 y k).2.1;exact Ij (Ij Y k 0 (by rw[Z];omega)) k 1 (by show k<(y.j2 k).nc;rw[Z];omega)
theorem GN.gather {y:iM} (h:GN y):GN y.gather:=by
 unfold iM.gather;have Y:=Ik h y.nc (Nat.le_refl _);obtain⟨e1,V,e3,Z⟩:=nY (y.j2 y.nc) y.n;refine Y.alike V (λc hc=>⟨by rw[Z],by rw[Z],λhf d hd=>by rw[Z];exact Y.off c d hc hd hf⟩) (λi p=> ?_);rw[(wJ (y.j2 y.nc) i y.n).1];split<;>exact⟨rfl,rfl⟩
theorem GN.jB {y:iM} (h:GN y)(i:Nat)(r:iN)(Z:∀c d,c<y.nc->d<2->((y.C c).e d).1=i->pj (y.C c).iQ ((y.R i).P ((y.C c).e d).2)->pj (y.C c).iQ (r.P ((y.C c).e d).2)):GN (y.jB i r):=by
 refine⟨λc d hc hd=> ?_,h.off⟩;show pj (y.C c).iQ ((jU y.R i r ((y.C c).e d).1).P ((y.C c).e d).2);by_cases e:((y.C c).e d).1=i;{rw[e,iE];exact Z c d hc hd e (by have:=h.ends c d hc hd;rw[e]at this;exact this)};{rw[iC _ _ e];exact h.ends c d hc hd}
theorem GN.jb {y:iM} (h:GN y)(Q:Ends y)(pU:∀i p,i<y.n->p<3->(∀c d,c<y.nc->d<2->(y.C c).e d≠(i,p))->Idle ((y.R i).P p))(i:Nat)(hi:i<y.n):GN (y.jB i (y.R i).tick):=by
 classical
 have x5:(y.R i).n=3:=(Q.rn i).resolve_right dZ;obtain⟨U,E⟩:∃U:Nat->Bool,∀c d,c<y.nc->d<2->((y.C c).e d).1=i->U ((y.C c).e d).2=(y.C c).iQ:=by
  refine⟨λp=>if h:∃c d,c<y.nc/\d<2/\(y.C c).e d=(i,p)then(y.C h.choose).iQ else false,λc d hc hd Z=> ?_⟩;have hex:∃c' d',c'<y.nc/\d'<2/\(y.C c').e d'=(i,((y.C c).e d).2):=⟨c,d,hc,hd,by rw[<-Z]⟩
  show(if h:∃c' d',c'<y.nc/\d'<2/\(y.C c').e d'=(i,((y.C c).e d).2)then(y.C h.choose).iQ else false)=_;rw[dif_pos hex];obtain⟨d',jX,kg,j⟩:=hex.choose_spec;have:=(Q.ds _ _ _ _ jX kg hc hd (j.trans (by rw[<-Z]))).1;rw[this]
 have hP:∀p,p<3->pj (U p) ((y.R i).P p) \/ ∀c d,c<y.nc->d<2->(y.C c).e d≠(i,p):=λp _=>by
  by_cases hex:∃c d,c<y.nc/\d<2/\(y.C c).e d=(i,p)
  {obtain⟨c,d,hc,hd,Z⟩:=hex;refine .inl ?_;have Y:=h.ends c d hc hd;have H:=E c d hc hd (by rw[Z]);rw[Z]at Y H;rw[H];exact Y};{exact .inr λc d hc hd Z=>hex ⟨c,d,hc,hd,Z⟩}
 obtain⟨V,A⟩:∃V:Nat->Bool,V=λp=>if h:∃c d,c<y.nc/\d<2/\(y.C c).e d=(i,p)then U p else false:=⟨_,rfl⟩
 have M:∀p,p<3->pj (V p) ((y.R i).P p):=λp u=>by
  rw[A];show pj (if h:∃c d,c<y.nc/\d<2/\(y.C c).e d=(i,p)then U p else false) _;by_cases hex:∃c d,c<y.nc/\d<2/\(y.C c).e d=(i,p)
  {rw[dif_pos hex];refine(hP p u).resolve_right (λhn=> ?_);obtain⟨c,d,hc,hd,Z⟩:=hex;exact hn c d hc hd Z};{rw[dif_neg hex];have G:=pU i p hi u (λc d hc hd Z=>hex ⟨c,d,hc,hd,Z⟩);exact⟨by simpa using G.st,λe=>absurd (by rw[G.pe];rfl) e⟩}
 have ht:=(Fb (r:=y.R i) (U:=V) 3 M).1;refine h.jB i _ (λc d hc hd Z _=> ?_);have J:=Q.p3 c d hc hd;have Y:=ht ((y.C c).e d).2 J;have hex:∃c' d',c'<y.nc/\d'<2/\(y.C c').e d'=(i,((y.C c).e d).2):=⟨c,d,hc,hd,by rw[<-Z]⟩
 have hv:V ((y.C c).e d).2=(y.C c).iQ:=by
  rw[A];show(if h:∃c' d',c'<y.nc/\d'<2/\(y.C c').e d'=(i,((y.C c).e d).2)then U ((y.C c).e d).2 else false)=_;rw[dif_pos hex];exact E c d hc hd Z
 rw[hv]at Y;show pj _ (((y.R i).ja (y.R i).n).P _);rw[x5];exact Y
theorem GN.jq {y:iM} (h:GN y)(G:Ends y)(c d k:Nat)(hc:c<y.nc)(hd:d<2):GN (y.jq c d k):=by
 have H:GN (y.lq c {y.C c with on:=jU (y.C c).on d (((y.C c).on d).drop k)}):=by
  refine h.alike rfl (λx hx=> ?_) (λi p=>kh.refl _ _);show(if x=c then _ else y.C x).e=_/\(if x=c then _ else y.C x).iQ=_/\(_->∀d',d'<2->(if x=c then _ else y.C x).on d'=[])
  by_cases e:x=c
  ·rw[ai e];subst e;refine⟨rfl,rfl,λhf d' Z=> ?_⟩;show jU (y.C x).on d _ d'=[]
   by_cases Q:d'=d;{subst Q;rw[iE,h.off x d' hx Z hf];simp};{rw[iC _ _ Q];exact h.off x d' hx Z hf}
  ·rw[af e];exact⟨rfl,rfl,λhf d' Z=>h.off x d' hx Z hf⟩
 have M:∀x,((y.lq c {y.C c with on:=jU (y.C c).on d (((y.C c).on d).drop k)}).C x).e=(y.C x).e/\((y.lq c {y.C c with on:=jU (y.C c).on d (((y.C c).on d).drop k)}).C x).iQ=(y.C x).iQ:=λx=>by
  show(if x=c then _ else y.C x).e=_/\(if x=c then _ else y.C x).iQ=_;by_cases e:x=c;{rw[ai e];subst e;exact⟨rfl,rfl⟩};{rw[af e];exact⟨rfl,rfl⟩}
 refine H.jB _ _ (λx d' hx Z J U=> ?_);rw[(M x).1]at J U⊢;rw[(M x).2]at U⊢;have A:x<y.nc:=hx;have Y:pj (y.C x).iQ ((y.R ((y.C c).e (1-d)).1).P ((y.C x).e d').2):=U;by_cases V:(y.C c).iQ=true
 ·have E:Ov ((y.R ((y.C c).e (1-d)).1).P ((y.C c).e (1-d)).2):=by
   have:=h.ends c (1-d) hc dZ;rw[V]at this;exact pj.up.1 this
  obtain⟨a,b⟩:=Sx ((y.C c).e (1-d)).2 (((y.C c).on d).take k) E;by_cases e:((y.C x).e d').2=((y.C c).e (1-d)).2;{have:=(G.ds x d' c (1-d) A Z hc dZ (by rw[cy];exact⟨J,e⟩)).1;rw[e,this,V];exact pj.up.2 a};{exact Y.congr (b _ e).1 (b _ e).2}
 ·have hf:(y.C c).iQ=false:=by simpa using V
  rw[h.off c d hc hd hf];have:=Wl (y.R ((y.C c).e (1-d)).1) ((y.C c).e (1-d)).2 ((y.C x).e d').2;rw[List.take_nil];exact Y.congr this.1 this.2
theorem GN.jZ {y:iM} (h:GN y)(hE:Ends y)(c:Nat)(up:Bool)(hc:c<y.nc)(hu:(y.C c).iQ= !up):GN (y.jZ c up):=by
 obtain⟨Z,J⟩:=gg ((y.C c).e 0);obtain⟨Y,A⟩:=gg ((y.C c).e 1);have jt:Z≠Y:=λe=>by
  have:=(hE.ds c 0 c 1 hc dZ hc dZ (by rw[J,A,e])).2;omega
 have h0:=h.ends c 0 hc dZ;have h1:=h.ends c 1 hc dZ;rw[J,hu]at h0;rw[A,hu]at h1;obtain⟨j,_,b0⟩:=xC Z.2 h0;obtain⟨V,u⟩:∃V:qC,V={y.C c with iQ:=up,on:=λ_=>[] }:=⟨_,rfl⟩
 have M:V.e=(y.C c).e:=by rw[u]
 have cbi:V.iQ=up:=by rw[u]
 have cbo:∀d,V.on d=[] :=λd=>by rw[u]
 have hf:∀(z:iM) (d:Nat) (e:Nat×Nat),(z.C c).e d=e->z.mU c d up=z.jB e.1 ((z.R e.1).iH e.2 up).1:=by
  intro z d e he;unfold iM.mU;rw[he]
 have H:(y.lq c V).C c=V:=iE _ _ _;have hp:y.jZ c up=((y.lq c V).jB Z.1 ((y.R Z.1).iH Z.2 up).1).jB Y.1 ((jU y.R Z.1 ((y.R Z.1).iH Z.2 up).1 Y.1).iH Y.2 up).1:=by
  unfold iM.jZ;rw[<-u,hf (y.lq c V) 0 Z (by rw[H,M,J]),hf _ 1 Y (by show((y.lq c V).C c).e 1=Y;rw[H,M,A])];rfl
 obtain⟨r1,k8⟩:=gg (jU y.R Z.1 ((y.R Z.1).iH Z.2 up).1 Y.1);have Q:∀p,(Y.1,p)≠Z->kh (y.R Y.1) r1 p:=λp oS=>by
  rw[<-k8];by_cases e:Y.1=Z.1;{rw[e,iE];exact b0 p (λU=>oS (by rw[cy];exact⟨e,U⟩))};{rw[iC _ _ e];exact kh.refl _ _}
 have adC:pj (!up) (r1.P Y.2):=h1.congr (Q Y.2 (λe=>jt e.symm)).1 (Q Y.2 (λe=>jt e.symm)).2;obtain⟨a1,_,b1⟩:=xC Y.2 adC;rw[hp,k8];have ag5:∀i p,pj up ((jU (jU y.R Z.1 ((y.R Z.1).iH Z.2 up).1) Y.1 (r1.iH Y.2 up).1 i).P p) \/((i,p)≠Z/\(i,p)≠Y):=λi p=>by
  by_cases x1:(i,p)=Y;{left;rw[<-x1]at a1⊢;rw[iE];exact a1}
  ·by_cases x0:(i,p)=Z
   ·left;by_cases e:i=Y.1
    ·rw[e,iE];have E:p≠Y.2:=λU=>x1 (by rw[cy];exact⟨e,U⟩);have hr:r1.P p=((y.R Z.1).iH Z.2 up).1.P Z.2:=by
      rw[<-k8,<-e,<-x0,iE]
     exact(j.congr (by rw[hr]) (by rw[hr]):pj up (r1.P p)).congr (b1 p E).1 (b1 p E).2
    ·rw[iC _ _ e,<-x0,iE];rw[<-x0]at j;exact j
   ·exact .inr ⟨x0,x1⟩
 have kr:∀i p,(i,p)≠Z->(i,p)≠Y->kh (y.R i) (jU (jU y.R Z.1 ((y.R Z.1).iH Z.2 up).1) Y.1 (r1.iH Y.2 up).1 i) p:=λi p x0 x1=>by
  by_cases e:i=Y.1;{subst e;rw[iE];exact(Q p x0).trans (b1 p (λU=>x1 (by rw[cy];exact⟨rfl,U⟩)))};{rw[iC _ _ e];by_cases e':i=Z.1;{subst e';rw[iE];exact b0 p (λU=>x0 (by rw[cy];exact⟨rfl,U⟩))};{rw[iC _ _ e'];exact kh.refl _ _}}
 refine⟨λx d hx hd=> ?_,λx d hx hd hf=> ?_⟩
 ·show pj ((if x=c then V else y.C x):qC).iQ ((jU (jU y.R Z.1 ((y.R Z.1).iH Z.2 up).1) Y.1 (r1.iH Y.2 up).1 (((if x=c then V else y.C x):qC).e d).1).P (((if x=c then V else y.C x):qC).e d).2);have vE:x<y.nc:=hx;by_cases e:x=c
  ·rw[ai e,M,cbi];refine(ag5 _ _).resolve_right (λhn=> ?_);have:d=0 \/d=1:=dZ;rcases this with rfl|rfl
   {exact hn.1 J};{exact hn.2 A}
  ·rw[af e];have n0:(y.C x).e d≠Z:=λU=>e (hE.ds x d c 0 vE hd hc dZ (by rw[J];exact U)).1;have n1:(y.C x).e d≠Y:=λU=>e (hE.ds x d c 1 vE hd hc dZ (by rw[A];exact U)).1;have:=kr ((y.C x).e d).1 ((y.C x).e d).2 n0 n1;exact(h.ends x d vE hd).congr this.1 this.2
 ·have G:((if x=c then V else y.C x):qC).iQ=false:=hf;show((if x=c then V else y.C x):qC).on d=[]
  by_cases e:x=c;{rw[ai e];exact cbo d};{rw[af e]at G⊢;exact h.off x d hx hd G}
theorem Ends.jZ {y:iM} (h:Ends y)(c:Nat)(up:Bool):Ends (y.jZ c up):=by
 obtain⟨g1,U,g3,g4,Y⟩:=pD y c up;refine⟨λa d a' d' Z hd ha' M e=> ?_,λa d Z hd=> ?_,λi=> ?_,λa d Z hd=> ?_⟩;{rw[(Y a).1,(Y a').1]at e;rw[U]at Z ha';exact h.ds a d a' d' Z hd ha' M e};{rw[(Y a).1];rw[U]at Z;exact h.p3 a d Z hd}
 ·have Q:∀(x:iM) (d:Nat),(∀i,(x.R i).n=3 \/x.n<=i)->∀i,((x.mU c d up).R i).n=3 \/(x.mU c d up).n<=i:=λx d hx i=>by
   show(jU x.R ((x.C c).e d).1 _ i).n=3 \/x.n<=i;by_cases e:i=((x.C c).e d).1;{rw[e,iE,(jG.iH _ _ up).n];exact hx _};{rw[iC _ _ e];exact hx i}
  unfold iM.jZ;obtain⟨V,J⟩:∃V:qC,V={y.C c with iQ:=up,on:=λ_=>[] }:=⟨_,rfl⟩
  rw[<-J];exact Q _ 1 (Q (y.lq c V) 0 h.rn) i
 ·rw[(Y a).1,g1];rw[U]at Z;exact h.en a d Z hd
theorem GN.jL(up:Bool):∀(l:List Nat) {y:iM},GN y->Ends y->l.Nodup->(∀c∈l,c<y.nc/\(y.C c).iQ= !up)->GN (y.jL up l)/\Ends (y.jL up l)/\∀x,((y.jL up l).C x).iQ=if x∈l then up else(y.C x).iQ
 |[],y,h,hE,_,_=>⟨h,hE,λx=>by simp[iM.jL]⟩
 |c::l,y,h,hE,xD,hl=>by
  obtain⟨g1,Q,g3,g4,U⟩:=pD y c up;have hc:=hl c gU;have V:=bq.1 xD;obtain⟨a,b,d⟩:=GN.jL up l (h.jZ hE c up hc.1 hc.2) (hE.jZ c up) V.2 (λx hx=>by
   have M:x≠c:=λe=>V.1 (e▸hx);rw[Q,(U x).2,af M];exact hl x (by simp[hx]))
  refine⟨a,b,λx=> ?_⟩;show(((y.jZ c up).jL up l).C x).iQ=_;rw[d x,(U x).2];by_cases Z:x∈l;{rw[ai Z,ai (by simp[Z])]};{by_cases Y:x=c;{rw[af Z,ai Y,ai (by simp[Y])]};{rw[af Z,af Y,af (by simp[Z,Y])]}}
theorem GN.restart {y:iM} {D:Nat} (h:GN y)(iO:j3 y D 0)(i:Int):GN (y.restart i).1/\∀x,x<y.nc->((y.restart i).1.C x).iQ=(y.C x).iQ:=by
 unfold iM.restart;split;{exact⟨h,λ_ _=>rfl⟩}
 ·rename_i hi
  obtain⟨k,hk⟩:=gg ((i-1).toNat);rw[hk];obtain⟨l,hl⟩:=gg (y.lA k);rw[hl];have V:∀c,c∈l↔c<y.nc/\(y.C c).iQ=true/\(((y.C c).e 0).1=k \/((y.C c).e 1).1=k):=λc=>by
   rw[<-hl];unfold iM.lA;simp[gY]
  have H:l.Nodup:=by
   rw[<-hl];exact du dm bY
  obtain⟨a,b,d⟩:=GN.jL false l h iO.oJ H (λc hc=>⟨((V c).1 hc).1,((V c).1 hc).2.1⟩);obtain⟨s1,U,s3,s4,J⟩:=nj false l y;obtain⟨Z,G⟩:=gg (y.jL false l);rw[G]at a b d s1 U s3 s4 J⊢;have E:GN (Z.jB k (jO i 3 (y.ms k))):=by
   refine a.jB k _ (λc e hc he heq _=> ?_);have jX:c<y.nc:=by rw[U]at hc;exact hc
   have hf:(Z.C c).iQ=false:=by
    rw[d c];by_cases Y:c∈l;{rw[ai Y]}
    ·rw[af Y];by_cases M:(y.C c).iQ=true
     ·exfalso;rw[J c]at heq;refine Y ((V c).2 ⟨jX,M,?_⟩);have:e=0 \/e=1:=dZ;rcases this with rfl|rfl
      {exact .inl heq};{exact .inr heq}
     ·simpa using M
   rw[hf];have Q:=qM i (y.ms k) ((Z.C c).e e).2;exact⟨by simpa using Q.st,λe=>absurd (by rw[Q.pe];rfl) e⟩
  have b2:Ends (Z.jB k (jO i 3 (y.ms k))):=⟨b.ds,b.p3,λj=>by
   show(jU Z.R k _ j).n=3 \/Z.n<=j;by_cases e:j=k;{rw[e,iE];exact .inl rfl}
   ·rw[iC _ _ e];exact b.rn j,b.en⟩
  obtain⟨A,_,u⟩:=GN.jL true l E b2 H (λc hc=>⟨by show c<Z.nc;rw[U];exact((V c).1 hc).1,by show(Z.C c).iQ=_;rw[d c,ai hc];rfl⟩);refine⟨A.gather,λx hx=> ?_⟩;rw[((lQ _).2.2.2 x).2,u x];show(if x∈l then true else(Z.C x).iQ)=_;rw[d x];by_cases Y:x∈l;{rw[ai Y,((V x).1 Y).2.1]};{rw[af Y,af Y]}
theorem GN.iH {y:iM} {D:Nat} (h:GN y)(Y:j3 y D 0)(i:Int)(up:Bool):GN (y.iH i up).1/\∀x,((y.iH i up).1.C x).iQ=if(x:Int)=i/\x<y.nc then up else(y.C x).iQ:=by
 unfold iM.iH;split
 ·rename_i hi
  exact⟨h,λx=>by rw[af dZ]⟩
 ·rename_i hi
  split
  ·rename_i Z
   refine⟨h,λx=> ?_⟩;split
   ·rename_i hx
    have:x=i.toNat:=dZ;rw[this,Z]
   ·rfl
  ·rename_i Z
   refine⟨(h.jZ Y.oJ i.toNat up dZ (by cases hv:(y.C i.toNat).iQ<;>cases up<;>simp_all)).gather,λx=> ?_⟩;rw[((lQ _).2.2.2 x).2,((pD y i.toNat up).2.2.2.2 x).2];by_cases e:x=i.toNat;{rw[ai e,ai dZ]};{rw[af e,af dZ]}
theorem GN.tick {y:iM} {D:Nat} (h:GN y)(Z:j3 y D 0)(i:Int):GN (y.tick i).1/\∀x,((y.tick i).1.C x).iQ=(y.C x).iQ:=by
 unfold iM.tick;split;{exact⟨h,λ_=>rfl⟩};{exact⟨(h.jb Z.oJ Z.idle (i-1).toNat dZ).gather,λx=>((lQ _).2.2.2 x).2⟩}
theorem Fc(y:iM)(c d k x:Nat):((y.jq c d k).C x).iQ=(y.C x).iQ:=by
 show((if x=c then _ else y.C x):qC).iQ=_;by_cases e:x=c;{rw[ai e];subst e;rfl};{rw[af e]}
theorem GN.deliver {y:iM} {D:Nat} (h:GN y)(Z:j3 y D 0)(i d m:Int):GN (y.deliver i d m).1/\∀x,((y.deliver i d m).1.C x).iQ=(y.C x).iQ:=by
 unfold iM.deliver;split;{exact⟨h,λ_=>rfl⟩};{exact⟨(h.jq Z.oJ _ _ _ dZ dZ).gather,λx=>by rw[((lQ _).2.2.2 x).2,Fc]⟩}
theorem GN.send {y:iM} (h:GN y)(f t:Int)(tx:List UInt8):GN (y.send f t tx).1/\∀x,((y.send f t tx).1.C x).iQ=(y.C x).iQ:=by
 unfold iM.send;split;{exact⟨h,λ_=>rfl⟩}
 ·split;{exact⟨h,λ_=>rfl⟩}
  ·refine⟨GN.gather (h.jB _ _ (λc d hc hd he Z=> ?_)),λx=>((lQ _).2.2.2 x).2⟩;have:∀(r:iN) (p:Nat),kh r (kf r t tx).1 p:=λr p=>by
    unfold kf;split;{exact kh.refl r p};{exact kh.send r (t,8,tx) p}
   exact Z.congr (this _ _).1 (this _ _).2
theorem GN.ja {y:iM} {D:Nat} (h:GN y)(Y:j3 y D 0)(Z:D<=800000000):∀q,q<=6->GN (y.ja q)
 |0,_=>h
 |q+1,hq=>((GN.ja h Y Z q dZ).tick (Y.ja Z q dZ) ((q:Int)+1)).1
theorem GN.jP {y:iM} {D:Nat} (h:GN y)(V:j3 y D 0)(Y:D<=890000000):∀q,q<=9->GN (y.jP q)
 |0,_=>h
 |q+1,hq=>by
  have Z:=V.jP Y q dZ;have U:=GN.jP h V Y q dZ;exact((U.deliver Z (q:Int) 0 2000).1.deliver (Z.deliver dZ (q:Int) 0 2000) (q:Int) 1 2000).1
theorem GN.turns {y:iM} {D:Nat} (h:GN y)(Z:j3 y D 0)(Y:D<=810000000):∀t,t<=12->GN (y.turns t)
 |0,_=>h
 |t+1,ht=>(GN.turns h Z Y t dZ).jP (Z.turns Y t dZ) dZ y.nc Z.c9
theorem GN.round {y:iM} {D:Nat} (h:GN y)(Z:j3 y D 0)(Y:D<=800000000):GN y.round:=
 (h.ja Z Y y.n Z.n6).turns (Z.ja Y y.n Z.n6) (by have:=Z.n6;omega) 12 (Nat.le_refl _)
def Bt(v:AV):Bool:=v.kind.toList==[112,108,117,103]
theorem GN.act {y:iM} (h:GN y)(Z:j3 y D 0)(U:D<=800000000)(v:AV):GN (rB y v)/\∀x,x<y.nc->((rB y v).C x).iQ=if Bt v=true/\(x:Int)=v.a then v.b==1 else(y.C x).iQ:=by
 unfold rB;by_cases k1:(v.kind.toList==[112,108,117,103])=true;{rw[ai k1];obtain⟨a,b⟩:=h.iH Z v.a (v.b==1);refine⟨a,λx hx=> ?_⟩;rw[b x];have Y:Bt v=true:=k1;by_cases e:(x:Int)=v.a;{rw[ai ⟨e,hx⟩,ai ⟨Y,e⟩]};{rw[af (λh=>e h.1),af (λh=>e h.2)]}}
 ·rw[af k1];have Y:∀x:Nat,¬(Bt v=true/\(x:Int)=v.a):=λx e=>k1 e.1;have Q:∀z:iM,(GN z/\∀x,x<y.nc->(z.C x).iQ=(y.C x).iQ)->GN z/\∀x,x<y.nc->(z.C x).iQ=if Bt v=true/\(x:Int)=v.a then v.b==1 else(y.C x).iQ:=λz V=>⟨V.1,λx hx=>by rw[af (Y x)];exact V.2 x hx⟩
  apply Q;split;{obtain⟨a,b⟩:=h.tick Z v.a;exact⟨a,λx _=>b x⟩};{split;{obtain⟨a,b⟩:=h.deliver Z v.a v.b v.c;exact⟨a,λx _=>b x⟩};{split;{exact h.restart Z v.a};{split;{obtain⟨a,b⟩:=h.send v.a v.b v.s.data.toList;exact⟨a,λx _=>b x⟩};{split;{exact⟨h.round Z U,λx _=>((kI y).2.2.2 x).2⟩};{exact⟨h,λ_ _=>rfl⟩}}}}}
theorem Fe(many:Nat)(L:List ot):GN (jM many L):=by
 refine⟨λc d _ _=> ?_,λc d _ _ _=>rfl⟩;have Z:=qM (((((jM many L).C c).e d).1:Int)+1) (pg L (((jM many L).C c).e d).1) (((jM many L).C c).e d).2;have Y:((jM many L).R (((jM many L).C c).e d).1).P (((jM many L).C c).e d).2=(jO (((((jM many L).C c).e d).1:Int)+1) 3 (pg L (((jM many L).C c).e d).1)).P (((jM many L).C c).e d).2:=rfl;rw[Y];exact⟨by rw[show((jM many L).C c).iQ=false from rfl,af ew];exact Z.st,λe=>absurd (by
  show((jO _ 3 _).P _).pe.who=0;rw[Z.pe];rfl) e⟩
def yf(p:List UInt8):Prop:=1<=p.length/\p.length<=60
def Frames(l:List UInt8)(ps:List (List UInt8)):Prop:=l=ps.flatMap Plain.lM/\∀p∈ps,yf p
def lH:kB:=([],false,false)
theorem Frames.nil:Frames [] [] :=⟨rfl,λ_ h=>by simp at h⟩
theorem Frames.snoc {l:List UInt8} (h:Frames l ps) {p:List UInt8} (V:yf p):Frames (l++Plain.lM p) (ps++ [p]):=by
 obtain⟨Z,Y⟩:=h;refine⟨by rw[Z];simp,λq U=> ?_⟩;rcases av.1 U with e|e
 {exact Y q e};{rw[ar.1 e];exact V}
theorem rC:∀(ps:List (List UInt8)),(∀p∈ps,yf p)->kx lH (ps.flatMap Plain.lM)=(ps,0,lH)
 |[],_=>rfl
 |p::ps,h=>by
  have e:(p::ps).flatMap Plain.lM=Plain.lM p++ps.flatMap Plain.lM:=gU;have Z:kx lH (Plain.lM p)=([p],0,lH):=ND p (h p gU).2;rw[e,ru,Z];simp only;rw[rC ps (λq Y=>h q (by simp[Y]))];rfl
structure nu(r r':iN):Prop where
 rd:∀p,(r'.P p).rd=(r.P p).rd
 out:∀p ps,Frames (r.P p).out ps->∃qs,Frames (r'.P p).out (ps++qs)
theorem nu.refl(r:iN):nu r r:=⟨λ_=>rfl,λ_ ps h=>⟨[],by simpa using h⟩⟩
theorem nu.trans {a b c:iN} (h:nu a b)(g:nu b c):nu a c:=by
 refine⟨λp=>(g.rd p).trans (h.rd p),λp ps V=> ?_⟩;obtain⟨q1,Z⟩:=h.out p ps V;obtain⟨q2,Y⟩:=g.out p _ Z;exact⟨q1++q2,by rw[<-aD];exact Y⟩
theorem nu.xQ {r r':iN} (h:r'.P=r.P):nu r r':=⟨λ_=>by rw[h],λ_ ps Z=>⟨[],by rw[h];simpa using Z⟩⟩
structure r9(p q:jv):Prop where
 rd:q.rd=p.rd
 out:∀ps,Frames p.out ps->∃qs,Frames q.out (ps++qs)
theorem r9.refl(p:jv):r9 p p:=⟨rfl,λps h=>⟨[],by simpa using h⟩⟩
theorem r9.trans {a b c:jv} (h:r9 a b)(g:r9 b c):r9 a c:=by
 refine⟨g.rd.trans h.rd,λps V=> ?_⟩;obtain⟨q1,Z⟩:=h.out ps V;obtain⟨q2,Y⟩:=g.out _ Z;exact⟨q1++q2,by rw[<-aD];exact Y⟩
theorem r9.put(p:jv)(c:UInt8)(s:List UInt8):r9 p (p.put c s):=by
 unfold jv.put;split;{exact r9.refl p}
 ·split
  ·rename_i h
   exact⟨rfl,λps Z=>⟨[c::s],Z.snoc ⟨gU,by simpa using h⟩⟩⟩
  ·exact r9.refl p
theorem r9.say:∀(l:List kN) (p:jv),r9 p (p.say l)
 |[],p=>r9.refl p
 |q::r,p=>by
  refine r9.trans ?_ (r9.say r _);split;{exact r9.put _ _ _};{exact r9.refl p}
theorem r9.kH:∀(l:List (Int×PS)) (p:jv),r9 p (p.kH l)
 |[],p=>r9.refl p
 |q::r,p=>(r9.put p 83 (rh q.1 q.2.1 q.2.2)).trans (r9.kH r _)
theorem r9.ag6(p:jv)(L:LS)(l:List kN):r9 p (({p with L:=L}:jv).say l):=by
 have h:r9 p ({p with L:=L}:jv):=⟨rfl,λps h=>⟨[],by simpa using h⟩⟩
 exact h.trans (r9.say l _)
theorem r9.tick(p:jv):r9 p p.tick:=r9.ag6 p _ _
theorem r9.packet(p:jv)(s:List UInt8):r9 p (p.packet s):=by
 unfold jv.packet;simp only;split;{exact r9.ag6 p _ _};{exact r9.refl p}
theorem nu.iU(r:iN)(i:Nat) {q:jv} (h:r9 (r.P i) q):nu r (r.iU i q):=by
 refine⟨λp=> ?_,λp ps Z=> ?_⟩;{show(k9 r.P i q p).rd=_;by_cases e:p=i;{subst e;rw[jy];exact h.rd};{rw[jr _ _ e]}};{show∃qs,Frames (k9 r.P i q p).out (ps++qs);by_cases e:p=i;{subst e;rw[jy];exact h.out ps Z};{rw[jr _ _ e];exact⟨[],by simpa using Z⟩}}
theorem nu.meet(r:iN)(i:Nat)(q:lD):nu r (r.meet i q):=by
 refine⟨λp=> ?_,λp ps Z=>⟨[],?_⟩⟩;{rw[(mV r i q).2.2.2];by_cases e:p=i;{subst e;rw[jy]};{rw[jr _ _ e]}};{rw[(mV r i q).2.2.2];by_cases e:p=i;{subst e;rw[jy];simpa using Z};{rw[jr _ _ e];simpa using Z}}
theorem nu.send(r:iN)(t:zb):nu r (r.send t):=by
 unfold iN.send;split;{exact nu.xQ rfl};{split;{exact nu.xQ rfl};{exact nu.iU _ _ (r9.put _ _ _)}}
theorem nu.state(r:iN)(i:Nat)(l:List UInt8):nu r (jj r i l):=by
 unfold jj;simp only;split;{exact nu.refl r};{split;{exact nu.xQ (oG _ _).2.2.2};{split;{exact⟨λp=>(nu.iU _ i (r9.put _ _ _)).rd p,λp ps Z=>(nu.iU _ i (r9.put _ _ _)).out p ps Z⟩};{exact nu.xQ rfl}}}
theorem nu.take(r:iN)(i:Nat)(c:UInt8)(s:List UInt8):nu r (r.take i c s):=by
 rw[lJ];have Z:nu r (j1 r i c s):=by
  unfold j1;split;{exact nu.iU _ _ (r9.packet _ _)};{exact nu.refl r}
 split;{exact Z.trans (nu.meet _ _ _)};{refine Z.trans ?_;unfold mB;split;{split;{exact nu.meet _ _ _};{exact nu.refl _}};{split;{exact nu.state _ _ _};{split;{unfold kC;simp only;split<;>exact nu.xQ rfl};{split;{unfold ry;split;{exact nu.send _ _};{exact nu.refl _}};{exact nu.refl _}}}}}
theorem nu.takes:∀(l:List (List UInt8)) (r:iN) (i:Nat),nu r (r.takes i l)
 |[],r,_=>nu.refl r
 |t::l,r,i=>by
  refine nu.trans ?_ (nu.takes l _ i);cases t with
  |nil=>exact nu.refl r
  |cons c s=>exact nu.take r i c s
theorem nu.iW(r:iN)(i:Nat):nu r (r.iW i):=by
 rw[k7];have Z:nu r (jb r i):=nu.iU _ _ (r9.tick _);split;{exact Z.trans (nu.meet _ _ _)};{refine Z.trans ((nu.meet _ i (iJ ((jb r i).P i).pe)).trans ?_);unfold mJ;simp only;refine nu.iU _ i ?_;split;{exact(r9.put _ _ _).trans (r9.kH _ _)};{exact r9.put _ _ _}}
theorem nu.ja(r:iN):∀q,nu r (r.ja q)
 |0=>nu.refl r
 |q+1=>(nu.ja r q).trans (nu.iW _ _)
theorem nu.kf(r:iN)(t:Int)(tx:List UInt8):nu r (kf r t tx).1:=by
 unfold Rt.kf;split;{exact nu.refl r};{exact nu.send r (t,8,tx)}
theorem Il(r:iN)(i:Nat)(l:List UInt8):((r.recv i l).P i).rd=(kx (r.P i).rd l).2.2/\(∀p,p≠i->((r.recv i l).P p).rd=(r.P p).rd)/\∀p ps,Frames (r.P p).out ps->∃qs,Frames ((r.recv i l).P p).out (ps++qs):=by
 unfold iN.recv;simp only;have h:=nu.takes (kx (r.P i).rd l).1 (r.iU i {r.P i with rd:=(kx (r.P i).rd l).2.2}) i;have Z:∀p,((r.iU i {r.P i with rd:=(kx (r.P i).rd l).2.2}).P p).out=(r.P p).out:=λp=>by
  show(k9 r.P i _ p).out=_;by_cases e:p=i;{subst e;rw[jy]};{rw[jr _ _ e]}
 refine⟨?_,λp Y=> ?_,λp ps hf=>h.out p ps (by rw[Z];exact hf)⟩;{rw[h.rd];show(k9 r.P i _ i).rd=_;rw[jy]};{rw[h.rd];show(k9 r.P i _ p).rd=_;rw[jr _ _ Y]}
theorem Io {r:iN} {up:Bool} (i:Nat)(h:pj (!up) (r.P i)):(((r.iH i up).1.P i).rd=lH)/\(∀p,p≠i->((r.iH i up).1.P p).rd=(r.P p).rd)/\∀p ps,Frames (r.P p).out ps->∃qs,Frames ((r.iH i up).1.P p).out (ps++qs):=by
 have U:(kY (r.P i).L (if up=true then 0 else 1)).2.2=0:=by
  cases up;{exact(tH (pj.up.1 h).1).1};{exact(Ee (by simpa using h.st)).1}
 have e:(r.P i).iH up=(({r.P i with L:=(kY (r.P i).L (if up=true then 0 else 1)).1,rd:=([],false,false)}:jv).say (kY (r.P i).L (if up=true then 0 else 1)).2.1,0):=by
  unfold jv.iH;simp only;rw[af (by simp[U])]
 unfold iN.iH;rw[e];simp only;rw[af gU];obtain⟨x,hx⟩:=gg (({r.P i with L:=(kY (r.P i).L (if up=true then 0 else 1)).1,rd:=([],false,false)}:jv).say (kY (r.P i).L (if up=true then 0 else 1)).2.1);have Y:r9 {r.P i with L:=(kY (r.P i).L (if up=true then 0 else 1)).1,rd:=([],false,false)} x:=by rw[<-hx];exact r9.say _ _
 rw[hx];have Z:=nu.meet (r.iU i x) i nobody;refine⟨?_,λp J=> ?_,λp ps hf=> ?_⟩;{rw[Z.rd];show(k9 r.P i x i).rd=_;rw[jy,Y.rd];rfl};{rw[Z.rd];show(k9 r.P i x p).rd=_;rw[jr _ _ J]};{by_cases V:p=i;{subst V;obtain⟨q1,Q⟩:=Y.out ps hf;obtain⟨q2,M⟩:=Z.out p (ps++q1) (by show Frames (k9 r.P p x p).out _;rw[jy];exact Q);exact⟨q1++q2,by rw[<-aD];exact M⟩};{exact Z.out p ps (by show Frames (k9 r.P i x p).out _;rw[jr _ _ V];exact hf)}}
def jW(y:iM)(c d:Nat):kB:=((y.R ((y.C c).e (1-d)).1).P ((y.C c).e (1-d)).2).rd
structure jA(y:iM):Prop where
 q:∀c d,c<y.nc->d<2->(kx (jW y c d) ((y.C c).on d)).2=(0,lH)/\∀p∈(kx (jW y c d) ((y.C c).on d)).1,yf p
 o:∀i p,∃ps,Frames ((y.R i).P p).out ps
theorem jA.kZ {y:iM} (h:jA y)(c d:Nat)(_hc:c<y.nc):jA (y.kZ c d):=by
 have Q:∀i p,(((y.kZ c d).R i).P p).rd=((y.R i).P p).rd:=λi p=>by
  rw[Bl];split<;>rfl
 have E:∀x,((y.kZ c d).C x).e=(y.C x).e:=λx=>((mW y c d).2.2.2.2 x).1;have u:∀x e,jW (y.kZ c d) x e=jW y x e:=λx e=>by
  unfold jW;rw[E,Q]
 refine⟨λx e hx H=> ?_,λi p=> ?_⟩
 ·have j:x<y.nc:=hx;rw[u];have G:((y.kZ c d).C x).on e=(y.C x).on e \/(x=c/\e=d/\((y.kZ c d).C x).on e=(y.C x).on e++((y.R ((y.C c).e d).1).P ((y.C c).e d).2).out):=by
   show((if x=c then(y.C c).put d _ else y.C x):qC).on e=_ \/(x=c/\e=d/\((if x=c then(y.C c).put d _ else y.C x):qC).on e=_);by_cases ex:x=c;{rw[ai ex];subst ex;unfold qC.put;split;{show jU (y.C x).on d _ e=_ \/(x=x/\e=d/\jU (y.C x).on d _ e=_);by_cases ed:e=d;{subst ed;rw[iE];exact .inr ⟨rfl,rfl,rfl⟩};{rw[iC _ _ ed];exact .inl rfl}};{exact .inl rfl}};{rw[af ex];exact .inl rfl}
  obtain⟨M,J⟩:=h.q x e j H;rcases G with V|⟨_,_,V⟩
  ·rw[V];exact⟨M,J⟩
  ·obtain⟨ps,Y,Z⟩:=h.o ((y.C c).e d).1 ((y.C c).e d).2;rw[V,ru,M,Y,rC ps Z];refine⟨rfl,λp A=> ?_⟩;rcases av.1 A with U|U
   {exact J p U};{exact Z p U}
 ·rw[Bl];split;{exact⟨[],Frames.nil⟩};{exact h.o i p}
theorem jA.j2 {y:iM} (h:jA y):∀k,k<=y.nc->jA (y.j2 k)
 |0,_=>h
 |k+1,hk=>by
  have Y:=jA.j2 h k dZ;have Z:(y.j2 k).nc=y.nc:=(j4 y k).2.1;exact(Y.kZ k 0 (by rw[Z];omega)).kZ k 1 (by show k<(y.j2 k).nc;rw[Z];omega)
theorem jA.gather {y:iM} (h:jA y):jA y.gather:=by
 unfold iM.gather;have Y:=h.j2 y.nc (Nat.le_refl _);obtain⟨e1,U,e3,Z⟩:=nY (y.j2 y.nc) y.n;have V:∀i,(((y.j2 y.nc).m7 y.n).R i).P=((y.j2 y.nc).R i).P:=λi=>by
  rw[(wJ (y.j2 y.nc) i y.n).1];split<;>rfl
 refine⟨λc d hc hd=> ?_,λi p=>by rw[V];exact Y.o i p⟩;have hf:jW ((y.j2 y.nc).m7 y.n) c d=jW (y.j2 y.nc) c d:=by
  unfold jW;rw[Z,V]
 rw[hf,Z];exact Y.q c d (by rw[U]at hc;exact hc) hd
theorem jA.jB {y:iM} (h:jA y)(i:Nat) {r:iN} (Z:nu (y.R i) r):jA (y.jB i r):=by
 refine⟨λc d hc hd=> ?_,λj p=> ?_⟩
 ·have hf:jW (y.jB i r) c d=jW y c d:=by
   show((jU y.R i r ((y.C c).e (1-d)).1).P ((y.C c).e (1-d)).2).rd=((y.R ((y.C c).e (1-d)).1).P ((y.C c).e (1-d)).2).rd;by_cases e:((y.C c).e (1-d)).1=i;{rw[e,iE];exact Z.rd _};{rw[iC _ _ e]}
  rw[hf];exact h.q c d hc hd
 ·show∃ps,Frames ((jU y.R i r j).P p).out ps;by_cases e:j=i;{subst e;rw[iE];obtain⟨ps,V⟩:=h.o j p;obtain⟨qs,Y⟩:=Z.out p ps V;exact⟨_,Y⟩};{rw[iC _ _ e];exact h.o j p}
theorem jA.jq {y:iM} (h:jA y)(hE:Ends y)(c d k:Nat)(hc:c<y.nc)(hd:d<2):jA (y.jq c d k):=by
 obtain⟨i,hi⟩:=gg (((y.C c).e (1-d)).1);obtain⟨p,M⟩:=gg (((y.C c).e (1-d)).2);obtain⟨r1,r2,r3⟩:=Il (y.R i) p (((y.C c).on d).take k);have Z:∀x,((y.jq c d k).C x).e=(y.C x).e:=λx=>((rz y c d k).2.2.2 x).1;have Q:∀j,(y.jq c d k).R j=jU y.R i ((y.R i).recv p (((y.C c).on d).take k)) j:=λj=>by
  unfold iM.jq;rw[hi,M];rfl
 have A:∀x e,((y.jq c d k).C x).on e=if x=c/\e=d then((y.C c).on d).drop k else(y.C x).on e:=λx e=>by
  show((if x=c then {y.C c with on:=jU (y.C c).on d (((y.C c).on d).drop k)}else y.C x):qC).on e=_;by_cases ex:x=c;{rw[ai ex];show jU (y.C c).on d _ e=_;by_cases ed:e=d;{rw[ed,iE,ai ⟨ex,rfl⟩]};{rw[iC _ _ ed,af (λh=>ed h.2),ex]}};{rw[af ex,af (λh=>ex h.1)]}
 refine⟨λx e hx he=> ?_,λj s=> ?_⟩
 ·have E:x<y.nc:=hx;rw[A];by_cases Y:x=c/\e=d
  ·obtain⟨rfl,rfl⟩:=Y;rw[ai ⟨rfl,rfl⟩];have hf:jW (y.jq x e k) x e=(kx (jW y x e) (((y.C x).on e).take k)).2.2:=by
    unfold jW;rw[Z,Q,hi,M,iE];exact r1
   obtain⟨U,G⟩:=h.q x e hc hd;have H:=ru (jW y x e) (((y.C x).on e).take k) (((y.C x).on e).drop k);rw[cL]at H;rw[H]at U G;rw[hf];refine⟨?_,λq J=>G q (av.2 (.inr J))⟩;have ha:=congrArg gZ U;have hb:=congrArg ia U;simp only at ha hb;exact aV (by show _=0;omega) hb
  ·rw[af Y];have jt:(y.C x).e (1-e)≠(i,p):=λu=>Y (by
    have:=hE.ds x (1-e) c (1-d) E dZ hc dZ (by rw[u,<-hi,<-M]);exact⟨this.1,dZ⟩)
   have hf:jW (y.jq c d k) x e=jW y x e:=by
    unfold jW;rw[Z,Q];by_cases V:((y.C x).e (1-e)).1=i;{rw[V,iE];exact r2 _ (λe4=>jt (by rw[cy];exact⟨V,e4⟩))};{rw[iC _ _ V]}
   rw[hf];exact h.q x e E he
 ·rw[Q];by_cases e:j=i;{subst e;rw[iE];obtain⟨ps,uF⟩:=h.o j s;obtain⟨qs,J⟩:=r3 s ps uF;exact⟨_,J⟩};{rw[iC _ _ e];exact h.o j s}
theorem jA.jZ {y:iM} (h:jA y)(hG:GN y)(hE:Ends y)(c:Nat)(up:Bool)(hc:c<y.nc)(hu:(y.C c).iQ= !up):jA (y.jZ c up):=by
 obtain⟨Z,J⟩:=gg ((y.C c).e 0);obtain⟨Y,A⟩:=gg ((y.C c).e 1);have jt:Z≠Y:=λe=>by
  have:=(hE.ds c 0 c 1 hc dZ hc dZ (by rw[J,A,e])).2;omega
 have h0:=hG.ends c 0 hc dZ;have h1:=hG.ends c 1 hc dZ;rw[J,hu]at h0;rw[A,hu]at h1;obtain⟨V,uM⟩:∃V:qC,V={y.C c with iQ:=up,on:=λ_=>[] }:=⟨_,rfl⟩
 have U:V.e=(y.C c).e:=by rw[uM]
 have cbo:∀d,V.on d=[] :=λd=>by rw[uM]
 have hf:∀(z:iM) (d:Nat) (e:Nat×Nat),(z.C c).e d=e->z.mU c d up=z.jB e.1 ((z.R e.1).iH e.2 up).1:=by
  intro z d e he;unfold iM.mU;rw[he]
 have G:(y.lq c V).C c=V:=iE _ _ _;have hp:y.jZ c up=((y.lq c V).jB Z.1 ((y.R Z.1).iH Z.2 up).1).jB Y.1 ((jU y.R Z.1 ((y.R Z.1).iH Z.2 up).1 Y.1).iH Y.2 up).1:=by
  unfold iM.jZ;rw[<-uM,hf (y.lq c V) 0 Z (by rw[G,U,J]),hf _ 1 Y (by show((y.lq c V).C c).e 1=Y;rw[G,U,A])];rfl
 obtain⟨r1,k8⟩:=gg (jU y.R Z.1 ((y.R Z.1).iH Z.2 up).1 Y.1);obtain⟨a1,a2,a3⟩:=Io Z.2 h0;obtain⟨_,_,b0⟩:=xC Z.2 h0;have adC:pj (!up) (r1.P Y.2):=by
  rw[<-k8];by_cases e:Y.1=Z.1;{rw[e,iE];have E:Y.2≠Z.2:=λH=>jt (by rw[cy];exact⟨e.symm,H.symm⟩);rw[e]at h1;exact h1.congr (b0 _ E).1 (b0 _ E).2};{rw[iC _ _ e];exact h1}
 obtain⟨c1,c2,c3⟩:=Io Y.2 adC;rw[hp,k8];obtain⟨R2,u⟩:=gg (jU (jU y.R Z.1 ((y.R Z.1).iH Z.2 up).1) Y.1 (r1.iH Y.2 up).1);have hrd:∀i p,((R2 i).P p).rd=if(i,p)=Z \/(i,p)=Y then lH else((y.R i).P p).rd:=λi p=>by
  rw[<-u];by_cases x1:i=Y.1;{rw[x1,iE];by_cases y1:p=Y.2;{rw[y1,ai (.inr rfl)];exact c1};{rw[c2 p y1,<-k8];by_cases x0:Y.1=Z.1;{rw[x0,iE];by_cases M:p=Z.2;{rw[M,ai (.inl rfl)];exact a1};{rw[a2 p M,af];rintro(e|e);{exact M (congrArg ia e)};{exact y1 (congrArg ia e)}}};{rw[iC _ _ x0,af];rintro(e|e);{exact x0 (by have Q:=congrArg gZ e;exact Q)};{exact y1 (congrArg ia e)}}}};{rw[iC _ _ x1];by_cases x0:i=Z.1;{rw[x0,iE];by_cases M:p=Z.2;{rw[M,ai (.inl rfl)];exact a1};{rw[a2 p M,af];rintro(e|e);{exact M (congrArg ia e)};{exact x1 (x0.trans (by have Q:=congrArg gZ e;exact Q))}}};{rw[iC _ _ x0,af];rintro(e|e);{exact x0 (by have Q:=congrArg gZ e;exact Q)};{exact x1 (by have Q:=congrArg gZ e;exact Q)}}}
 have ME:∀i p,∃ps,Frames ((R2 i).P p).out ps:=λi p=>by
  rw[<-u];have hA:∀j s,∃ps,Frames ((jU y.R Z.1 ((y.R Z.1).iH Z.2 up).1 j).P s).out ps:=λj s=>by
   by_cases x0:j=Z.1;{rw[x0,iE];obtain⟨ps,uF⟩:=h.o Z.1 s;obtain⟨qs,hq⟩:=a3 s ps uF;exact⟨_,hq⟩};{rw[iC _ _ x0];exact h.o j s}
  by_cases x1:i=Y.1;{rw[x1,iE];obtain⟨ps,uF⟩:=hA Y.1 p;rw[k8]at uF;obtain⟨qs,hq⟩:=c3 p ps uF;exact⟨_,hq⟩};{rw[iC _ _ x1];exact hA i p}
 refine⟨λx d hx hd=> ?_,λi p=> ?_⟩
 ·have vE:x<y.nc:=hx;show(kx (((jU (jU y.R Z.1 ((y.R Z.1).iH Z.2 up).1) Y.1 (r1.iH Y.2 up).1 ((((if x=c then V else y.C x):qC).e (1-d)).1)).P (((if x=c then V else y.C x):qC).e (1-d)).2).rd) (((if x=c then V else y.C x):qC).on d)).2=(0,lH)/\∀p∈(kx (((jU (jU y.R Z.1 ((y.R Z.1).iH Z.2 up).1) Y.1 (r1.iH Y.2 up).1 ((((if x=c then V else y.C x):qC).e (1-d)).1)).P (((if x=c then V else y.C x):qC).e (1-d)).2).rd) (((if x=c then V else y.C x):qC).on d)).1,yf p;rw[u,hrd];by_cases e:x=c
  ·rw[ai e,U,cbo];have rN:(((y.C c).e (1-d)).1,((y.C c).e (1-d)).2)=Z \/(((y.C c).e (1-d)).1,((y.C c).e (1-d)).2)=Y:=by
    have:d=0 \/d=1:=dZ;rcases this with rfl|rfl
    {exact .inr A};{exact .inl J}
   rw[ai rN];exact⟨rfl,λp hp=>by simp[kx]at hp⟩
  ·rw[af e];have n0:¬((((y.C x).e (1-d)).1,((y.C x).e (1-d)).2)=Z \/(((y.C x).e (1-d)).1,((y.C x).e (1-d)).2)=Y):=by
    rintro(H|H);{exact e (hE.ds x (1-d) c 0 vE dZ hc dZ (by rw[J];exact H)).1};{exact e (hE.ds x (1-d) c 1 vE dZ hc dZ (by rw[A];exact H)).1}
   rw[af n0];exact h.q x d vE hd
 ·show∃ps,Frames ((jU (jU y.R Z.1 ((y.R Z.1).iH Z.2 up).1) Y.1 (r1.iH Y.2 up).1 i).P p).out ps;rw[u];exact ME i p
theorem jA.jL(up:Bool):∀(l:List Nat) {y:iM},jA y->GN y->Ends y->l.Nodup->(∀c∈l,c<y.nc/\(y.C c).iQ= !up)->jA (y.jL up l)
 |[],_,h,_,_,_,_=>h
 |c::l,y,h,hG,hE,xD,hl=>by
  obtain⟨g1,Y,g3,g4,V⟩:=pD y c up;have hc:=hl c gU;have Z:=bq.1 xD;exact jA.jL up l (h.jZ hG hE c up hc.1 hc.2) (hG.jZ hE c up hc.1 hc.2) (hE.jZ c up) Z.2 (λx hx=>by
   have U:x≠c:=λe=>Z.1 (e▸hx);rw[Y,(V x).2,af U];exact hl x (by simp[hx]))
theorem jA.anew {y:iM} (h:jA y)(Y:GN y)(i:Nat)(id:Int)(m:Nat->Int)(hf:∀c d,c<y.nc->d<2->((y.C c).e d).1=i->(y.C c).iQ=false):jA (y.jB i (jO id 3 m)):=by
 refine⟨λc d hc hd=> ?_,λj p=> ?_⟩;{have Z:c<y.nc:=hc;show(kx (((jU y.R i (jO id 3 m) ((y.C c).e (1-d)).1).P ((y.C c).e (1-d)).2).rd) ((y.C c).on d)).2=(0,lH)/\∀p∈(kx (((jU y.R i (jO id 3 m) ((y.C c).e (1-d)).1).P ((y.C c).e (1-d)).2).rd) ((y.C c).on d)).1,yf p;by_cases e:((y.C c).e (1-d)).1=i;{rw[e,iE,Y.off c d Z hd (hf c (1-d) Z dZ e)];exact⟨rfl,λp V=>by simp[kx]at V⟩};{rw[iC _ _ e];exact h.q c d Z hd}};{show∃ps,Frames ((jU y.R i (jO id 3 m) j).P p).out ps;by_cases e:j=i;{rw[e,iE];exact⟨[],Frames.nil⟩};{rw[iC _ _ e];exact h.o j p}}
theorem jA.restart {y:iM} {D:Nat} (h:jA y)(J:GN y)(E:j3 y D 0)(i:Int):jA (y.restart i).1:=by
 unfold iM.restart;split;{exact h}
 ·rename_i hi
  obtain⟨k,hk⟩:=gg ((i-1).toNat);rw[hk];obtain⟨l,hl⟩:=gg (y.lA k);rw[hl];have Y:∀c,c∈l↔c<y.nc/\(y.C c).iQ=true/\(((y.C c).e 0).1=k \/((y.C c).e 1).1=k):=λc=>by
   rw[<-hl];unfold iM.lA;simp[gY]
  have Q:l.Nodup:=by
   rw[<-hl];exact du dm bY
  have vQ:∀c∈l,c<y.nc/\(y.C c).iQ= !false:=λc hc=>⟨((Y c).1 hc).1,((Y c).1 hc).2.1⟩
  obtain⟨a,b,d⟩:=GN.jL false l J E.oJ Q vQ;have f1:=jA.jL false l h J E.oJ Q vQ;obtain⟨s1,U,s3,s4,u⟩:=nj false l y;obtain⟨Z,Cg⟩:=gg (y.jL false l);rw[Cg]at a b d s1 U s3 s4 u f1⊢;have M:∀c e,c<Z.nc->e<2->((Z.C c).e e).1=k->(Z.C c).iQ=false:=λc e hc G heq=>by
   have jX:c<y.nc:=by rw[U]at hc;exact hc
   rw[d c];by_cases V:c∈l;{rw[ai V]}
   ·rw[af V];by_cases A:(y.C c).iQ=true
    ·exfalso;rw[u c]at heq;refine V ((Y c).2 ⟨jX,A,?_⟩);have:e=0 \/e=1:=dZ;rcases this with rfl|rfl
     {exact .inl heq};{exact .inr heq}
    ·simpa using A
  have f2:=f1.anew a k i (y.ms k) M;have a2:GN (Z.jB k (jO i 3 (y.ms k))):=by
   refine a.jB k _ (λc e hc G heq _=> ?_);rw[M c e hc G heq];have H:=qM i (y.ms k) ((Z.C c).e e).2;exact⟨by simpa using H.st,λe=>absurd (by rw[H.pe];rfl) e⟩
  have b2:Ends (Z.jB k (jO i 3 (y.ms k))):=⟨b.ds,b.p3,λj=>by
   show(jU Z.R k _ j).n=3 \/Z.n<=j;by_cases e:j=k;{rw[e,iE];exact .inl rfl}
   ·rw[iC _ _ e];exact b.rn j,b.en⟩
  exact(jA.jL true l f2 a2 b2 Q (λc hc=>⟨by show c<Z.nc;rw[U];exact((Y c).1 hc).1,by show(Z.C c).iQ=_;rw[d c,ai hc];rfl⟩)).gather
theorem jA.iH {y:iM} {D:Nat} (h:jA y)(Z:GN y)(Y:j3 y D 0)(i:Int)(up:Bool):jA (y.iH i up).1:=by
 unfold iM.iH;split;{exact h}
 ·split;{exact h}
  ·rename_i kL
   exact(h.jZ Z Y.oJ i.toNat up dZ (by cases hv:(y.C i.toNat).iQ<;>cases up<;>simp_all)).gather
theorem jA.tick {y:iM} (h:jA y)(i:Int):jA (y.tick i).1:=by
 unfold iM.tick;split;{exact h};{exact(h.jB _ (nu.ja _ _)).gather}
theorem jA.deliver {y:iM} {D:Nat} (h:jA y)(Z:j3 y D 0)(i d m:Int):jA (y.deliver i d m).1:=by
 unfold iM.deliver;split;{exact h};{exact(h.jq Z.oJ _ _ _ dZ dZ).gather}
theorem jA.send {y:iM} (h:jA y)(f t:Int)(tx:List UInt8):jA (y.send f t tx).1:=by
 unfold iM.send;split;{exact h};{split;{exact h};{exact(h.jB _ (nu.kf _ _ _)).gather}}
theorem jA.ja {y:iM} (h:jA y):∀q,jA (y.ja q)
 |0=>h
 |q+1=>(jA.ja h q).tick _
theorem jA.jP {y:iM} {D:Nat} (h:jA y)(V:j3 y D 0)(Y:D<=890000000):∀q,q<=9->jA (y.jP q)
 |0,_=>h
 |q+1,hq=>by
  have Z:=V.jP Y q dZ;exact((jA.jP h V Y q dZ).deliver Z (q:Int) 0 2000).deliver (Z.deliver dZ (q:Int) 0 2000) (q:Int) 1 2000
theorem jA.turns {y:iM} {D:Nat} (h:jA y)(Z:j3 y D 0)(Y:D<=810000000):∀t,t<=12->jA (y.turns t)
 |0,_=>h
 |t+1,ht=>(jA.turns h Z Y t dZ).jP (Z.turns Y t dZ) dZ y.nc Z.c9
theorem jA.round {y:iM} {D:Nat} (h:jA y)(Z:j3 y D 0)(Y:D<=800000000):jA y.round:=
 (h.ja y.n).turns (Z.ja Y y.n Z.n6) (by have:=Z.n6;omega) 12 (Nat.le_refl _)
theorem jA.act {y:iM} (h:jA y)(Y:GN y)(Z:j3 y D 0)(V:D<=800000000)(v:AV):jA (rB y v):=by
 unfold rB;split;{exact h.iH Y Z _ _};{split;{exact h.tick _};{split;{exact h.deliver Z _ _ _};{split;{exact h.restart Y Z _};{split;{exact h.send _ _ _};{split;{exact h.round Z V};{exact h}}}}}}
theorem Ox(many:Nat)(L:List ot):jA (jM many L):=⟨λ_ _ _ _=>⟨rfl,λp Z=>by simp[kx,jM,nG]at Z⟩,λ_ _=>⟨[],Frames.nil⟩⟩
def jv.pt(p:jv)(rd:kB)(o:List UInt8):jv:={p with rd:=rd,out:=o++p.out}
def iN.pat(s:iN)(rd:Nat->kB)(os:Nat->List UInt8)(ib:List zb):iN:={s with P:=λp=>(s.P p).pt (rd p) (os p),j8:=ib++s.j8}
def iN.core(r:iN):iN:={r with P:=λp=>{r.P p with rd:=lH,out:=[] },j8:=[] }
theorem L6(s:iN)(rd:Nat->kB)(os:Nat->List UInt8)(ib:List zb):(s.pat rd os ib).core=s.core:=rfl
theorem wO(r:iN):r.core.pat (λp=>(r.P p).rd) (λp=>(r.P p).out) r.j8=r:=by
 unfold iN.pat iN.core jv.pt;simp only[gQ]
theorem Ff(p:jv)(rd:kB)(o:List UInt8)(c:UInt8)(s:List UInt8):(p.pt rd o).put c s=(p.put c s).pt rd o:=by
 unfold jv.put;have e:(p.pt rd o).L=p.L:=rfl;rw[e];split;{rfl};{split;{simp[jv.pt]};{rfl}}
theorem JC(rd:kB)(o:List UInt8):∀(l:List kN) (p:jv),(p.pt rd o).say l=(p.say l).pt rd o
 |[],_=>rfl
 |q::r,p=>by
  show((if jS q.1 q.2.1 q.2.2=0 then(p.pt rd o).put 76 (mG q.1 q.2.1 q.2.2)else p.pt rd o)).say r=((if jS q.1 q.2.1 q.2.2=0 then p.put 76 (mG q.1 q.2.1 q.2.2)else p).say r).pt rd o;split;{rw[Ff,JC rd o r]};{exact JC rd o r p}
theorem P7(rd:kB)(o:List UInt8)(L:LS)(l:List kN)(p:jv):({p.pt rd o with L:=L}:jv).say l=(({p with L:=L}:jv).say l).pt rd o:=JC rd o l {p with L:=L}
theorem Ip(rd:kB)(o:List UInt8):∀(l:List (Int×PS)) (p:jv),(p.pt rd o).kH l=(p.kH l).pt rd o
 |[],_=>rfl
 |q::r,p=>by
  show((p.pt rd o).put 83 _).kH r=_;rw[Ff,Ip rd o r];rfl
theorem Zq(rd:kB)(o:List UInt8)(p:jv):(p.pt rd o).tick=p.tick.pt rd o:=P7 rd o _ _ p
theorem Sy(rd:kB)(o:List UInt8)(p:jv)(s:List UInt8):(p.pt rd o).packet s=(p.packet s).pt rd o:=by
 unfold jv.packet;simp only;split;{exact P7 rd o _ _ p};{rfl}
section
variable (rd:Nat->kB) (os:Nat->List UInt8) (ib:List zb)
theorem uy(s:iN)(i:Nat)(q:jv):(s.pat rd os ib).iU i (q.pt (rd i) (os i))=(s.iU i q).pat rd os ib:=by
 unfold iN.iU iN.pat;congr 1
 funext p
 show k9 _ i _ p=(k9 s.P i q p).pt (rd p) (os p);by_cases e:p=i;{subst e;rw[jy,jy]};{rw[jr _ _ e,jr _ _ e]}
theorem Bu(s:iN)(n:Int):∀k,jQ (s.pat rd os ib).P n k=jQ s.P n k
 |0=>rfl
 |k+1=>by
  have ih:=Bu s n k;unfold jQ;rw[ih];rfl
theorem Fg(s:iN):jx (s.pat rd os ib)=jx s:=by
 unfold jx;congr 1
 funext j
 rw[Bu];rfl
theorem Fh(s:iN)(q:Int):(s.pat rd os ib).behind q=(s.behind q).pat rd os ib:=by
 unfold iN.behind;rw[Fg];split<;>rfl
theorem Oy(s:iN):(s.pat rd os ib).change=s.change.pat rd os ib:=by
 unfold iN.change;rw[Fg,Fh];show(if CY s.K s.id=jx s then s.pat rd os ib else(s.behind (A5 s.K s.id)).pat rd os ib)=_;split<;>rfl
theorem wP(s:iN)(i:Nat)(q:lD):(s.pat rd os ib).meet i q=(s.meet i q).pat rd os ib:=by
 have Z:(s.pat rd os ib).iU i {(s.pat rd os ib).P i with pe:=q}=(s.iU i {s.P i with pe:=q}).pat rd os ib:=uy rd os ib s i {s.P i with pe:=q};unfold iN.meet;simp only;rw[Z];have Y:=Oy rd os ib ({s.iU i {s.P i with pe:=q}with O:=λx=>if x=i then λ_=>ν else s.O x}:iN);show(if q.who=(s.P i).pe.who/\q.both=(s.P i).pe.both then _ else _)=_;split;{rfl};{have V:({(s.iU i {s.P i with pe:=q}).pat rd os ib with O:=λx=>if x=i then λ_=>ν else((s.iU i {s.P i with pe:=q}).pat rd os ib).O x}:iN).change=(({s.iU i {s.P i with pe:=q}with O:=λx=>if x=i then λ_=>ν else s.O x}:iN).change).pat rd os ib:=Y;rw[V];split<;>rfl}
theorem L7(s:iN)(t:zb):(s.pat rd os ib).send t=(s.send t).pat rd os ib:=by
 unfold iN.send;have Z:(λh:HP=>jQ (s.pat rd os ib).P h.rJ (s.pat rd os ib).n)=λh:HP=>jQ s.P h.rJ s.n:=by
  funext h;exact Bu rd os ib s h.rJ s.n
 rw[Z];show(if t.1=s.id then _ else match (if 1<=t.2.1 then(AO (mr s) t.1).bind λh=>jQ s.P h.rJ s.n else none)with|none=>_|some i=>_)=_;split;{simp[iN.pat]}
 ·cases (if 1<=t.2.1 then(AO (mr s) t.1).bind λh=>jQ s.P h.rJ s.n else ν)with
  |none=>rfl
  |some i=>
   show(s.pat rd os ib).iU i (((s.P i).pt (rd i) (os i)).put 77 _)=_;rw[Ff];exact uy rd os ib s i _
theorem Sz(s:iN)(i:Nat)(l:List UInt8):jj (s.pat rd os ib) i l=(jj s i l).pat rd os ib:=by
 unfold jj;simp only;show(if(St.ij l).2.2.2≠0 \/(s.P i).pe.both=false then _ else if(St.ij l).1=s.id/\0<newF s.K (St.ij l).1 (St.ij l).2.1 (St.ij l).2.2.1 then _ else if 0<=newF s.K (St.ij l).1 (St.ij l).2.1 (St.ij l).2.2.1 then _ else _)=_;split;{rfl}
 ·split;{exact Fh rd os ib s _}
  ·split
   ·obtain⟨x,hx⟩:∃x:iN,({s with K:=lr s.K (St.ij l).1 (St.ij l).2.1 (St.ij l).2.2.1,O:=oT s.K s.O i (St.ij l).1 (St.ij l).2.1 (St.ij l).2.2.1}:iN)=x:=⟨_,rfl⟩
    have Z:(x.pat rd os ib).iU i (((x.P i).pt (rd i) (os i)).put 65 (rh (St.ij l).1 (St.ij l).2.1 (St.ij l).2.2.1))=(x.iU i ((x.P i).put 65 (rh (St.ij l).1 (St.ij l).2.1 (St.ij l).2.2.1))).pat rd os ib:=by
     rw[Ff];exact uy rd os ib x i _
    rw[<-hx]at Z;exact Z
   ·rfl
theorem Wp(s:iN)(i:Nat)(c:UInt8)(l:List UInt8):(s.pat rd os ib).take i c l=(s.take i c l).pat rd os ib:=by
 rw[lJ,lJ];have Z:j1 (s.pat rd os ib) i c l=(j1 s i c l).pat rd os ib:=by
  unfold j1;split;{show(s.pat rd os ib).iU i (((s.P i).pt (rd i) (os i)).packet l)=_;rw[Sy];exact uy rd os ib s i _};{rfl}
 rw[Z];show(if((j1 s i c l).P i).L.st≠9 then _ else _)=_;split;{exact wP rd os ib _ i _};{unfold mB;split;{split;{exact wP rd os ib _ i _};{rfl}};{split;{exact Sz rd os ib _ i l};{split;{unfold kC;simp only;split<;>rfl};{split;{unfold ry;split;{exact L7 rd os ib _ _};{rfl}};{rfl}}}}}
theorem SA(s:iN)(i:Nat)(x:List UInt8):jN (s.pat rd os ib) i x=(jN s i x).pat rd os ib:=by
 cases x with
 |nil=>rfl
 |cons c l=>exact Wp rd os ib s i c l
theorem Bv:∀(l:List (List UInt8)) (s:iN) (i:Nat),(s.pat rd os ib).takes i l=(s.takes i l).pat rd os ib
 |[],_,_=>rfl
 |x::l,s,i=>by
  show(jN (s.pat rd os ib) i x).takes i l=((jN s i x).takes i l).pat rd os ib;rw[SA,Bv l]
theorem SB(s:iN)(i:Nat):(s.pat rd os ib).iW i=(s.iW i).pat rd os ib:=by
 rw[k7,k7];have Z:jb (s.pat rd os ib) i=(jb s i).pat rd os ib:=by
  show(s.pat rd os ib).iU i (((s.P i).pt (rd i) (os i)).tick)=_;rw[Zq];exact uy rd os ib s i _
 rw[Z];show(if((jb s i).P i).L.st≠9 then _ else _)=_;split;{exact wP rd os ib _ i _}
 ·show mJ (((jb s i).pat rd os ib).meet i (iJ ((jb s i).P i).pe)) i=_;rw[wP];obtain⟨x,hx⟩:=gg ((jb s i).meet i (iJ ((jb s i).P i).pe));rw[hx];have Y:∀p q:jv,(if(x.P i).pe.both=true then p.pt (rd i) (os i)else q.pt (rd i) (os i))=(if(x.P i).pe.both=true then p else q).pt (rd i) (os i):=λp q=>by split<;>rfl
  show(x.pat rd os ib).iU i (if(x.P i).pe.both=true then(((x.P i).pt (rd i) (os i)).put 72 _).kH (lE (x.O i))else((x.P i).pt (rd i) (os i)).put 72 _)=_;rw[Ff,Ip,Y];exact uy rd os ib x i _
theorem L8(s:iN)(i:Nat)(up:Bool)(Z:(kY (s.P i).L (if up=true then 0 else 1)).2.2=0):((s.pat rd os ib).iH i up).1=((s.iH i up).1).pat (jU rd i lH) os ib:=by
 obtain⟨E,Y⟩:=gg (kY (s.P i).L (if up=true then 0 else 1));rw[Y]at Z;have e:∀p:jv,p.L=(s.P i).L->p.iH up=(({p with L:=E.1,rd:=lH}:jv).say E.2.1,0):=λp Q=>by
  unfold jv.iH;rw[Q,Y];simp only;rw[af (by simp[Z])];rfl
 unfold iN.iH;rw[e _ rfl,e ((s.pat rd os ib).P i) rfl];simp only;rw[af gU,af gU];have V:(({(s.pat rd os ib).P i with L:=E.1,rd:=lH}:jv).say E.2.1)=((({s.P i with L:=E.1,rd:=lH}:jv)).say E.2.1).pt lH (os i):=
  JC lH (os i) _ ({s.P i with L:=E.1,rd:=lH}:jv)
 rw[V];obtain⟨q,M⟩:=gg ((({s.P i with L:=E.1,rd:=lH}:jv)).say E.2.1);rw[M];have U:(s.pat rd os ib).iU i (q.pt lH (os i))=(s.iU i q).pat (jU rd i lH) os ib:=by
  unfold iN.iU iN.pat;congr 1
  funext p
  show k9 _ i _ p=(k9 s.P i q p).pt (jU rd i lH p) (os p);by_cases e:p=i;{subst e;rw[jy,jy,iE]};{rw[jr _ _ e,jr _ _ e,iC _ _ e]}
 rw[U,wP]
end
def isM(k:Nat)(tx:List UInt8):List UInt8->Bool
 |77::a::_::s=>a.toNat==k&&s==tx
 |_=>false
def cP(k:Nat)(tx:List UInt8)(ps:List (List UInt8)):Nat:=ps.countP (isM k tx)
def isI(k:Nat)(tx:List UInt8)(m:zb):Bool:=m.1==(k:Int)&&m.2.2==tx
def cI(k:Nat)(tx:List UInt8)(l:List zb):Nat:=l.countP (isI k tx)
def jl(p:jv):List (List UInt8):=(kx lH p.out).1
theorem m9 {p:jv} (h:Frames p.out ps):jl p=ps:=by
 unfold jl;rw[h.1,rC ps h.2]
def pc(k:Nat)(tx:List UInt8)(p:jv):Nat:=cP k tx (jl p)
theorem r9.fr {p q:jv} (h:r9 p q)(Z:∃ps,Frames p.out ps):∃ps,Frames q.out ps:=by
 obtain⟨ps,V⟩:=Z;obtain⟨qs,Y⟩:=h.out ps V;exact⟨_,Y⟩
abbrev la:=List UInt8
structure AN where
 n:Nat
 nc:Nat
 e:Nat->Nat->Nat×Nat
 ms:Nat->Nat->Int
 iQ:Nat->Bool
 R:Nat->iN
 F:Nat->Nat->List la
 ib:Nat->List zb
def tU(y:iM)(c d:Nat):List la:=(kx (jW y c d) ((y.C c).on d)).1++jl ((y.R ((y.C c).e d).1).P ((y.C c).e d).2)
def iI(y:iM):AN:=⟨y.n,y.nc,λc=>(y.C c).e,y.ms,λc=>(y.C c).iQ,λi=>(y.R i).core,λc d=>if c<y.nc/\d<2 then tU y c d else [],λi=>y.j8 i++(y.R i).j8⟩
def AN.op(a:AN)(i:Nat)(s:iN):AN:=
 {a with R:=jU a.R i s.core,F:=λc d=>if(c<a.nc/\d<2)/\(a.e c d).1=i then a.F c d++jl (s.P (a.e c d).2)else a.F c d,ib:=jU a.ib i (a.ib i++s.j8)}
def AN.lv(a:AN)(c d:Nat)(l:List la):AN:={a with F:=λc' d'=>if c'=c/\d'=d then l else a.F c' d'}
def AN.pop(a:AN)(c d:Nat)(x:la)(l:List la):AN:=(a.lv c d l).op (a.e c (1-d)).1 (jN (a.R (a.e c (1-d)).1) (a.e c (1-d)).2 x)
def AN.nI(a:AN)(c d:Nat)(up:Bool):AN:=a.op (a.e c d).1 ((a.R (a.e c d).1).iH (a.e c d).2 up).1
def AN.iH(a:AN)(c:Nat)(up:Bool):AN:=((({a with iQ:=jU a.iQ c up}:AN).lv c 0 []).lv c 1 []).nI c 0 up|>.nI c 1 up
def wQ(a b:AN):Prop:=b={a with F:=b.F} /\∀c d,∃m,b.F c d=(a.F c d).take m
theorem wQ.refl(a:AN):wQ a a:=⟨rfl,λc d=>⟨(a.F c d).length,gU⟩⟩
theorem wQ.trans {a b c:AN} (h:wQ a b)(g:wQ b c):wQ a c:=by
 refine⟨?_,λx d=> ?_⟩;{rw[g.1,h.1]};{obtain⟨m,Y⟩:=h.2 x d;obtain⟨k,Z⟩:=g.2 x d;exact⟨min k m,by rw[Z,Y,List.take_take]⟩}
inductive mR:AN->List (Nat×Nat)->List (Int×List UInt8)->AN->Prop
 |lost {a b:AN}:wQ a b->mR a [] [] b
 |tick {a:AN} (i p:Nat):i<a.n->p<3->mR a [(i,p)] [] (a.op i ((a.R i).iW p))
 |pop {a:AN} (c d:Nat) (x:la) (l:List la):c<a.nc->d<2->a.F c d=x::l->mR a [] [] (a.pop c d x l)
 |send {a:AN} (i:Nat) (t:Int) (tx:List UInt8):i<a.n->1<=t->t<=6->tx.length<=20->mR a [] [(t,tx)] (a.op i ((a.R i).send (t,8,tx)))
 |iH {a:AN} (c:Nat):c<a.nc->a.iQ c=false->a.F c 0=[]->a.F c 1=[]->mR a [a.e c 0,a.e c 1] [] (a.iH c true)
 |draw {a:AN} (c:Nat):c<a.nc->a.iQ c=true->mR a [] [] (a.iH c false)
 |anew {a:AN} (i m:Nat):i<a.n->(∀c d,c<a.nc->d<2->(a.e c d).1=i->a.iQ c=false/\a.F c 0=[] /\a.F c 1=[])->mR a [] [] {a with R:=jU a.R i (jO ((i:Int)+1) 3 (a.ms i)),ib:=jU a.ib i ((a.ib i).take m)}
inductive jT:AN->List (Nat×Nat)->List (Int×List UInt8)->AN->Prop
 |nil (a:AN):jT a [] [] a
 |snoc {a b c:AN} {T U:List (Nat×Nat)} {S V:List (Int×List UInt8)}:jT a T S b->mR b U V c->jT a (T++U) (S++V) c
theorem jT.one {a b:AN} (h:mR a T S b):jT a T S b:=jT.snoc (jT.nil a) h
theorem jT.trans {a b c:AN} {U:List (Nat×Nat)} {V:List (Int×List UInt8)} (h:jT a T S b)(g:jT b U V c):jT a (T++U) (S++V) c:=by
 induction g with
 |nil=>simpa using h
 |snoc _ s ih=>rw[<-aD,<-aD];exact ih.snoc s
theorem jT.lost {a b c:AN} {T:List (Nat×Nat)} {S:List (Int×List UInt8)} (h:jT a T S b)(g:wQ b c):jT a T S c:=by
 have:=h.snoc (mR.lost g);simpa using this
theorem mR.same {a b:AN} (h:mR a T S b):b.n=a.n/\b.nc=a.nc/\b.e=a.e/\b.ms=a.ms:=by
 cases h with
 |lost h=>rw[h.1];exact⟨rfl,rfl,rfl,rfl⟩
 |_=>exact⟨rfl,rfl,rfl,rfl⟩
theorem jT.same {a b:AN} {T:List (Nat×Nat)} {S:List (Int×List UInt8)} (h:jT a T S b):b.n=a.n/\b.nc=a.nc/\b.e=a.e/\b.ms=a.ms:=by
 induction h with
 |nil=>exact⟨rfl,rfl,rfl,rfl⟩
 |snoc _ s ih=>
  obtain⟨Z,Y,V,U⟩:=s.same;exact⟨Z.trans ih.1,Y.trans ih.2.1,V.trans ih.2.2.1,U.trans ih.2.2.2⟩
theorem AN.ext' {a b:AN} (Z:a.n=b.n)(Y:a.nc=b.nc)(V:a.e=b.e)(U:a.ms=b.ms)(Q:a.iQ=b.iQ)(M:a.R=b.R)(J:a.F=b.F)(H:a.ib=b.ib):a=b:=by
 cases a;cases b;simp only at*;subst Z Y V U Q M J H;rfl
theorem zX {p:jv} {o:List UInt8} {ps:List la} (Y:Frames o ps)(V:∃qs,Frames p.out qs)(rd:kB):jl (p.pt rd o)=ps++jl p/\∃qs,Frames (p.pt rd o).out qs:=by
 obtain⟨qs,Z⟩:=V;have h:Frames (p.pt rd o).out (ps++qs):=by
  refine⟨?_,λx hx=> ?_⟩;{show o++p.out=_;rw[Y.1,Z.1,bW]}
  ·rcases av.1 hx with e|e
   {exact Y.2 x e};{exact Z.2 x e}
 exact⟨by rw[m9 h,m9 Z],_,h⟩
theorem jz {p:jv} (h:p.out=[]):jl p=[] :=by unfold jl;rw[h];rfl
theorem JD {p:jv} (h:∃ps,Frames p.out ps):Frames p.out (jl p):=by
 obtain⟨ps,Z⟩:=h;rw[m9 Z];exact Z
theorem JE {y:iM} (hF:∀i p,∃ps,Frames ((y.R i).P p).out ps)(i:Nat) {s r:iN} (rd:Nat->kB)(V:r=s.pat rd (λp=>((y.R i).P p).out) (y.R i).j8)(U:∀c d,c<y.nc->d<2->((y.C c).e (1-d)).1=i->rd ((y.C c).e (1-d)).2=((y.R i).P ((y.C c).e (1-d)).2).rd \/(y.C c).on d=[])(hs:∀p,∃ps,Frames (s.P p).out ps):iI (y.jB i r)=(iI y).op i s:=by
 have Y:∀j,(y.jB i r).R j=if j=i then r else y.R j:=λj=>rfl
 refine AN.ext' rfl rfl rfl rfl rfl ?_ ?_ ?_
 ·funext j
  show((y.jB i r).R j).core=jU _ i s.core j;rw[Y];by_cases e:j=i;{subst e;rw[ai rfl,iE,V,L6]};{rw[af e,iC _ _ e];rfl}
 ·funext c d
  show(if c<y.nc/\d<2 then tU (y.jB i r) c d else [])=if(c<y.nc/\d<2)/\((y.C c).e d).1=i then(if c<y.nc/\d<2 then tU y c d else [])++jl (s.P ((y.C c).e d).2)else if c<y.nc/\d<2 then tU y c d else []
  by_cases hc:c<y.nc/\d<2
  ·rw[ai hc,ai hc];have hf:(kx (jW (y.jB i r) c d) ((y.C c).on d)).1=(kx (jW y c d) ((y.C c).on d)).1:=by
    have Z:jW (y.jB i r) c d=jW y c d \/(y.C c).on d=[] :=by
     show(((y.jB i r).R ((y.C c).e (1-d)).1).P ((y.C c).e (1-d)).2).rd=_ \/_;rw[Y];by_cases e:((y.C c).e (1-d)).1=i;{rw[ai e,V];unfold jW;rw[e];exact U c d hc.1 hc.2 e};{rw[af e];exact .inl rfl}
    rcases Z with Z|Z
    {rw[Z]};{rw[Z];rfl}
   unfold tU;show(kx (jW (y.jB i r) c d) ((y.C c).on d)).1++_=_;rw[hf];show(kx (jW y c d) ((y.C c).on d)).1++jl (((y.jB i r).R ((y.C c).e d).1).P ((y.C c).e d).2)=_;rw[Y];by_cases e:((y.C c).e d).1=i;{rw[ai e,ai ⟨hc,e⟩,V,e];obtain⟨ps,Q⟩:=hF i ((y.C c).e d).2;have M:=(zX Q (hs ((y.C c).e d).2) (rd ((y.C c).e d).2)).1;show _++jl ((s.P ((y.C c).e d).2).pt _ _)=_;rw[M,m9 Q,aD]};{rw[af e,af (λh=>e h.2)]}
  ·rw[af hc,af (λh=>hc h.1),af hc]
 ·funext j
  show y.j8 j++((y.jB i r).R j).j8=jU _ i _ j;rw[Y];by_cases e:j=i;{subst e;rw[ai rfl,iE,V];show y.j8 j++((y.R j).j8++s.j8)=(y.j8 j++(y.R j).j8)++s.j8;rw[aD]};{rw[af e,iC _ _ e];rfl}
theorem Wq {y:iM} (hF:∀i p,∃ps,Frames ((y.R i).P p).out ps)(i:Nat) {s r:iN} (Z:r=s.pat (λp=>((y.R i).P p).rd) (λp=>((y.R i).P p).out) (y.R i).j8)(hs:∀p,∃ps,Frames (s.P p).out ps):iI (y.jB i r)=(iI y).op i s:=JE hF i _ Z (λ_ _ _ _ _=>.inl rfl) hs
def Room(y:iM):Prop:=∀c d,c<y.nc->d<2->((y.R ((y.C c).e d).1).P ((y.C c).e d).2).out=[] \/((y.C c).iQ=true/\((y.C c).on d).length+((y.R ((y.C c).e d).1).P ((y.C c).e d).2).out.length<=2000)
theorem Dy(y:iM)(c d x f:Nat):((y.kZ c d).C x).on f=(if x=c/\f=d/\(y.C c).iQ=true/\((y.C c).on d).length+((y.R ((y.C c).e d).1).P ((y.C c).e d).2).out.length<=2000 then(y.C c).on d++((y.R ((y.C c).e d).1).P ((y.C c).e d).2).out else(y.C x).on f):=by
 show((if x=c then(y.C c).put d _ else y.C x):qC).on f=_;by_cases ex:x=c
 ·rw[ai ex];subst ex;unfold qC.put;split
  ·rename_i h
   show jU (y.C x).on d _ f=_;by_cases ed:f=d;{subst ed;rw[iE,ai ⟨rfl,rfl,h⟩]};{rw[iC _ _ ed,af (λq=>ed q.2.1)]}
  ·rename_i h
   rw[af (λq=>h q.2.2)]
 ·rw[af ex,af (λq=>ex q.1)]
theorem L9 {y:iM} (hF:jA y)(u:Ends y)(c d:Nat)(hc:c<y.nc)(hd:d<2):wQ (iI y) (iI (y.kZ c d))/\(Room y->iI (y.kZ c d)=iI y/\Room (y.kZ c d)):=by
 have V:∀x,((y.kZ c d).C x).e=(y.C x).e:=λx=>((mW y c d).2.2.2.2 x).1;have hi:∀x,((y.kZ c d).C x).iQ=(y.C x).iQ:=λx=>((mW y c d).2.2.2.2 x).2;have hR:∀j,((y.kZ c d).R j)=if j=((y.C c).e d).1 then(y.R j).out ((y.C c).e d).2 else y.R j:=λj=>by
  show jU y.R ((y.C c).e d).1 _ j=_;by_cases e:j=((y.C c).e d).1;{subst e;rw[iE,ai rfl]};{rw[iC _ _ e,af e]}
 have Q:∀j,((y.kZ c d).R j).core=(y.R j).core:=λj=>by
  rw[hR];split
  ·show iN.core (iN.iU _ _ _)=_;unfold iN.core iN.iU;congr 1
   funext p
   show({k9 (y.R j).P ((y.C c).e d).2 {(y.R j).P ((y.C c).e d).2 with out:=[] } p with rd:=lH,out:=[] }:jv)=_;by_cases e:p=((y.C c).e d).2;{rw[e,jy]};{rw[jr _ _ e]}
  ·rfl
 have M:∀j,((y.kZ c d).R j).j8=(y.R j).j8:=λj=>by
  rw[hR];split<;>rfl
 have U:∀j p,((y.kZ c d).R j).P p=if(y.C c).e d=(j,p)then {(y.R j).P p with out:=[] }else(y.R j).P p:=λj p=>Bl y c d j p
 have uL:∀x f,jW (y.kZ c d) x f=jW y x f:=λx f=>by
  unfold jW;rw[V,U];split<;>rfl
 have A:∀x f,x<y.nc->f<2->¬(x=c/\f=d)->tU (y.kZ c d) x f=tU y x f:=λx f hx hf hn=>by
  unfold tU;rw[uL,V,Dy,af (λq=>hn ⟨q.1,q.2.1⟩),U,af (λq=>hn (u.ds x f c d hx hf hc hd q.symm))]
 have hq:=(hF.q c d hc hd).1;obtain⟨ps,H⟩:=hF.o ((y.C c).e d).1 ((y.C c).e d).2;have h0:jl (((y.kZ c d).R ((y.C c).e d).1).P ((y.C c).e d).2)=[] :=jz (by rw[U,ai rfl]);have Y:tU (y.kZ c d) c d=(if(y.C c).iQ=true/\((y.C c).on d).length+((y.R ((y.C c).e d).1).P ((y.C c).e d).2).out.length<=2000 then tU y c d else(kx (jW y c d) ((y.C c).on d)).1):=by
  unfold tU;rw[uL,V,h0,aB,Dy];split
  ·rename_i h
   rw[ai h.2.2,ru,hq,m9 H];rw[H.1,rC ps H.2]
  ·rename_i h
   rw[af (λq=>h ⟨rfl,rfl,q⟩)]
 have E:∀G:Nat->Nat->List la,(∀x f,(if x<y.nc/\f<2 then tU (y.kZ c d) x f else [])=G x f)->iI (y.kZ c d)={iI y with F:=G}:=λG hG=>by
  refine AN.ext' rfl rfl (funext V) rfl (funext hi) (funext Q) ?_ (funext λj=> ?_);{funext x f;exact hG x f};{show y.j8 j++((y.kZ c d).R j).j8=_;rw[M];rfl}
 refine⟨⟨?_,λx f=> ?_⟩,λhr=>⟨?_,λx f hx hf=> ?_⟩⟩;{exact E _ λ_ _=>rfl}
 ·show∃m,(if x<y.nc/\f<2 then tU (y.kZ c d) x f else [])=(if x<y.nc/\f<2 then tU y x f else []).take m;split
  ·rename_i Z
   by_cases e:x=c/\f=d;{obtain⟨rfl,rfl⟩:=e;rw[Y];split;{exact⟨(tU y x f).length,gU⟩};{exact⟨(kx (jW y x f) ((y.C x).on f)).1.length,by unfold tU;simp⟩}};{rw[A x f Z.1 Z.2 e];exact⟨(tU y x f).length,gU⟩}
  ·exact⟨0,rfl⟩
 ·refine E (iI y).F λx f=> ?_;show _=if x<y.nc/\f<2 then tU y x f else []
  split
  ·rename_i Z
   by_cases e:x=c/\f=d
   ·obtain⟨rfl,rfl⟩:=e;rw[Y];rcases hr x f hc hd with J|J
    {split;{rfl};{unfold tU;rw[jz J,aB]}};{rw[ai J]}
   ·exact A x f Z.1 Z.2 e
  ·rfl
 ·rw[V,U,hi,Dy];by_cases e:x=c/\f=d;{obtain⟨rfl,rfl⟩:=e;rw[ai rfl];exact .inl rfl};{rw[af (λq=>e (u.ds x f c d hx hf hc hd q.symm)),af (λq=>e ⟨q.1,q.2.1⟩)];exact hr x f hx hf}
theorem Ends.same {y y':iM} (h:Ends y)(V:y'.n=y.n)(Y:y'.nc=y.nc)(Z:∀c,(y'.C c).e=(y.C c).e)(U:∀i,(y'.R i).n=(y.R i).n):Ends y':=
 ⟨λc d c' d'=>by rw[Y,Z,Z];exact h.ds c d c' d',λc d=>by rw[Y,Z];exact h.p3 c d,λi=>by rw[U,V];exact h.rn i,λc d=>by rw[Y,Z,V];exact h.en c d⟩
theorem Ends.kZ {y:iM} (h:Ends y)(c d:Nat):Ends (y.kZ c d):=h.same (mW y c d).1 (mW y c d).2.1 (λx=>((mW y c d).2.2.2.2 x).1) λj=>by
 show(jU y.R ((y.C c).e d).1 _ j).n=_;by_cases e:j=((y.C c).e d).1;{subst e;rw[iE];rfl};{rw[iC _ _ e]}
theorem Ma {y:iM} (hF:jA y)(V:Ends y):∀k,k<=y.nc->(Ends (y.j2 k)/\wQ (iI y) (iI (y.j2 k)))/\(Room y->iI (y.j2 k)=iI y/\Room (y.j2 k))
 |0,_=>⟨⟨V,wQ.refl _⟩,λh=>⟨rfl,h⟩⟩
 |k+1,hk=>by
  obtain⟨⟨Z,l1⟩,r1⟩:=Ma hF V k dZ;have f1:=jA.j2 hF k dZ;have n1:(y.j2 k).nc=y.nc:=(j4 y k).2.1;obtain⟨l2,M⟩:=L9 f1 Z k 0 (by rw[n1];omega) ew;have Y:=Z.kZ k 0;have f2:=f1.kZ k 0 (by rw[n1];omega);obtain⟨U,J⟩:=L9 f2 Y k 1 (by show k<(y.j2 k).nc;rw[n1];omega) ew;refine⟨⟨Y.kZ k 1,l1.trans (l2.trans U)⟩,λh=> ?_⟩;obtain⟨q1,s1⟩:=r1 h;obtain⟨q2,H⟩:=M s1;obtain⟨Q,G⟩:=J H;exact⟨Q.trans (q2.trans q1),G⟩
theorem Mb(y:iM):∀k,iI (y.m7 k)=iI y
 |0=>rfl
 |k+1=>by
  rw[<-Mb y k];obtain⟨z,Y⟩:=gg (y.m7 k);show iI ((y.m7 k).x6 k)=iI (y.m7 k);rw[Y];have Z:∀j,((z.x6 k).R j).P=(z.R j).P:=λj=>by
   show(jU z.R k {z.R k with j8:=[] } j).P=_;by_cases e:j=k;{subst e;rw[iE]};{rw[iC _ _ e]}
  refine AN.ext' rfl rfl rfl rfl rfl (funext λj=> ?_) (funext λc=>funext λd=> ?_) (funext λj=> ?_);{show(jU z.R k {z.R k with j8:=[] } j).core=_;by_cases e:j=k;{subst e;rw[iE];rfl};{rw[iC _ _ e];rfl}};{show(if c<z.nc/\d<2 then(kx (((z.x6 k).R _).P _).rd _).1++jl (((z.x6 k).R _).P _)else [])=_;rw[Z,Z];rfl};{show jU z.j8 k (z.j8 k++(z.R k).j8) j++(jU z.R k {z.R k with j8:=[] } j).j8=z.j8 j++(z.R j).j8;by_cases e:j=k;{subst e;rw[iE,iE];simp};{rw[iC _ _ e,iC _ _ e]}}
theorem pF {y:iM} (hF:jA y)(Z:Ends y):wQ (iI y) (iI y.gather)/\(Room y->iI y.gather=iI y):=by
 obtain⟨⟨_,l⟩,r⟩:=Ma hF Z y.nc (Nat.le_refl _);unfold iM.gather;rw[Mb];exact⟨l,λh=>(r h).1⟩
theorem vF(a:AN)(i:Nat)(s:iN)(c d:Nat):(a.op i s).F c d=if(c<a.nc/\d<2)/\(a.e c d).1=i then a.F c d++jl (s.P (a.e c d).2)else a.F c d:=rfl
theorem SC(a:AN)(i:Nat)(s:iN):(a.op i s).e=a.e:=rfl
theorem ag9(a:AN)(i:Nat)(s:iN):(a.op i s).nc=a.nc:=rfl
theorem sQ(a:AN)(c d:Nat)(l:List la)(x f:Nat):(a.lv c d l).F x f=if x=c/\f=d then l else a.F x f:=rfl
theorem yS(a:AN)(c d:Nat)(l:List la):(a.lv c d l).e=a.e:=rfl
theorem Dz(a:AN)(c d:Nat)(l:List la):(a.lv c d l).nc=a.nc:=rfl
def Norm(a:AN):Prop:=∀i,(a.R i).core=a.R i
theorem wR(y:iM):Norm (iI y):=λ_=>rfl
theorem qW {a:AN} (h:Norm a)(i:Nat)(s:iN):Norm (a.op i s):=λj=>by
 show(jU a.R i s.core j).core=jU a.R i s.core j;by_cases e:j=i;{subst e;rw[iE];rfl};{rw[iC _ _ e];exact h j}
theorem Norm.out {a:AN} (h:Norm a)(i p:Nat):((a.R i).P p).out=[] :=by rw[<-h i];rfl
theorem Norm.j8 {a:AN} (h:Norm a)(i:Nat):(a.R i).j8=[] :=by rw[<-h i];rfl
theorem nu.frN {r s:iN} (h:nu r s)(Y:∀p,(r.P p).out=[]):∀p,∃ps,Frames (s.P p).out ps:=λp=>by
 obtain⟨qs,Z⟩:=h.out p [] (by rw[Y p];exact Frames.nil);exact⟨_,Z⟩
theorem nu.jN(r:iN)(i:Nat)(x:la):nu r (jN r i x):=by
 cases x with
 |nil=>exact nu.refl r
 |cons c s=>exact nu.take r i c s
theorem ahb(a:AN)(i:Nat)(s t:iN)(rd:Nat->kB)(hs:∀p,∃ps,Frames (s.P p).out ps)(Z:∀p,∃ps,Frames (t.P p).out ps):(a.op i s).op i t=a.op i (t.pat rd (λp=>(s.P p).out) s.j8):=by
 refine AN.ext' rfl rfl rfl rfl rfl (funext λj=> ?_) (funext λc=>funext λd=> ?_) (funext λj=> ?_);{show jU (jU a.R i s.core) i t.core j=jU a.R i t.core j;by_cases e:j=i;{subst e;rw[iE,iE]};{rw[iC _ _ e,iC _ _ e,iC _ _ e]}};{rw[vF,vF,vF,SC,ag9];by_cases e:(c<a.nc/\d<2)/\(a.e c d).1=i;{rw[ai e,ai e,ai e,aD];congr 1;exact(zX (JD (hs _)) (Z _) _).1.symm};{rw[af e,af e,af e]}};{show jU (jU a.ib i (a.ib i++s.j8)) i (jU a.ib i (a.ib i++s.j8) i++t.j8) j=jU a.ib i (a.ib i++(s.j8++t.j8)) j;by_cases e:j=i;{subst e;rw[iE,iE,iE,aD]};{rw[iC _ _ e,iC _ _ e,iC _ _ e]}}
inductive yT(c d:Nat):List la->AN->AN->Prop
 |nil (a:AN):yT c d [] a a
 |cons {a b:AN} {x:la} {l r:List la}:c<a.nc->d<2->a.F c d=x::r->yT c d l (a.pop c d x r) b->yT c d (x::l) a b
theorem yT.path {c d:Nat} {l:List la} {a b:AN} (h:yT c d l a b):jT a [] [] b:=by
 induction h with
 |nil a=>exact jT.nil a
 |cons Z Y V _ ih=>exact(jT.one (mR.pop _ _ _ _ Z Y V)).trans ih
theorem adD:∀(l rest:List la) (a:AN) (c d:Nat),Norm a->c<a.nc->d<2->a.F c d=l++rest->yT c d l a ((a.lv c d rest).op (a.e c (1-d)).1 ((a.R (a.e c (1-d)).1).takes (a.e c (1-d)).2 l))
 |[],rest,a,c,d,hN,hc,hd,hF=>by
  have H:(a.lv c d rest).op (a.e c (1-d)).1 ((a.R (a.e c (1-d)).1).takes (a.e c (1-d)).2 [])=a:=by
   refine AN.ext' rfl rfl rfl rfl rfl ?_ (funext λx=>funext λf=> ?_) ?_;{show jU a.R _ (a.R _).core=_;rw[hN];exact wy _ _}
   ·show(if _/\_ then(if x=c/\f=d then rest else a.F x f)++jl _ else if x=c/\f=d then rest else a.F x f)=_;have G:(if x=c/\f=d then rest else a.F x f)=a.F x f:=by
     split;{rename_i h;rw[h.1,h.2,hF];rfl};{rfl}
    rw[G];split;{show _++jl ((a.R _).P _)=_;rw[jz (hN.out _ _),aB]};{rfl}
   ·show jU a.ib _ (a.ib _++(a.R _).j8)=_;rw[hN.j8,aB];exact wy _ _
  rw[H];exact yT.nil a
 |x::l,rest,a,c,d,hN,hc,hd,hF=>by
  obtain⟨i,hi⟩:=gg ((a.e c (1-d)).1);obtain⟨p,Q⟩:=gg ((a.e c (1-d)).2);have hs:=(nu.jN (a.R i) p x).frN (hN.out i);obtain⟨s,Z⟩:=gg (jN (a.R i) p x);have u:a.pop c d x (l++rest)=(a.lv c d (l++rest)).op i s:=by unfold AN.pop;rw[hi,Q,Z]
  rw[Z]at hs;have M:Norm ((a.lv c d (l++rest)).op i s):=qW (a:=a.lv c d (l++rest)) hN i s;have U:(if c=c/\d=d then l++rest else a.F c d)=l++rest:=ai ⟨rfl,rfl⟩;have J:((a.lv c d (l++rest)).op i s).F c d=l++(if(c<a.nc/\d<2)/\(a.e c d).1=i then rest++jl (s.P (a.e c d).2)else rest):=by
   show(if(c<a.nc/\d<2)/\(a.e c d).1=i then(if c=c/\d=d then l++rest else a.F c d)++jl (s.P (a.e c d).2)else(if c=c/\d=d then l++rest else a.F c d))=_;rw[U];split<;>simp
  have ih:=adD l _ _ c d M hc hd J;have V:((a.lv c d (l++rest)).op i s).R i=s.core:=iE _ _ _;have Y:=ih;have A:((a.lv c d (l++rest)).op i s).e=a.e:=rfl;rw[A,hi,Q,V]at Y;have E:(((a.lv c d (l++rest)).op i s).lv c d (if(c<a.nc/\d<2)/\(a.e c d).1=i then rest++jl (s.P (a.e c d).2)else rest))=(a.lv c d rest).op i s:=by
   refine AN.ext' rfl rfl rfl rfl rfl rfl (funext λy=>funext λf=> ?_) rfl;rw[sQ,vF,vF,sQ,sQ,yS,yS,Dz,Dz];by_cases e:y=c/\f=d;{rw[ai e,ai e,e.1,e.2]};{rw[af e,af e,af e]}
  rw[E,ahb _ _ _ _ (λq=>(s.P q).rd) hs ((nu.takes l s.core p).frN λ_=>rfl),<-Bv,wO]at Y;rw[hi,Q];show yT c d (x::l) a ((a.lv c d rest).op i ((jN (a.R i) p x).takes p l));rw[Z];exact yT.cons (r:=l++rest) hc hd hF (by rw[u];exact Y)
theorem Fj {y:iM} (hF:jA y)(hE:Ends y)(c d k:Nat)(hc:c<y.nc)(hd:d<2):∃l rest,tU y c d=l++rest/\l=(kx (jW y c d) (((y.C c).on d).take k)).1/\iI (y.jq c d k)=((iI y).lv c d rest).op ((y.C c).e (1-d)).1 (((y.R ((y.C c).e (1-d)).1).core).takes ((y.C c).e (1-d)).2 l):=by
 obtain⟨i,hi⟩:=gg (((y.C c).e (1-d)).1);obtain⟨p,U⟩:=gg (((y.C c).e (1-d)).2);obtain⟨A,hA⟩:=gg (kx ((y.R i).P p).rd (((y.C c).on d).take k));have H:jW y c d=((y.R i).P p).rd:=by unfold jW;rw[hi,U]
 have M:(kx (jW y c d) ((y.C c).on d)).1=A.1++(kx A.2.2 (((y.C c).on d).drop k)).1:=by
  have:=ru (jW y c d) (((y.C c).on d).take k) (((y.C c).on d).drop k);rw[cL,H,hA]at this;rw[H,this]
 refine⟨A.1,(kx A.2.2 (((y.C c).on d).drop k)).1++jl ((y.R ((y.C c).e d).1).P ((y.C c).e d).2),?_,by rw[H,hA],?_⟩;{unfold tU;rw[M,aD]}
 rw[hi,U];have V:(y.R i).recv p (((y.C c).on d).take k)=(((y.R i).core).takes p A.1).pat (jU (λq=>((y.R i).P q).rd) p A.2.2) (λq=>((y.R i).P q).out) (y.R i).j8:=by
  rw[<-Bv];unfold iN.recv;simp only;rw[hA];congr 1;unfold iN.iU iN.pat iN.core jv.pt;simp only[gQ];congr 1
  funext q
  by_cases e:q=p;{subst e;rw[jy,iE]};{rw[jr _ _ e,iC _ _ e]}
 have hs:=(nu.takes A.1 (y.R i).core p).frN λ_=>rfl;obtain⟨s,u⟩:=gg (((y.R i).core).takes p A.1);rw[u]at V hs⊢;have Q:∀j,(y.jq c d k).R j=if j=i then(y.R i).recv p (((y.C c).on d).take k)else y.R j:=λj=>by
  unfold iM.jq;rw[hi,U];rfl
 have Y:∀x,((y.jq c d k).C x).e=(y.C x).e:=λx=>((rz y c d k).2.2.2 x).1;have E:∀x e,((y.jq c d k).C x).on e=if x=c/\e=d then((y.C c).on d).drop k else(y.C x).on e:=λx e=>by
  show((if x=c then {y.C c with on:=jU (y.C c).on d (((y.C c).on d).drop k)}else y.C x):qC).on e=_;by_cases ex:x=c;{rw[ai ex];show jU (y.C c).on d _ e=_;by_cases ed:e=d;{rw[ed,iE,ai ⟨ex,rfl⟩]};{rw[iC _ _ ed,af (λh=>ed h.2),ex]}};{rw[af ex,af (λh=>ex h.1)]}
 refine AN.ext' rfl rfl (funext Y) rfl (funext λx=>Fc y c d k x) (funext λj=> ?_) (funext λx=>funext λf=> ?_) (funext λj=> ?_);{show((y.jq c d k).R j).core=jU _ i s.core j;rw[Q];by_cases e:j=i;{subst e;rw[ai rfl,iE,V,L6]};{rw[af e,iC _ _ e];rfl}}
 ·show(if x<y.nc/\f<2 then tU (y.jq c d k) x f else [])=if(x<y.nc/\f<2)/\((y.C x).e f).1=i then(if x=c/\f=d then _ else if x<y.nc/\f<2 then tU y x f else [])++jl (s.P ((y.C x).e f).2)else if x=c/\f=d then _ else if x<y.nc/\f<2 then tU y x f else []
  by_cases hx:x<y.nc/\f<2
  ·rw[ai hx];have hq:tU (y.jq c d k) x f=(if x=c/\f=d then(kx A.2.2 (((y.C c).on d).drop k)).1 else(kx (jW y x f) ((y.C x).on f)).1)++(if((y.C x).e f).1=i then jl ((y.R ((y.C x).e f).1).P ((y.C x).e f).2)++jl (s.P ((y.C x).e f).2)else jl ((y.R ((y.C x).e f).1).P ((y.C x).e f).2)):=by
    unfold tU;congr 1
    ·unfold jW;rw[Y,Q,E];by_cases e:x=c/\f=d
     ·rw[ai e,ai e,e.1,e.2,hi,ai rfl,V,U];have:((s.pat (jU (λq=>((y.R i).P q).rd) p A.2.2) (λq=>((y.R i).P q).out) (y.R i).j8).P p).rd=A.2.2:=by
       show jU (λq=>((y.R i).P q).rd) p A.2.2 p=_;rw[iE]
      rw[this]
     ·rw[af e,af e];by_cases Z:((y.C x).e (1-f)).1=i
      ·have J:((y.C x).e (1-f)).2≠p:=λJ=>by
        have:=hE.ds x (1-f) c (1-d) hx.1 dZ hc dZ (aV (Z.trans hi.symm) (J.trans U.symm));exact e ⟨this.1,dZ⟩
       rw[ai Z,V,Z];have:((s.pat (jU (λq=>((y.R i).P q).rd) p A.2.2) (λq=>((y.R i).P q).out) (y.R i).j8).P ((y.C x).e (1-f)).2).rd=((y.R i).P ((y.C x).e (1-f)).2).rd:=by
        show jU (λq=>((y.R i).P q).rd) p A.2.2 ((y.C x).e (1-f)).2=_;rw[iC _ _ J]
       rw[this]
      ·rw[af Z]
    ·rw[Y,Q];by_cases Z:((y.C x).e f).1=i;{rw[ai Z,ai Z,V,Z];obtain⟨ps,G⟩:=hF.o i ((y.C x).e f).2;show jl ((s.P ((y.C x).e f).2).pt _ _)=_;rw[(zX G (hs _) _).1,m9 G]};{rw[af Z,af Z]}
   rw[hq];by_cases e:x=c/\f=d;{rw[ai e,ai e,<-e.1,<-e.2];by_cases Z:((y.C x).e f).1=i;{rw[ai Z,ai ⟨hx,Z⟩,aD]};{rw[af Z,af (λh=>Z h.2)]}};{rw[af e,af e,ai hx];unfold tU;by_cases Z:((y.C x).e f).1=i;{rw[ai Z,ai ⟨hx,Z⟩,aD]};{rw[af Z,af (λh=>Z h.2)]}}
  ·rw[af hx,af (λh=>hx h.1),af (λh=>hx ⟨by rw[h.1];exact hc,by rw[h.2];exact hd⟩),af hx]
 ·show y.j8 j++((y.jq c d k).R j).j8=jU _ i _ j;rw[Q];by_cases e:j=i;{subst e;rw[ai rfl,iE,V];show y.j8 j++((y.R j).j8++s.j8)=(y.j8 j++(y.R j).j8)++s.j8;rw[aD]};{rw[af e,iC _ _ e];rfl}
theorem Ws:((fW 10).all λs=>(lp s 1).1.all λc=>c==115||c==100)=true:=by decide+kernel
theorem Mc(zh:kN):∀(l:List UInt8) (s:LS),l.all (λc=>c==115||c==100)=true->yk l s zh=[]
 |[],_,_=>rfl
 |c::r,s,h=>by
  rw[List.all_cons,Bool.and_eq_true]at h;show Gg c s zh++yk r _ zh=[]
  rw[Mc zh r _ h.2,aB];have Z:c=115 \/c=100:=by simpa using h.1
  rcases Z with rfl|rfl<;>rfl
theorem Md(h:ux s.st=true):(kY s 1).2.1=[] :=by
 obtain⟨k,U,Y⟩:=Dx h;have Z:=(tH h).1;have e:kY s 1=sY s 1 (0,0,[]):=rfl;rw[e]at Z⊢;have V:(jh s.st 1).2.2=0:=by
  by_cases g:(jh s.st 1).2.2=0;{exact g};{rw[wa _ g]at Z;exact absurd Z g}
 rw[tP _ V];show yk (jh s.st 1).1 _ _=[]
 rw[U,show jh (k:Int) 1=lp k 1 from nA k 1 Y ew];exact Mc _ _ _ (aZ.1 Ws k (aP.2 Y))
theorem JF(r:iN)(p:Nat)(up:Bool)(q:Nat)(Z:q≠p):((r.iH p up).1.P q).out=(r.P q).out:=by
 unfold iN.iH;simp only;split;{rfl};{rw[(mV _ p nobody).2.2.2];rw[jr _ _ Z];show(k9 r.P p _ q).out=_;rw[jr _ _ Z]}
theorem Fk {r:iN} (h:ux (r.P p).L.st=true):((r.iH p false).1.P p).out=(r.P p).out:=by
 unfold iN.iH jv.iH;simp only[Bool.false_eq_true,if_false];rw[Md h,(tH h).1];simp only[ne_eq,not_true_eq_false,if_false];rw[(mV _ p nobody).2.2.2,jy];show(k9 r.P p _ p).out=_;rw[jy];rfl
theorem P8 {L:LS} {up:Bool} (h:if(!up)=true then ux L.st=true else L.st=1):(kY L (if up=true then 0 else 1)).2.2=0:=by
 cases up;{exact(tH (by simpa using h)).1};{exact(Ee (by simpa using h)).1}
theorem nu.aa8 {s:iN} {up:Bool} (hs:∀p,(s.P p).out=[])(V:(kY (s.P i).L (if up=true then 0 else 1)).2.2=0):∀p,∃ps,Frames ((s.iH i up).1.P p).out ps:=λp=>by
 have e:(s.P i).iH up=(({s.P i with L:=(kY (s.P i).L (if up=true then 0 else 1)).1,rd:=([],false,false)}:jv).say (kY (s.P i).L (if up=true then 0 else 1)).2.1,0):=by
  unfold jv.iH;simp only;rw[af (by simp[V])]
 unfold iN.iH;rw[e];simp only;rw[af gU];obtain⟨x,hx⟩:=gg (({s.P i with L:=(kY (s.P i).L (if up=true then 0 else 1)).1,rd:=([],false,false)}:jv).say (kY (s.P i).L (if up=true then 0 else 1)).2.1);have Y:r9 {s.P i with L:=(kY (s.P i).L (if up=true then 0 else 1)).1,rd:=([],false,false)} x:=by rw[<-hx];exact r9.say _ _
 rw[hx,(mV _ i nobody).2.2.2];by_cases Z:p=i;{subst Z;rw[jy];show∃ps,Frames (k9 s.P p x p).out ps;rw[jy];obtain⟨qs,U⟩:=Y.out [] (by show Frames (s.P p).out [];rw[hs];exact Frames.nil);exact⟨_,U⟩};{rw[jr _ _ Z];show∃ps,Frames (k9 s.P i x p).out ps;rw[jr _ _ Z,hs];exact⟨[],Frames.nil⟩}
theorem SF {y:iM} (hF:∀i p,∃ps,Frames ((y.R i).P p).out ps)(hG:GN y)(hE:Ends y)(c:Nat)(up:Bool)(hc:c<y.nc)(hu:(y.C c).iQ= !up)(ho:∀d,d<2->((y.R ((y.C c).e d).1).P ((y.C c).e d).2).out=[]):iI (y.jZ c up)=(iI y).iH c up/\(∀i p,(∀d,d<2->(y.C c).e d≠(i,p))->(((y.jZ c up).R i).P p).out=((y.R i).P p).out)/\(up=false->∀d,d<2->(((y.jZ c up).R ((y.C c).e d).1).P ((y.C c).e d).2).out=[]):=by
 have e0:=hG.ends c 0 hc ew;have e1:=hG.ends c 1 hc ew;have o0:=ho 0 ew;have o1:=ho 1 ew;rw[hu]at e0 e1;have jt:(y.C c).e 0≠(y.C c).e 1:=λh=>by
  have:=(hE.ds c 0 c 1 hc ew hc ew h).2;omega
 obtain⟨z,u⟩:=gg (y.lq c {y.C c with iQ:=up,on:=λ_=>[] });have V:∀x,z.C x=if x=c then {y.C c with iQ:=up,on:=λ_=>[] }else y.C x:=λx=>by rw[<-u];rfl
 have Q:∀x,(z.C x).e=(y.C x).e:=λx=>by rw[V];split<;>simp_all
 have Y:z.R=y.R:=by rw[<-u];rfl
 have Zr:z.nc=y.nc:=by rw[<-u];rfl
 have ahc:∀d,(z.C c).on d=[] :=λd=>by rw[V,ai rfl]
 have og:iI z=(({iI y with iQ:=jU (iI y).iQ c up}:AN).lv c 0 []).lv c 1 [] :=by
  refine AN.ext' (by rw[<-u];rfl) Zr (funext Q) (by rw[<-u];rfl) (funext λx=> ?_) (funext λj=> ?_) (funext λx=>funext λf=> ?_) (by rw[<-u];rfl);{show(z.C x).iQ=jU _ c up x;rw[V];by_cases e:x=c;{subst e;rw[ai rfl,iE]};{rw[af e,iC _ _ e];rfl}};{show(z.R j).core=(y.R j).core;rw[Y]}
  ·show(if x<z.nc/\f<2 then tU z x f else [])=if x=c/\f=1 then []else if x=c/\f=0 then []else if x<y.nc/\f<2 then tU y x f else []
   rw[Zr];by_cases U:x<y.nc/\f<2
   ·rw[ai U,ai U];by_cases e:x=c
    ·subst e;have:tU z x f=[] :=by
      unfold tU;rw[ahc,Q,Y,jz (ho f U.2)];rfl
     rw[this];split;{rfl};{split;{rfl};{omega}}
    ·rw[af (λh=>e h.1),af (λh=>e h.1)];unfold tU jW;rw[V,af e,Y]
   ·rw[af U,af (λh=>U ⟨by rw[h.1];exact hc,dZ⟩),af (λh=>U ⟨by rw[h.1];exact hc,dZ⟩),af U]
 obtain⟨i,hi⟩:=gg (((y.C c).e 0).1);obtain⟨p,E⟩:=gg (((y.C c).e 0).2);obtain⟨j,G⟩:=gg (((y.C c).e 1).1);obtain⟨q,A⟩:=gg (((y.C c).e 1).2);rw[hi,E]at e0 o0;rw[G,A]at e1 o1;have hpq:i=j->p≠q:=λh1 h2=>jt (aV (by rw[hi,G,h1]) (by rw[E,A,h2]));have d0:=P8 e0.st;have d1:=P8 e1.st;have k1:((z.R i).iH p up).1=(((z.R i).core.iH p up).1).pat (jU (λs=>((z.R i).P s).rd) p lH) (λs=>((z.R i).P s).out) (z.R i).j8:=by
  have:=L8 (λs=>((z.R i).P s).rd) (λs=>((z.R i).P s).out) (z.R i).j8 (z.R i).core p up (by rw[Y];exact d0);rw[wO]at this;exact this
 have f1:∀s,∃ps,Frames (((z.R i).core.iH p up).1.P s).out ps:=nu.aa8 (s:=(z.R i).core) (λ_=>rfl) (by rw[Y];exact d0);have hrd:∀(w:iM),w.nc=y.nc->(∀x,(w.C x)=z.C x)->∀d0:Nat,d0<2->∀x f,x<w.nc->f<2->((w.C x).e (1-f)).1=((y.C c).e d0).1->jU (λs=>((w.R ((y.C c).e d0).1).P s).rd) ((y.C c).e d0).2 lH ((w.C x).e (1-f)).2=((w.R ((y.C c).e d0).1).P ((w.C x).e (1-f)).2).rd \/(w.C x).on f=[] :=λw hw hwC d0 hd0 x f hx hf Wo=>by
  by_cases e:((w.C x).e (1-f)).2=((y.C c).e d0).2;{refine .inr ?_;rw[hwC,Q]at Wo e;have:=hE.ds x (1-f) c d0 (by rw[<-hw];exact hx) dZ hc hd0 (aV Wo e);rw[hwC,this.1];exact ahc f};{rw[iC _ _ e];exact .inl rfl}
 have a1:=JE (y:=z) (by rw[Y];exact hF) i _ k1 (by have:=hrd z Zr (λ_=>rfl) 0 ew;rw[hi,E]at this;exact this) f1;obtain⟨Z,mZ⟩:=gg (z.jB i ((z.R i).iH p up).1);have M:∀x,Z.C x=z.C x:=λx=>by rw[<-mZ];rfl
 have J:∀k,Z.R k=if k=i then((z.R i).iH p up).1 else z.R k:=λk=>by rw[<-mZ];rfl
 have Zs:∀k s,¬(k=i/\s=p)->((Z.R k).P s).L=((y.R k).P s).L/\((Z.R k).P s).out=((y.R k).P s).out:=λk s h=>by
  rw[J];by_cases e:k=i;{rw[ai e,e,Y];have hs:s≠p:=λh2=>h ⟨e,h2⟩;exact⟨((xC (up:=up) p (by simpa using e0)).2.2 s hs).1,JF _ _ _ _ hs⟩};{rw[af e,Y];exact⟨rfl,rfl⟩}
 have L1:=Zs j q (λh=>hpq h.1.symm h.2.symm);have k2:((Z.R j).iH q up).1=(((Z.R j).core.iH q up).1).pat (jU (λs=>((Z.R j).P s).rd) q lH) (λs=>((Z.R j).P s).out) (Z.R j).j8:=by
  have:=L8 (λs=>((Z.R j).P s).rd) (λs=>((Z.R j).P s).out) (Z.R j).j8 (Z.R j).core q up (by show(kY ((Z.R j).P q).L _).2.2=0;rw[L1.1];exact d1);rw[wO]at this;exact this
 have f2:∀s,∃ps,Frames (((Z.R j).core.iH q up).1.P s).out ps:=nu.aa8 (s:=(Z.R j).core) (λ_=>rfl) (by show(kY ((Z.R j).P q).L _).2.2=0;rw[L1.1];exact d1);have al3:∀k s,∃ps,Frames ((Z.R k).P s).out ps:=λk s=>by
  by_cases e:k=i/\s=p;{rw[J,ai e.1,k1,e.2];obtain⟨ps,uF⟩:=hF i p;have:=(zX uF (f1 p) (jU (λs=>((z.R i).P s).rd) p lH p)).2;rw[<-Y]at this;exact this};{rw[(Zs k s e).2];exact hF k s}
 have a2:=JE (y:=Z) al3 j _ k2 (by have:=hrd Z (by rw[<-mZ];exact Zr) M 1 ew;rw[G,A]at this;exact this) f2;have ui:y.jZ c up=Z.jB j ((Z.R j).iH q up).1:=by
  unfold iM.jZ;rw[u];have t1:z.mU c 0 up=Z:=by unfold iM.mU;rw[Q,hi,E,mZ]
  rw[t1];unfold iM.mU;rw[M,Q,G,A]
 have H:∀k,(y.jZ c up).R k=if k=j then((Z.R j).iH q up).1 else Z.R k:=λk=>by rw[ui];rfl
 refine⟨?_,λk s hks=> ?_,λhup d hd=> ?_⟩
 ·rw[ui,a2,<-mZ,a1];unfold AN.iH;rw[<-og];have t1:(iI z).nI c 0 up=(iI z).op i ((z.R i).core.iH p up).1:=by
   have ez:(iI z).e c=(y.C c).e:=Q c;unfold AN.nI;rw[ez,hi,E];rfl
  rw[t1,<-a1,mZ];have ez:(iI Z).e c=(y.C c).e:=by show(Z.C c).e=_;rw[M,Q]
  unfold AN.nI;rw[ez,G,A];rfl
 ·have h0:¬(k=i/\s=p):=λh=>hks 0 ew (aV (hi.trans h.1.symm) (E.trans h.2.symm));have h1:¬(k=j/\s=q):=λh=>hks 1 ew (aV (G.trans h.1.symm) (A.trans h.2.symm));rw[H];by_cases e:k=j;{rw[ai e,JF _ _ _ _ (λh=>h1 ⟨e,h⟩),<-e];exact(Zs k s h0).2};{rw[af e];exact(Zs k s h0).2}
 ·subst hup;have u0:ux ((y.R i).P p).L.st=true:=by simpa using e0.st
  have u1:ux ((y.R j).P q).L.st=true:=by simpa using e1.st
  have GH:d=0 \/d=1:=dZ;have hA:((Z.R i).P p).out=[] :=by
   rw[J,ai rfl,Fk (by rw[Y];exact u0),Y];exact o0
  rcases GH with rfl|rfl
  {rw[hi,E,H];by_cases e:i=j;{rw[ai e,JF _ _ _ _ (hpq e),<-e];exact hA};{rw[af e];exact hA}};{rw[G,A,H,ai rfl,Fk (by rw[L1.1];exact u1),L1.2];exact o1}
structure oO(w0 w:World)(N:Nat)(X:Nat->Prop)(n:iM):Prop where
 ex:∃y,jF w y n/\y.N=N/\(∀b,y.all n.n b->w0.heap.size<=b)/\∀b,y.ext b↔X b
 nQ:eB w0 w
theorem oO.Wu(h:Sn w many L X e w')(Z:nO many L=0)(hb:eB w0 w):∃N,e=ρ (τ #[π (μ ⟨N,0,ν⟩),η])/\oO w0 w' N X (jM many.toNat L):=by
 obtain⟨_,Y,V⟩:=h;obtain⟨y,M,U,Q,hx⟩:=Y Z;exact⟨y.N,M,⟨y,U,rfl,λb J=>Nat.le_trans hb.size (Q b J),hx⟩,gh hb V⟩
theorem oO.adI(h:Sn w many L X e w')(Z:nO many L≠0)(hb:eB w0 w):e=ρ (τ #[π ν,ji (nO many L)])/\eB w0 w':=by
 obtain⟨Y,_,V⟩:=h;exact⟨Y Z,gh hb V⟩
theorem oO.still {n:iM} (h:oO w0 w N X n)(hb:eB w w'):oO w0 w' N X n:=by
 obtain⟨⟨y,Y,Z,V,hx⟩,U⟩:=h;exact⟨⟨y,Y.below hb,Z,V,hx⟩,gh U hb⟩
theorem oO.tab {n:iM} (h:oO w0 w N X n)(Z:jf w0):jf w:=Z.below h.nQ
theorem oO.went {y:Yt} {n n':iM} (U:jF W y n)(Q:∀b,y.all n.n b->w0.heap.size<=b)(hx:∀b,y.ext b↔X b)(hb:eB w0 W)(E:n'.n=n.n)(h:iF W w' y n' n.n):
 oO w0 w' y.N X n'/\∀b,X b->w'.heap[b]? =W.heap[b]? :=by
 obtain⟨⟨y',M,hs,G,J⟩,Y⟩:=h;have A:∀b,X b->b<W.heap.size:=λb Z=>U.lt (.inr ((hx b).2 Z));have V:∀b,X b->¬y.all n.n b:=λb Z e=>by
  rcases e with e|⟨j,H,e⟩
  {exact U.nx b ((hx b).2 Z) e};{exact U.Lr H (.inr (.inl ((hx b).2 Z))) e}
 refine⟨⟨⟨y',M,hs.N,λb Z=> ?_,λb=>(J b).trans (hx b)⟩,?_⟩,λb Z=>Y.block b (A b Z) (V b Z)⟩
 ·rw[E]at Z;rcases G b Z with e|e
  {exact Q b e};{exact Nat.le_trans hb.size e}
 ·refine⟨Y.os.trans hb.os,Y.tape.trans hb.tape,Y.output.trans hb.output,Nat.le_trans hb.size Y.size,λb Z=> ?_⟩;refine(Y.block b (Nat.lt_of_lt_of_le Z hb.size) (λe=> ?_)).trans (hb.block b Z);have:=Q b e;omega
theorem oO.call {n n':iM} {f:FuncId} {args:Array Value} {E:Ending->Prop} (h:oO w0 W N X n)(Q:n'.n=n.n)
 (k:∀y,jF W y n->y.N=N->eX eY f args W λe w'=>E e/\iF W w' y n' n.n):eX eY f args W λe w'=>E e/\oO w0 w' N X n'/\∀b,X b->w'.heap[b]? =W.heap[b]? :=by
 obtain⟨⟨y,Y,Z,V,hx⟩,hb⟩:=h;refine(k y Y Z).mono ?_;rintro e w' ⟨U,M⟩;have:=oO.went Y V hx hb Q M;rw[Z]at this;exact⟨U,this⟩
def iM.rounds(y:iM):Nat->iM
 |0=>y
 |k+1=>(y.rounds k).round
def XO:List ot:=[⟨1,0,2,0,3⟩]
def Oz:iM:=((jM 2 XO).iH 0 true).1
theorem Zu:mr ((Oz.rounds 6).R 1)=[⟨1,3,1⟩] :=gS
theorem Zv:((jM 2 XO).iH 0 true).2=0:=gS
theorem OA:nO 2 XO=0:=gS
theorem Me(y:iM):∀k,(y.rounds k).n=y.n
 |0=>rfl
 |k+1=>(kI (y.rounds k)).1.trans (Me y k)
theorem Bw {y:iM} {D:Nat} (h:j3 y D 0)(Z:D<=100000000):∀k,k<=100->j3 (y.rounds k) (D+1300000*k) 0
 |0,_=>h
 |k+1,hk=>((Bw h Z k dZ).round dZ).mono dZ (Nat.le_refl _)
theorem aa9:j3 Oz 2 0:=(zV (uU OA)).iH dZ 0 true
theorem SG(w:World)(hT:jf w):eX eY 42 #[] w λe w'=>e=ρ (.bool true)/\eB w w':=by
 obtain⟨W0,nX⟩:=gg (w.alloc (γ #[ι κ 1,ι κ 0,ι κ 2,ι κ 0,ι κ 3] 81));have hb:=gT w (γ #[ι κ 1,ι κ 0,ι κ 2,ι κ 0,ι κ 3] 81);have hc:=λj=>aq w #[ι κ 1,ι κ 0,ι κ 2,ι κ 0,ι κ 3] 81 (0,0) j;rw[nX]at hb;rw[nX]at hc;have hL:zT W0 (μ ⟨w.heap.size,0,ν⟩) XO:=λj A=>by
  obtain rfl:j=0:=by simp[XO]at A;exact A
  exact⟨w.heap.size,0,rfl,hc 0,hc 1,hc 2,hc 3,hc 4⟩
 have jk:eX eY 36 #[ι κ 2,σ (μ ⟨w.heap.size,0,ν⟩) 1 1] W0 λe w'=>∃N,e=ρ (τ #[π (μ ⟨N,0,ν⟩),η])/\oO w w' N (λ_=>False) (jM 2 XO):=by
  refine(P5 2 (μ ⟨w.heap.size,0,ν⟩) 1 XO W0 hL ew (jf.below (w:=w) hT hb) (λ_=>False) (λb qo=>qo.elim)).mono ?_;rintro e w' h;exact oO.Wu h OA hb
 have zY:∀W N,oO w W N (λ_=>False) (jM 2 XO)->eX eY 57 #[π (μ ⟨N,0,ν⟩),ι κ 0,.bool true] W λe w'=>e=ρ η/\oO w w' N (λ_=>False) (Oz.rounds 0):=by
  intro W N hA;refine(hA.call (E:=λe=>e=ρ η) (n':=Oz) rfl λy U M=> ?_).mono (λe w' h=>⟨h.1,h.2.1⟩);rw[<-M];refine(EY y (jM 2 XO) 0 0 true W U (hA.tab hT) (zV (uU OA)) dZ).mono ?_;rintro e w' ⟨rfl,hw⟩;rw[Zv];exact⟨rfl,hw⟩
 have Fm:∀W N k,k<6->oO w W N (λ_=>False) (Oz.rounds k)->eX eY 54 #[π (μ ⟨N,0,ν⟩)] W λe w'=>e=ρ (τ #[])/\oO w w' N (λ_=>False) (Oz.rounds (k+1)):=by
  intro W N k hk hA;refine(hA.call (E:=λe=>e=ρ (τ #[])) (n':=Oz.rounds (k+1)) (kI (Oz.rounds k)).1 λy U M=> ?_).mono (λe w' h=>⟨h.1,h.2.1⟩);rw[<-M];exact Bp y (Oz.rounds k) (2+1300000*k) W U (hA.tab hT) (Bw aa9 dZ k dZ) dZ
 have JG:∀W N,oO w W N (λ_=>False) (Oz.rounds 6)->eX eY 40 #[π (μ ⟨N,0,ν⟩),ι κ 2] W λe w'=>∃R,e=ρ (τ #[π (μ ⟨R,0,ν⟩),η])/\eB w w'/\eX eY 64 #[π (μ ⟨R,0,ν⟩)] w' λe w2=>∃b c,e=ρ (σ b 1 c)/\Pk w2 b 1 [⟨1,3,1⟩] /\eB w w2:=by
  intro W N hA;obtain⟨⟨y,U,M,ha,hx⟩,iL⟩:=hA;rw[<-M];have hn:(Oz.rounds 6).n=2:=Me Oz 6;refine(EV y (Oz.rounds 6) 1 W U (by rw[hn];decide)).mono ?_;rintro e w' ⟨rfl,rfl⟩;refine⟨(y.z 1).R,rfl,iL,?_⟩;have iO:=(Bw aa9 dZ 6 dZ).ok 1 (by rw[hn];decide);refine(Bf (y.z 1) ((Oz.rounds 6).R 1) W (U.rt 1 (by rw[hn];decide)) iO.PE).mono ?_;rintro e w2 ⟨b,c,rfl,⟨Y,_⟩,u⟩;rw[Zu]at Y⊢;exact⟨b,c,rfl,Y,gh iL u⟩
 have kr:∀W b c W2,eB w W->Pk W b 1 [⟨1,3,1⟩]->W2=W.alloc (γ #[ι κ 1,ι κ 3,ι κ 1] 98)->eX eY 46 #[σ b 1 c,σ (μ ⟨W.heap.size,0,ν⟩) 1 1] W2 λe w'=>e=ρ (.bool true)/\eB w w':=by
  rintro W b c W2 hbW Y rfl;have u:=gT W (γ #[ι κ 1,ι κ 3,ι κ 1] 98);have Nm:=λj=>aq W #[ι κ 1,ι κ 3,ι κ 1] 98 (0,0) j;refine(zu b (μ ⟨W.heap.size,0,ν⟩) 1 c 1 [⟨1,3,1⟩] _ (Y.below u) ⟨rfl,.inr ⟨W.heap.size,0,rfl,λj h A=> ?_⟩⟩ dZ).mono ?_
  ·obtain⟨l,v⟩:=aK.1 A;obtain rfl:j=0:=by simp at l;exact l
   obtain rfl:_=h:=v;exact⟨Nm 0,Nm 1,Nm 2⟩
  ·rintro e w' ⟨rfl,sg⟩;exact⟨rfl,gh hbW (gh u sg)⟩
 have Gz:Hid _:=nX;have HR:Hid _:=Fm;obtain⟨Q,hQ⟩:∃Q:Nat->iM,Q=Oz.rounds:=⟨_,rfl⟩
 clear nX hb hc hL Fm;rw[<-hQ]at zY HR JG;generalize jM 2 XO=z0 at jk zY;clear hQ
 go_in
 go_wp2_with(fail)
 try rw[Gz.out]
 go_wp2_with(fail);refine jk.mono ?_;rintro e w1 ⟨N,rfl,hA⟩;have h1:=zY w1 N hA;clear jk zY hA;go_wp2_with(fail);refine h1.mono ?_;rintro e w2 ⟨rfl,hA⟩;have HA:Hid _:=hA;clear h1 hA
 go_wp2
 go_loopw [3] (λx wr=>∃k:Nat,k<=6/\x=ι κ k/\oO w wr N (λ_=>False) (Q k)) (λx _=>6-(intOf x).toNat)
 case atStart=>exact⟨0,Nat.zero_le _,rfl,HA.out⟩
 case round=>
  obtain⟨k,hk,rfl,Z⟩:=hrel;obtain⟨V,rfl⟩:∃V,V=wr:=⟨_,rfl⟩
  by_cases kA:k<6
  ·have nL:(k:Int)<6:=dZ;have G:=HR.out V N k kA Z;clear Z;go_wp2_with(fail);refine G.mono ?_;rintro e w3 ⟨rfl,hA3⟩;have HA3:Hid _:=hA3;clear G hA3
   go_wp2
   go_roundw
   case rel=>exact⟨k+1,dZ,by go_num,HA3.out⟩
   case measure=>simp[intOf];omega
  ·have xL:¬(k:Int)<6:=dZ;obtain rfl:k=6:=dZ;have G:=JG V N Z;clear Z JG;go_wp2_with(fail);refine G.mono ?_;rintro e w3 ⟨R,rfl,sg,hh⟩;have J9:Hid _:=sg;clear G sg;go_wp2_with(fail);refine hh.mono ?_;rintro e w4 ⟨b,c,rfl,Y,J⟩;obtain⟨W5,MF⟩:∃W5,W5=w4.alloc (γ #[ι κ 1,ι κ 3,ι κ 1] 98):=⟨_,rfl⟩
   have hs:=kr w4 b c W5 J Y MF;have HW5:Hid _:=MF.symm;clear hh Y J kr MF;go_wp2_with(fail)
   try rw[HW5.out]
   go_wp2_with(fail);refine hs.mono ?_;rintro e w6 ⟨rfl,H⟩;have Wv:Hid _:=H;clear hs H
   go_wp2
   go_ret;exact⟨rfl,Wv.out⟩
theorem Db(a:Option Addr)(n cap:Nat)(w:World)(_hn:n<=maxLen):eX eY 35 #[σ a n cap] w λe w'=>e=ρ (.bool (decide (n<=12)))/\w=w':=by
 by_cases h:n<=12
 ·have Z:(n:Int)<=12:=dZ
  go_in
  go_wp2
  go_ret;exact⟨by simp[h],rfl⟩
 ·have Z:¬(n:Int)<=12:=dZ
  go_in
  go_wp2
  go_ret;exact⟨gU,rfl⟩
