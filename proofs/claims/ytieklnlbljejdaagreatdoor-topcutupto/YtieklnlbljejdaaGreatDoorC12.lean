import Derived.Test.YtieklnlbljejdaaGreatDoorC11
open Go.Value renaming int → ι, slice → σ, pointer → π, tuple → τ, nilIface → η, bool → iu
open Go.IntKind renaming i64 → κ
open Go.Ending renaming returned → ρ
open Go.Obj renaming cells → γ
open Option renaming none → ν, some → μ
open List renaming mem_cons → ic, not_mem_nil → ig, length_cons → eQ, range → fW, mem_singleton → ik, range_succ → il, map_cons → eI, sum_cons → iq
open Go renaming World → dX, Calls → eX
open Go.Proofs.Tryz renaming prog → eY, results43 → iw
open Go.Instr renaming makeSlice → gW
open BitVec renaming ofInt → fa
set_option maxRecDepth 100000
set_option maxHeartbeats 8000000
namespace Go.Proofs.YtieklnlbljejdaaGreatDoor
open Go.RowKit St
namespace Rt
variable {B C D N c d i k m:Nat} {L:LS} {S:List (Int×List UInt8)} {T:List (Nat×Nat)} {V:Nat->AV} {W' w w0:World} {X:Nat->Prop} {code g g' id:Int} {l:List UInt8} {n y:iM} {p:jv} {r s:iN} {x:la} {α:Type}
theorem j3.Zw(h:j3 y D 0):∀c d,c<y.nc->d<2->((y.R ((y.C c).e d).1).P ((y.C c).e d).2).out=[] :=λc d hc hd=>by
 obtain⟨Z,Y⟩:=h.en c d hc hd;exact aH (by have:=(h.fit _ Z).2 _ Y;omega)
theorem DA(Z:GN y)(hc:c<y.nc)(hi:(y.C c).iQ=false)(Y:∀d,d<2->((y.R ((y.C c).e d).1).P ((y.C c).e d).2).out=[])(hd:d<2):(iI y).F c d=[] :=by
 show(if c<y.nc/\d<2 then tU y c d else [])=[]
 rw[ai ⟨hc,hd⟩];unfold tU;rw[Z.off c d hc hd hi,jz (Y d hd)];rfl
def ny(y:iM)(l:List Nat):List (Nat×Nat):=l.flatMap λc=>[(y.C c).e 0,(y.C c).e 1]
theorem uV(up:Bool):∀(l:List Nat) {y:iM},jA y->GN y->Ends y->l.Nodup->(∀c∈l,c<y.nc/\(y.C c).iQ= !up)->(∀c∈l,∀d,d<2->((y.R ((y.C c).e d).1).P ((y.C c).e d).2).out=[])->
 jT (iI y) (if up=true then ny y l else []) [] (iI (y.jL up l))/\(up=false->(∀c d,c<y.nc->d<2->((y.R ((y.C c).e d).1).P ((y.C c).e d).2).out=[])->∀c d,c<y.nc->d<2->(((y.jL up l).R ((y.C c).e d).1).P ((y.C c).e d).2).out=[])
 |[],y,_,_,_,_,_,_=>⟨by cases up<;>exact jT.nil _,λ_ h=>h⟩
 |c::l,y,hF,hG,hE,xD,hm,ho=>by
  obtain⟨hc,hi⟩:=hm c gU;have Z:=ho c gU;obtain⟨a1,E,j⟩:=SF hF.o hG hE c up hc hi Z;obtain⟨s1,H,_,_,Y⟩:=pD y c up;have u:=hF.jZ hG hE c up hc hi;have M:=hG.jZ hE c up hc hi;have Q:=hE.jZ c up;have U:=bq.1 xD;have jt:∀x∈l,x≠c:=λx hx e=>U.1 (e▸hx);have xT:jT (iI y) (if up=true then [(y.C c).e 0,(y.C c).e 1]else []) [] (iI (y.jZ c up)):=by
   rw[a1];cases up;{exact jT.one (mR.draw c hc (show(y.C c).iQ=true by simpa using hi))};{exact jT.one (mR.iH c hc (show(y.C c).iQ=false by simpa using hi) (DA hG hc (by simpa using hi) Z ew) (DA hG hc (by simpa using hi) Z ew))}
  obtain⟨y1,G⟩:=gg (y.jZ c up);rw[G]at E j H Y u M Q xT;obtain⟨p1,p2⟩:=uV up l (y:=y1) u M Q U.2 (λx hx=>⟨by rw[H];exact(hm x (by simp[hx])).1,by rw[(Y x).2,af (jt x hx)];exact(hm x (by simp[hx])).2⟩) (λx hx d hd=>by
   rw[(Y x).1];rw[E _ _ (λd' A h=>(jt x hx) (hE.ds x d c d' (hm x (by simp[hx])).1 hd hc A h.symm).1)];exact ho x (by simp[hx]) d hd)
  have hP:ny y1 l=ny y l:=by unfold ny;congr 1;funext x;rw[(Y x).1]
  refine⟨?_,λJ nN x d hx hd=> ?_⟩;{have:=xT.trans p1;rw[hP]at this;show jT _ _ _ (iI ((y.jZ c up).jL up l));rw[G];cases up;{simpa using this};{simpa[ny]using this}}
  ·show(((y.jZ c up).jL up l).R _|>.P _).out=[]
   rw[G];have:=p2 J (λx d hx hd=>by
    rw[(Y x).1];have vE:x<y.nc:=by rw[<-H];exact hx
    by_cases e:x=c;{subst e;exact j J d hd}
    ·rw[E _ _ (λd' A h=>e (hE.ds x d c d' vE hd hc A h.symm).1)];exact nN x d vE hd) x d (by rw[H];exact hx) hd
   rw[(Y x).1]at this;exact this
structure SH(T:List (Nat×Nat)):Prop where
 nd:T.Nodup
 len:T.length<=18
theorem SH.nil:SH [] :=⟨cZ,gU⟩
theorem wT {y:iM} (Y:Ends y):∀l:List Nat,l.Nodup->(∀c∈l,c<y.nc)->(ny y l).Nodup/\(ny y l).length=2*l.length
 |[],_,_=>⟨by simp[ny],rfl⟩
 |c::l,xD,hm=>by
  have Q:=bq.1 xD;obtain⟨a,b⟩:=wT Y l Q.2 λx hx=>hm x (by simp[hx]);have hc:=hm c gU;have e:ny y (c::l)=(y.C c).e 0::(y.C c).e 1::ny y l:=by simp[ny]
  have M:∀d,d<2->(y.C c).e d∉ny y l:=λd hd hx=>by
   obtain⟨x,Z,U⟩:=aT.1 hx;have J:=hm x (by simp[Z]);have:(∃f,f<2/\(y.C c).e d=(y.C x).e f):=by
    simp only[ic,ig,or_false]at U;rcases U with h|h
    {exact⟨0,ew,h⟩};{exact⟨1,ew,h⟩}
   obtain⟨f,hf,h⟩:=this;exact Q.1 ((Y.ds c d x f hc hd J hf h).1▸Z)
  refine⟨?_,by rw[e];simp only[eQ,b];omega⟩;rw[e,bq,bq];refine⟨λhx=> ?_,M 1 ew,a⟩;rcases aO.1 hx with h|h
  {have:=(Y.ds c 0 c 1 hc ew hc ew h).2;omega};{exact M 0 ew h}
inductive xR:List (Nat×Nat)->AN->AN->Prop
 |nil (a:AN):xR [] a a
 |snoc {T:List (Nat×Nat)} {a b:AN} (i p:Nat):xR T a b->i<b.n->p<3->xR (T++ [(i,p)]) a (b.op i ((b.R i).iW p))
theorem xR.path {a b:AN} (h:xR T a b):jT a T [] b:=by
 induction h with
 |nil a=>exact jT.nil a
 |snoc i p _ hi Z ih=>have:=ih.snoc (mR.tick i p hi Z);simpa using this
theorem xR.trans {U:List (Nat×Nat)} {a b c:AN} (h:xR T a b)(g:xR U b c):xR (T++U) a c:=by
 induction g with
 |nil=>simpa using h
 |snoc i p _ hi Z ih=>rw[<-aD];exact(ih h).snoc i p hi Z
theorem Cp {y:iM} (hF:jA y)(k:Nat)(M:k<y.n):∀j,j<=3->xR ((fW j).map λp=>(k,p)) (iI y) (iI (y.jB k ((y.R k).ja j)))
 |0,_=>by
  have e:y.jB k ((y.R k).ja 0)=y:=by
   show y.jB k (y.R k)=y;unfold iM.jB;rw[wy]
  rw[e];exact xR.nil _
 |j+1,hj=>by
  have U:=Cp hF k M j dZ;have Q:=hF.jB k (nu.ja (y.R k) j);obtain⟨z,Z⟩:=gg (y.jB k ((y.R k).ja j));rw[Z]at U Q;have Y:z.R k=(y.R k).ja j:=by rw[<-Z];exact iE _ _ _
  have e:y.jB k ((y.R k).ja (j+1))=z.jB k ((z.R k).iW j):=by
   rw[Y,<-Z];show({y with R:=_}:iM)={y with R:=jU (jU y.R k _) k _}
   congr 1
   funext x
   by_cases ex:x=k;{subst ex;rw[iE,iE];rfl};{rw[iC _ _ ex,iC _ _ ex,iC _ _ ex]}
  have J:(z.R k).iW j=((z.R k).core.iW j).pat (λp=>((z.R k).P p).rd) (λp=>((z.R k).P p).out) (z.R k).j8:=by
   rw[<-SB,wO]
  rw[e,Wq Q.o k J ((nu.iW (z.R k).core j).frN λ_=>rfl),bV,cU];have Sg:z.n=y.n:=by rw[<-Z];rfl
  exact U.snoc k j (by show k<z.n;omega) dZ
def SI(k:Nat):List (Nat×Nat):=[(k,0),(k,1),(k,2)]
theorem Fp(hF:jA y)(Y:j3 y D 0)(hD:D<=900000000)(k:Nat)(Z:k<y.n):xR (SI k) (iI y) (iI (y.jB k (y.R k).tick))/\Ends (y.jB k (y.R k).tick)/\jA (y.jB k (y.R k).tick):=by
 have h:=Cp hF k Z 3 (Nat.le_refl _);have e:(y.R k).tick=(y.R k).ja 3:=by unfold iN.tick;rw[(Y.rn k Z).1]
 rw[<-e]at h;exact⟨h,(Y.jb dZ Z).oJ,hF.jB k (nu.ja _ _)⟩
theorem Iq(hF:jA y)(Q:j3 y D 0)(Y:D<=900000000)(k:Nat)(U:k<y.n):jT (iI y) (SI k) [] (iI (y.tick ((k:Int)+1)).1):=by
 obtain⟨h,Z,f1⟩:=Fp hF Q Y k U;unfold iM.tick;rw[af dZ];rw[show((k:Int)+1-1).toNat=k by omega];exact h.path.lost (pF f1 Z).1
theorem uW(hF:jA y)(U:j3 y D 0)(hD:D<=900000000)(i d m:Int):jT (iI y) [] [] (iI (y.deliver i d m).1):=by
 unfold iM.deliver;split;{exact jT.nil _}
 ·rename_i h
  have hc:i.toNat<y.nc:=dZ;have hd:d.toNat<2:=dZ;obtain⟨k,J⟩:=gg (min m.toNat ((y.C i.toNat).on d.toNat).length);rw[J];have Y:=U.oJ;obtain⟨l,rest,Q,_,M⟩:=Fj hF Y i.toNat d.toNat k hc hd;have Z:(iI y).F i.toNat d.toNat=l++rest:=by
   show(if i.toNat<y.nc/\d.toNat<2 then tU y i.toNat d.toNat else [])=_;rw[ai ⟨hc,hd⟩,Q]
  have H:=(adD l rest (iI y) i.toNat d.toNat (wR y) hc hd Z).path;have:jT (iI y) [] [] (iI (y.jq i.toNat d.toNat k)):=by rw[M];exact H
  exact this.lost (pF (hF.jq Y _ _ _ hc hd) (U.jq dZ hc hd).oJ).1
theorem SJ(hF:jA y)(U:GN y)(M:j3 y D 0)(i:Int)(up:Bool):∃T,SH T/\jT (iI y) T [] (iI (y.iH i up).1):=by
 unfold iM.iH;split;{exact⟨[],SH.nil,jT.nil _⟩}
 ·split;{exact⟨[],SH.nil,jT.nil _⟩}
  ·rename_i h kL
   have hc:i.toNat<y.nc:=dZ;have hi:(y.C i.toNat).iQ= !up:=by cases hv:(y.C i.toNat).iQ<;>cases up<;>simp_all
   have Y:=M.oJ;have J:=(uV up [i.toNat] hF U Y gU (λc Z=>by simp only[ik]at Z;subst Z;exact⟨hc,hi⟩) (λc Z d hd=>by simp only[ik]at Z;subst Z;exact M.Zw _ d hc hd)).1;have Q:=wT Y [i.toNat] gU (λc Z=>by simp only[ik]at Z;subst Z;exact hc);refine⟨_,?_,J.lost (pF (hF.jZ U Y _ _ hc hi) (Y.jZ _ _)).1⟩;split;{exact⟨Q.1,by rw[Q.2];simp⟩};{exact SH.nil}
theorem JH(hF:jA y)(hG:GN y)(iO:j3 y D 0)(i:Int):∃T,SH T/\jT (iI y) T [] (iI (y.restart i).1):=by
 unfold iM.restart;split;{exact⟨[],SH.nil,jT.nil _⟩}
 ·rename_i hi
  obtain⟨k,hk⟩:=gg ((i-1).toNat);have hik:i=(k:Int)+1:=dZ;have AL:k<y.n:=dZ;simp only;rw[hk];obtain⟨l,hl⟩:=gg (y.lA k);rw[hl];have rN:∀c,c∈l↔c<y.nc/\(y.C c).iQ=true/\(((y.C c).e 0).1=k \/((y.C c).e 1).1=k):=λc=>by
   rw[<-hl];unfold iM.lA;simp[List.mem_filter]
  have hll:l.length<=9:=by rw[<-hl];exact Nat.le_trans (yQ y k) iO.c9
  have H:l.Nodup:=by
   rw[<-hl];exact du dm bY
  have vQ:∀c∈l,c<y.nc/\(y.C c).iQ= !false:=λc hc=>⟨((rN c).1 hc).1,((rN c).1 hc).2.1⟩
  have hE:=iO.oJ;obtain⟨a,b,d⟩:=GN.jL false l hG hE H vQ;have f1:=jA.jL false l hF hG hE H vQ;obtain⟨p1,o1⟩:=uV false l hF hG hE H vQ (λc hc d hd=>iO.Zw c d (vQ c hc).1 hd);have o1:=o1 rfl iO.Zw;obtain⟨s1,s2,s3,s4,s5⟩:=nj false l y;have hpo:∀z:iM,(∀x,(z.C x).e=(y.C x).e)->ny z l=ny y l:=λz hz=>by unfold ny;congr 1;funext x;rw[hz]
  obtain⟨Z,Cg⟩:=gg (y.jL false l);rw[Cg]at a b d s1 s2 s3 s4 s5 f1 p1 o1⊢;have Ow:∀c e,c<Z.nc->e<2->((Z.C c).e e).1=k->(Z.C c).iQ=false:=λc e hc J heq=>by
   have jX:c<y.nc:=by rw[s2]at hc;exact hc
   rw[d c];by_cases hm:c∈l;{rw[ai hm]}
   ·rw[af hm];by_cases kL:(y.C c).iQ=true
    ·exfalso;rw[s5 c]at heq;refine hm ((rN c).2 ⟨jX,kL,?_⟩);have:e=0 \/e=1:=dZ;rcases this with rfl|rfl
     {exact .inl heq};{exact .inr heq}
    ·simpa using kL
  have Q:∀c d,c<Z.nc->d<2->((Z.R ((Z.C c).e d).1).P ((Z.C c).e d).2).out=[] :=λc d hc hd=>by
   rw[s5 c];exact o1 c d (by rw[<-s2];exact hc) hd
  have f2:=f1.anew a k i (y.ms k) Ow;have a2:GN (Z.jB k (jO i 3 (y.ms k))):=by
   refine a.jB k _ (λc e hc J heq _=> ?_);rw[Ow c e hc J heq];have hI:=qM i (y.ms k) ((Z.C c).e e).2;exact⟨by simpa using hI.st,λe=>absurd (by rw[hI.pe];rfl) e⟩
  have b2:Ends (Z.jB k (jO i 3 (y.ms k))):=⟨b.ds,b.p3,λj=>by
   show(jU Z.R k _ j).n=3 \/Z.n<=j;by_cases e:j=k;{rw[e,iE];exact .inl rfl}
   ·rw[iC _ _ e];exact b.rn j,b.en⟩
  have Dl:jT (iI Z) [] [] (iI (Z.jB k (jO i 3 (y.ms k)))):=by
   have kd:=mR.anew (a:=iI Z) k (Z.j8 k).length (by show k<Z.n;omega) (λc e hc J heq=>by
    have u:=Ow c e hc J heq;exact⟨u,DA a hc u (λd hd=>Q c d hc hd) ew,DA a hc u (λd hd=>Q c d hc hd) ew⟩)
   have heq:iI (Z.jB k (jO i 3 (y.ms k)))={iI Z with R:=jU (iI Z).R k (jO ((k:Int)+1) 3 ((iI Z).ms k)),ib:=jU (iI Z).ib k (((iI Z).ib k).take (Z.j8 k).length)}:=by
    refine AN.ext' rfl rfl rfl rfl rfl (funext λj=> ?_) (funext λc=>funext λe=> ?_) (funext λj=> ?_);{show(jU Z.R k _ j).core=jU _ k (jO ((k:Int)+1) 3 (Z.ms k)) j;by_cases Y:j=k;{rw[Y,iE,iE,hik,s3];rfl};{rw[iC _ _ Y,iC _ _ Y];rfl}}
    ·show(if c<Z.nc/\e<2 then tU (Z.jB k (jO i 3 (y.ms k))) c e else [])=if c<Z.nc/\e<2 then tU Z c e else []
     split
     ·rename_i Dd
      obtain⟨hc,J⟩:=Dd;have hP:∀p,(((Z.jB k (jO i 3 (y.ms k))).R k).P p).out=[] :=λp=>by
       show((jU Z.R k _ k).P p).out=[]
       rw[iE];rfl
      have hO:jl (((Z.jB k (jO i 3 (y.ms k))).R ((Z.C c).e e).1).P ((Z.C c).e e).2)=jl ((Z.R ((Z.C c).e e).1).P ((Z.C c).e e).2):=by
       by_cases A:((Z.C c).e e).1=k;{rw[jz (Q c e hc J),A,jz (hP _)]};{show jl ((jU Z.R k _ _).P _)=_;rw[iC _ _ A]}
      show(kx (jW (Z.jB k (jO i 3 (y.ms k))) c e) ((Z.C c).on e)).1++jl (((Z.jB k (jO i 3 (y.ms k))).R ((Z.C c).e e).1).P ((Z.C c).e e).2)=_;rw[hO];congr 1;by_cases A:((Z.C c).e (1-e)).1=k;{have u:=Ow c (1-e) hc dZ A;rw[a.off c e hc J u];rfl}
      ·have hR:jW (Z.jB k (jO i 3 (y.ms k))) c e=jW Z c e:=by
        show((jU Z.R k _ ((Z.C c).e (1-e)).1).P ((Z.C c).e (1-e)).2).rd=_;rw[iC _ _ A];rfl
       rw[hR]
     ·rfl
    ·show Z.j8 j++(jU Z.R k (jO i 3 (y.ms k)) j).j8=jU _ k ((Z.j8 k++(Z.R k).j8).take (Z.j8 k).length) j;by_cases Y:j=k;{rw[Y,iE,iE,List.take_left];show Z.j8 k++ [] =_;rw[aB]};{rw[iC _ _ Y,iC _ _ Y];rfl}
   rw[heq];exact jT.one kd
  obtain⟨G,U⟩:=gg (Z.jB k (jO i 3 (y.ms k)));have M:G.C=Z.C:=by rw[<-U];rfl
  have E:G.nc=Z.nc:=by rw[<-U];rfl
  rw[U]at f2 a2 b2 Dl⊢;have IW:∀c∈l,c<G.nc/\(G.C c).iQ= !true:=λc hc=>⟨by rw[E,s2];exact((rN c).1 hc).1,by rw[M,d c,ai hc];rfl⟩
  have jk:∀j p,((G.R j).P p).out=[] \/((G.R j).P p).out=((Z.R j).P p).out:=λj p=>by
   rw[<-U];show((jU Z.R k _ j).P p).out=[] \/((jU Z.R k _ j).P p).out=_;by_cases Y:j=k;{rw[Y,iE];exact .inl rfl};{rw[iC _ _ Y];exact .inr rfl}
  have p2:=(uV true l f2 a2 b2 H IW (λc hc d hd=>by
   rw[M];rcases jk ((Z.C c).e d).1 ((Z.C c).e d).2 with h|h
   ·exact h
   ·rw[h];exact Q c d (by rw[<-E];exact(IW c hc).1) hd)).1
  have g2:=GN.jL true l a2 b2 H IW;have f3:=jA.jL true l f2 a2 b2 H IW;have nN:=((p1.trans Dl).trans p2).lost (pF f3 g2.2.1).1;rw[hpo G (λx=>by rw[M,s5 x])]at nN;have hn:=wT hE l H (λc hc=>((rN c).1 hc).1);exact⟨ny y l,⟨hn.1,by rw[hn.2];omega⟩,by simpa using nN⟩
def zZ(n:Nat)(f t:Int)(tx:List UInt8):List (Int×List UInt8):=if(1<=f/\f<=(n:Int))/\(1<=t/\t<=6)/\tx.length<=20 then [(t,tx)]else []
theorem SK(hF:jA y)(H:j3 y D 0)(hD:D<=900000000)(f t:Int)(tx:List UInt8):jT (iI y) [] (zZ y.n f t tx) (iI (y.send f t tx).1):=by
 unfold iM.send;split;{unfold zZ;rw[af dZ];exact jT.nil _}
 ·rename_i h
  obtain⟨k,M⟩:=gg ((f-1).toNat);have Z:k<y.n:=dZ;rw[M];by_cases hv:t<1 \/6<t \/20<tx.length
  ·have e:kf (y.R k) t tx=(y.R k,1):=by unfold kf;rw[ai hv]
   rw[e,ai gU];unfold zZ;rw[af dZ];exact jT.nil _
  ·have e:kf (y.R k) t tx=((y.R k).send (t,8,tx),0):=by unfold kf;rw[af hv]
   have Y:=(H.VT dZ Z t tx).oJ;rw[e]at Y;rw[e,af gU];unfold zZ;rw[ai dZ];have G:=nu.send (y.R k).core (t,8,tx);have J:(y.R k).send (t,8,tx)=((y.R k).core.send (t,8,tx)).pat (λp=>((y.R k).P p).rd) (λp=>((y.R k).P p).out) (y.R k).j8:=by rw[<-L7,wO]
   have U:=Wq hF.o k J (G.frN λ_=>rfl);have Q:jT (iI y) [] [(t,tx)] (iI (y.jB k ((y.R k).send (t,8,tx)))):=by
    rw[U];exact jT.one (mR.send k t tx Z dZ dZ dZ)
   exact Q.lost (pF (hF.jB k (nu.send (y.R k) (t,8,tx))) Y).1
def mP(k:Nat):List (Nat×Nat):=(fW k).flatMap SI
theorem Bx(k:Nat):mP (k+1)=mP k++SI k:=by simp[mP,il]
theorem pz:∀k,(mP k).Nodup/\(mP k).length=3*k/\∀x∈mP k,x.1<k
 |0=>⟨cZ,rfl,λ_ h=>by simp[mP]at h⟩
 |k+1=>by
  obtain⟨a,b,c⟩:=pz k;rw[Bx];refine⟨bE.2 ⟨a,by simp[SI],λx hx z Z e=> ?_⟩,by simp[b,SI];omega,λx hx=> ?_⟩;{have Y:=c x hx;subst e;simp only[SI,ic,ig,or_false]at Z;rcases Z with rfl|rfl|rfl<;>simp at Y}
  ·rcases av.1 hx with h|h
   {have:=c x h;omega};{simp only[SI,ic,ig,or_false]at h;rcases h with rfl|rfl|rfl<;>simp}
theorem yU {y:iM} {D:Nat} (hF:jA y)(Z:j3 y D 0)(Y:D<=800000000):∀q,q<=y.n->jT (iI y) (mP q) [] (iI (y.ja q))
 |0,_=>jT.nil _
 |q+1,hq=>by
  have n6:=Z.n6;have U:=yU hF Z Y q dZ;have Q:=Iq (jA.ja hF q) (Z.ja Y q dZ) dZ q (by rw[(oI y q).1];omega);rw[Bx];exact U.trans Q
theorem Cq {y:iM} {D:Nat} (hF:jA y)(Y:j3 y D 0)(Z:D<=890000000):∀q,q<=9->jT (iI y) [] [] (iI (y.jP q))
 |0,_=>jT.nil _
 |q+1,hq=>by
  have U:=Cq hF Y Z q dZ;have f1:=jA.jP hF Y Z q dZ;have k1:=Y.jP Z q dZ;have Q:=uW f1 k1 dZ (q:Int) 0 2000;have M:=uW (f1.deliver k1 (q:Int) 0 2000) (k1.deliver dZ (q:Int) 0 2000) dZ (q:Int) 1 2000;exact(U.trans Q).trans M
theorem Fq {y:iM} {D:Nat} (hF:jA y)(Z:j3 y D 0)(Y:D<=810000000):∀t,t<=12->jT (iI y) [] [] (iI (y.turns t))
 |0,_=>jT.nil _
 |t+1,ht=>(Fq hF Z Y t dZ).trans (Cq (jA.turns hF Z Y t dZ) (Z.turns Y t dZ) dZ y.nc Z.c9)
theorem yV(hF:jA y)(Z:j3 y D 0)(Y:D<=800000000):jT (iI y) (mP y.n) [] (iI y.round):=by
 have n6:=Z.n6;have h:=(yU hF Z Y y.n (Nat.le_refl _)).trans (Fq (hF.ja y.n) (Z.ja Y y.n n6) dZ 12 (Nat.le_refl _));rw[aB]at h;exact h
def JI(v:AV):Bool:=v.kind.toList==[115,101,110,100]
def sOf(n:Nat)(v:AV):List (Int×List UInt8):=if JI v=true then zZ n v.a v.b v.s.data.toList else []
theorem JJ {v:AV} (n:Nat)(h:(v.kind.toList==l)=true)(hl:(l==[115,101,110,100])=false):sOf n v=[] :=by
 unfold sOf JI;rw[dT]at h;rw[h,hl];rfl
theorem Mf(hF:jA y)(Y:GN y)(Z:j3 y D 0)(U:D<=800000000)(v:AV):∃T,SH T/\jT (iI y) T (sOf y.n v) (iI (rB y v)):=by
 unfold rB;split
 ·rename_i h
  rw[JJ y.n h ew];exact SJ hF Y Z _ _
 ·split
  ·rename_i h
   rw[JJ y.n h ew];by_cases hi:v.a<1 \/(y.n:Int)<v.a;{refine⟨[],SH.nil,?_⟩;unfold iM.tick;rw[ai hi];exact jT.nil _};{have:=Iq hF Z dZ (v.a-1).toNat dZ;rw[show(((v.a-1).toNat:Nat):Int)+1=v.a by omega]at this;exact⟨_,⟨by simp[SI],by simp[SI]⟩,this⟩}
  ·split
   ·rename_i h
    rw[JJ y.n h ew];exact⟨[],SH.nil,uW hF Z dZ _ _ _⟩
   ·split
    ·rename_i h
     rw[JJ y.n h ew];exact JH hF Y Z _
    ·split
     ·rename_i h
      unfold sOf;rw[ai (show JI v=true from h)];exact⟨[],SH.nil,SK hF Z dZ _ _ _⟩
     ·rename_i h
      unfold sOf;rw[af (show¬JI v=true from h)];split;{obtain⟨a,b,_⟩:=pz y.n;have:=Z.n6;exact⟨_,⟨a,by rw[b];omega⟩,yV hF Z U⟩};{exact⟨[],SH.nil,jT.nil _⟩}
def SL(m:Nat):List (Nat×Nat):=(fW m).flatMap λc=>[(c,0),(c,1)]
theorem qp {x:Nat×Nat}:x∈SL m↔x.1<m/\x.2<2:=by
 obtain⟨c,d⟩:=x;unfold SL;simp only[List.mem_flatMap,List.mem_range,ic,Prod.mk.injEq,ig,or_false];constructor;{rintro⟨b,Z,Y|Y⟩<;>omega};{rintro⟨Z,Y⟩;exact⟨c,Z,dZ⟩}
theorem xE:∀m,(SL m).Nodup
 |0=>cZ
 |m+1=>by
  have e:SL (m+1)=SL m++ [(m,0),(m,1)] :=by simp[SL,il]
  rw[e];refine bE.2 ⟨xE m,gU,λx hx z Z h=> ?_⟩;have Y:=(qp.1 hx).1;subst h;simp only[ic,ig,or_false]at Z;rcases Z with rfl|rfl<;>simp at Y
def sm {α:Type} (f:α->Nat)(l:List α):Nat:=(l.map f).sum
theorem vv {α:Type} {f g:α->Nat}:∀ {l:List α},(∀x∈l,f x<=g x)->sm f l<=sm g l
 |[],_=>Nat.le_refl _
 |x::l,h=>by
  have:=vv (l:=l) λy hy=>h y (by simp[hy]);have h1:=h x gU;simp only[sm,eI,iq]at*;omega
theorem Ft {α:Type} (f g:α->Nat):∀l:List α,sm (λx=>f x+g x) l=sm f l+sm g l
 |[] =>rfl
 |x::l=>by
  have:=Ft f g l;simp only[sm,eI,iq]at*;omega
theorem pP(f:α->Nat)(l m:List α):sm f (l++m)=sm f l+sm f m:=by simp[sm]
theorem JK {α:Type} [DecidableEq α] (y:α)(k:Nat):∀ {l:List α},l.Nodup->sm (λx=>if x=y then k else 0) l=if y∈l then k else 0
 |[],_=>rfl
 |x::l,h=>by
  have Z:=bq.1 h;have:=JK y k Z.2;have e:sm (λx=>if x=y then k else 0) (x::l)=(if x=y then k else 0)+sm (λx=>if x=y then k else 0) l:=rfl;rw[e,this];by_cases hx:x=y;{subst hx;rw[ai rfl,af Z.1,ai gU];rfl};{rw[af hx];by_cases hy:y∈l;{rw[ai hy,ai (by simp[hy])];omega};{rw[af hy,af (by simp[hy,Ne.symm hx])]}}
theorem z8 [DecidableEq α] {f g:α->Nat} {y:α} {l:List α} (Y:l.Nodup)(hy:y∈l)(h:∀x∈l,f x+(if x=y then k else 0)<=g x):sm f l+k<=sm g l:=by
 have Z:=vv h;rw[Ft,JK y k Y,ai hy]at Z;exact Z
structure tI(a:AN):Prop where
 n6:a.n<=6
 c9:a.nc<=9
 ds:∀c d c' d',c<a.nc->d<2->c'<a.nc->d'<2->a.e c d=a.e c' d'->c=c'/\d=d'
 en:∀c d,c<a.nc->d<2->(a.e c d).1<a.n/\(a.e c d).2<3
theorem tI.same {a b:AN} (h:tI a)(Y:b.n=a.n)(Z:b.nc=a.nc)(U:b.e=a.e):tI b:=
 ⟨by rw[Y];exact h.n6,by rw[Z];exact h.c9,by rw[Z,U];exact h.ds,by rw[Y,Z,U];exact h.en⟩
theorem j3.qQ(h:j3 y D k):tI (iI y):=⟨h.n6,h.c9,h.ds,h.en⟩
theorem Ir(e:Nat×Nat->Nat×Nat)(i:Nat)(h:Nat->Nat):∀l:List (Nat×Nat),l.Nodup->(∀x∈l,(e x).2<3)->(∀x∈l,∀y∈l,e x=e y->x=y)->sm (λx=>if(e x).1=i then h (e x).2 else 0) l<=sm (λp=>if(i,p)∈l.map e then h p else 0) [0,1,2]
 |[],_,_,_=>Nat.zero_le _
 |x::l,hn,hp,hi=>by
  have U:=bq.1 hn;have ih:=Ir e i h l U.2 (λy hy=>hp y (by simp[hy])) (λy hy z J=>hi y (by simp[hy]) z (by simp[J]));have M:sm (λx=>if(e x).1=i then h (e x).2 else 0) (x::l)=(if(e x).1=i then h (e x).2 else 0)+sm (λx=>if(e x).1=i then h (e x).2 else 0) l:=rfl;rw[M];by_cases hx:(e x).1=i
  ·rw[ai hx];have H:(i,(e x).2)∉l.map e:=λZ=>by
    obtain⟨y,hy,Y⟩:=bH.1 Z;have:=hi x gU y (by simp[hy]) (by rw[Y,<-hx]);exact U.1 (this▸hy)
   have h3:sm (λp=>if(i,p)∈l.map e then h p else 0) [0,1,2] +h (e x).2<=sm (λp=>if(i,p)∈(x::l).map e then h p else 0) [0,1,2] :=by
    refine z8 (y:=(e x).2) ew ?_ λp _=> ?_;{have:=hp x gU;simp only[ic,ig,or_false];omega};{by_cases Q:p=(e x).2;{subst Q;rw[af H,ai rfl,ai (by simp[<-hx])];omega};{rw[af Q];by_cases Z:(i,p)∈l.map e;{rw[ai Z,ai (by simp only[eI,ic];exact .inr Z)];omega};{rw[af Z];omega}}}
   omega
  ·rw[af hx,Nat.zero_add];refine Nat.le_trans ih (vv λp _=> ?_);by_cases Z:(i,p)∈l.map e;{rw[ai Z,ai (by simp only[eI,ic];exact .inr Z)];exact Nat.le_refl _};{rw[af Z];exact Nat.zero_le _}
def AN.W(a:AN)(w:la->Nat):Nat:=sm (λx:Nat×Nat=>sm w (a.F x.1 x.2)) (SL a.nc)
theorem adK {a b:AN} (h:wQ a b)(w:la->Nat):b.W w<=a.W w:=by
 have e:b.nc=a.nc:=by rw[h.1]
 unfold AN.W;rw[e];refine vv λx _=> ?_;obtain⟨m,Z⟩:=h.2 x.1 x.2;show sm w (b.F x.1 x.2)<=sm w (a.F x.1 x.2);rw[Z];have:=pP w ((a.F x.1 x.2).take m) ((a.F x.1 x.2).drop m);rw[cL]at this;omega
theorem adL {a:AN} (Z:tI a)(i:Nat)(s:iN)(w:la->Nat):(a.op i s).W w<=a.W w+(sm w (jl (s.P 0))+sm w (jl (s.P 1))+sm w (jl (s.P 2))):=by
 have U:∀x∈SL a.nc,sm w ((a.op i s).F x.1 x.2)=sm w (a.F x.1 x.2)+(if(a.e x.1 x.2).1=i then sm w (jl (s.P (a.e x.1 x.2).2))else 0):=λx hx=>by
  have Q:=qp.1 hx;rw[vF];by_cases e:(a.e x.1 x.2).1=i;{rw[ai ⟨Q,e⟩,ai e,pP]};{rw[af (λh=>e h.2),af e];rfl}
 unfold AN.W;refine Nat.le_trans (vv (g:=λx:Nat×Nat=>sm w (a.F x.1 x.2)+(if(a.e x.1 x.2).1=i then sm w (jl (s.P (a.e x.1 x.2).2))else 0)) λx hx=>Nat.le_of_eq (U x hx)) ?_;rw[Ft];refine Nat.add_le_add_left ?_ _;refine Nat.le_trans (Ir (λx=>a.e x.1 x.2) i (λp=>sm w (jl (s.P p))) (SL a.nc) (xE _) (λx hx=>(Z.en _ _ (qp.1 hx).1 (qp.1 hx).2).2) (λx hx z Y h=> ?_)) ?_;{have:=Z.ds _ _ _ _ (qp.1 hx).1 (qp.1 hx).2 (qp.1 Y).1 (qp.1 Y).2 h;exact aV this.1 this.2};{refine Nat.le_trans (vv (g:=λp=>sm w (jl (s.P p))) λp _=> ?_) ?_;{show(if _ then _ else 0)<=_;split;{exact Nat.le_refl _};{exact Nat.zero_le _}};{show sm w (jl (s.P 0))+(sm w (jl (s.P 1))+(sm w (jl (s.P 2))+0))<=_;omega}}
theorem abd {a:AN} (w:la->Nat) {l:List la} (hc:c<a.nc)(hd:d<2)(h:a.F c d=x::l):(a.lv c d l).W w+w x<=a.W w:=by
 unfold AN.W;refine z8 (y:=(c,d)) (xE _) (qp.2 ⟨hc,hd⟩) λy _=> ?_;show sm w (if y.1=c/\y.2=d then l else a.F y.1 y.2)+(if y=(c,d)then w x else 0)<=sm w (a.F y.1 y.2);by_cases e:y.1=c/\y.2=d;{rw[ai e,ai (aV e.1 e.2),e.1,e.2,h];show sm w l+w x<=w x+sm w l;omega};{rw[af e,af (λh=>e (by rw[h];exact⟨rfl,rfl⟩))];exact Nat.le_refl _}
theorem DB(a:AN)(w:la->Nat)(c d:Nat):(a.lv c d []).W w<=a.W w:=by
 unfold AN.W;refine vv λy _=> ?_;show sm w (if y.1=c/\y.2=d then []else a.F y.1 y.2)<=sm w (a.F y.1 y.2);split;{exact Nat.zero_le _};{exact Nat.le_refl _}
theorem Iu {a:AN} (h:Norm a)(c:Nat)(up:Bool):Norm (a.iH c up):=by
 unfold AN.iH AN.nI;exact qW (qW (a:=(({a with iQ:=jU a.iQ c up}:AN).lv c 0 []).lv c 1 []) h _ _) _ _
theorem mR.norm {a b:AN} (h:mR a T S b)(Z:Norm a):Norm b:=by
 cases h with
 |lost h=>rw[h.1];exact Z
 |tick i p _ _=>exact qW Z _ _
 |pop c d x l _ _ _=>exact qW (a:=a.lv c d l) Z _ _
 |send i t tx _ _ _ _=>exact qW Z _ _
 |iH c _ _ _ _=>exact Iu Z c true
 |draw c _ _=>exact Iu Z c false
 |anew i m _ _=>
  intro j;show(jU a.R i _ j).core=jU a.R i _ j;by_cases e:j=i;{subst e;rw[iE];rfl};{rw[iC _ _ e];exact Z j}
theorem jT.qQ {a b:AN} (h:jT a T S b)(Z:tI a):tI b:=Z.same h.same.1 h.same.2.1 h.same.2.2.1
theorem jT.norm {a b:AN} {T:List (Nat×Nat)} {S:List (Int×List UInt8)} (h:jT a T S b)(Z:Norm a):Norm b:=by
 induction h with
 |nil=>exact Z
 |snoc _ s ih=>exact s.norm ih
def Ke(r:iN):Prop:=∀p,(r.P p).out=[]
theorem Norm.emp {a:AN} (h:Norm a)(i:Nat):Ke (a.R i):=h.out i
def Fr(p:jv):Prop:=∃ps,Frames p.out ps
theorem Ke.fr(h:Ke r)(p:Nat):Fr (r.P p):=⟨[],by rw[h];exact Frames.nil⟩
theorem Fr.put {p:jv} (h:Fr p)(c:UInt8)(s:List UInt8):Fr (p.put c s):=(r9.put p c s).fr h
theorem nJ {q:jv} (h:q.out=p.out):jl q=jl p:=by unfold jl;rw[h]
theorem uz(h:Fr p)(c:UInt8)(s:List UInt8):jl (p.put c s)=jl p++(if(c≠76/\p.L.st≠9) \/60<s.length+1 then []else [c::s]):=by
 obtain⟨ps,Z⟩:=h;unfold jv.put;split;{rename_i g;rw[ai (.inl g)];simp}
 ·rename_i g
  split
  ·rename_i hl
   rw[af (λz=>z.elim g dZ)];have Y:Frames ({p with out:=p.out++Plain.lM (c::s)}:jv).out (ps++ [c::s]):=Z.snoc ⟨gU,by simpa using hl⟩;rw[m9 Y,m9 Z]
  ·rw[ai (.inr dZ)];simp
def oo(q:kN):List la:=if jS q.1 q.2.1 q.2.2=0/\(mG q.1 q.2.1 q.2.2).length+1<=60 then [76::mG q.1 q.2.1 q.2.2]else []
theorem wU:∀(l:List kN) {p:jv},Fr p->jl (p.say l)=jl p++l.flatMap oo/\Fr (p.say l)
 |[],p,h=>⟨by simp[jv.say],h⟩
 |q::r,p,h=>by
  show jl ((if jS q.1 q.2.1 q.2.2=0 then p.put 76 (mG q.1 q.2.1 q.2.2)else p).say r)=_/\Fr ((if jS q.1 q.2.1 q.2.2=0 then p.put 76 (mG q.1 q.2.1 q.2.2)else p).say r);rw[cg];unfold oo;split
  ·rename_i g
   obtain⟨a,b⟩:=wU r (h.put 76 (mG q.1 q.2.1 q.2.2));refine⟨?_,b⟩;rw[a,uz h,aD];congr 2;by_cases hl:(mG q.1 q.2.1 q.2.2).length+1<=60;{rw[af (by simp;omega),ai ⟨g,hl⟩]};{rw[ai (.inr dZ),af (λz=>hl z.2)]}
  ·rename_i g
   obtain⟨a,b⟩:=wU r h;exact⟨by rw[a,af (λz=>g z.1)];rfl,b⟩
def DC(q:Int×PS):List la:=if(rh q.1 q.2.1 q.2.2).length+1<=60 then [83::rh q.1 q.2.1 q.2.2]else []
theorem Cr:∀(l:List (Int×PS)) {p:jv},Fr p->p.L.st=9->jl (p.kH l)=jl p++l.flatMap DC
 |[],p,h,_=>by simp[jv.kH]
 |q::r,p,h,h9=>by
  show jl ((p.put 83 (rh q.1 q.2.1 q.2.2)).kH r)=_;rw[Cr r (h.put 83 _) (by rw[wM];exact h9),uz h,cg,aD];congr 2;unfold DC;by_cases hl:(rh q.1 q.2.1 q.2.2).length+1<=60;{rw[af dZ,ai hl]};{rw[ai (.inr dZ),af hl]}
theorem kc(r:iN)(i:Nat)(q:lD)(p:Nat):((r.meet i q).P p).out=(r.P p).out/\((r.meet i q).P p).L=(r.P p).L/\((r.meet i q).P p).m=(r.P p).m/\((r.meet i q).P p).pe=if p=i then q else(r.P p).pe:=by
 rw[(mV r i q).2.2.2];by_cases e:p=i;{subst e;rw[jy,ai rfl];exact⟨rfl,rfl,rfl,rfl⟩};{rw[jr _ _ e,af e];exact⟨rfl,rfl,rfl,rfl⟩}
theorem kO(r:iN)(i:Nat)(q:jv)(p:Nat):(r.iU i q).P p=if p=i then q else r.P p:=rfl
theorem z9(h:Ke r)(i:Nat)(c:UInt8)(s:List UInt8):(∀p,jl ((j1 r i c s).P p)=if p=i/\c=76/\(iY s).2.2.2=0 then(jK (r.P i).L ((iY s).1,(iY s).2.1,(iY s).2.2.1)).2.1.flatMap oo else [])/\(∀p,Fr ((j1 r i c s).P p))/\(∀p,((j1 r i c s).P p).pe=(r.P p).pe/\((j1 r i c s).P p).m=(r.P p).m/\((j1 r i c s).P p).L=if p=i/\c=76/\(iY s).2.2.2=0 then(jK (r.P i).L ((iY s).1,(iY s).2.1,(iY s).2.2.1)).1 else(r.P p).L)/\(j1 r i c s).K=r.K/\(j1 r i c s).O=r.O/\(j1 r i c s).j8=r.j8/\(j1 r i c s).id=r.id/\(j1 r i c s).n=r.n:=by
 unfold j1;by_cases hc:c=76
 ·rw[ai hc];obtain⟨E,Y⟩:=gg (jK (r.P i).L ((iY s).1,(iY s).2.1,(iY s).2.2.1));rw[Y];have Z:(r.P i).packet s=if(iY s).2.2.2=0 then({r.P i with L:=E.1}:jv).say E.2.1 else r.P i:=by
   unfold jv.packet;simp only;rw[Y]
  have hs:=wU E.2.1 (p:={r.P i with L:=E.1}) (show Fr _ from h.fr i);have Q:jl ({r.P i with L:=E.1}:jv)=[] :=jz (h i);have U:=wF E.2.1 ({r.P i with L:=E.1}:jv);have M:=E9 E.2.1 ({r.P i with L:=E.1}:jv);refine⟨λp=> ?_,λp=> ?_,λp=> ?_,rfl,rfl,rfl,rfl,rfl⟩;{rw[kO];by_cases e:p=i;{rw[ai e,Z];by_cases f:(iY s).2.2.2=0;{rw[ai f,ai ⟨e,hc,f⟩,hs.1,Q];rfl};{rw[af f,af (λz=>f z.2.2),jz (h i)]}};{rw[af e,af (λz=>e z.1),jz (h p)]}};{rw[kO,Z];split;{split;{exact hs.2};{exact h.fr i}};{exact h.fr p}};{rw[kO,Z];by_cases e:p=i;{subst e;rw[ai rfl];by_cases f:(iY s).2.2.2=0;{rw[ai f,ai ⟨rfl,hc,f⟩,U.1,U.2,M];exact⟨rfl,rfl,rfl⟩};{rw[af f,af (λz=>f z.2.2)];exact⟨rfl,rfl,rfl⟩}};{rw[af e,af (λz=>e z.1)];exact⟨rfl,rfl,rfl⟩}}
 ·rw[af hc];refine⟨λp=> ?_,λp=>h.fr p,λp=> ?_,rfl,rfl,rfl,rfl,rfl⟩;{rw[af (λz=>hc z.2.1),jz (h p)]};{rw[af (λz=>hc z.2.1)];exact⟨rfl,rfl,rfl⟩}
theorem uA(i:Nat) {c:UInt8} (s:List UInt8)(hc:c≠76):j1 r i c s=r:=by unfold j1;rw[af hc]
theorem Ww(h:Ke r)(i:Nat)(s:List UInt8)(p:Nat):jl ((jj r i s).P p)=[] \/(p=i/\(ij s).2.2.2=0/\(r.P i).pe.both=true/\¬((ij s).1=r.id/\0<newF r.K (ij s).1 (ij s).2.1 (ij s).2.2.1)/\0<=newF r.K (ij s).1 (ij s).2.1 (ij s).2.2.1/\jl ((jj r i s).P p)=[65::rh (ij s).1 (ij s).2.1 (ij s).2.2.1]):=by
 unfold jj;simp only;split;{exact .inl (jz (h p))}
 ·rename_i Z
  split;{left;rw[(oG r _).2.2.2];exact jz (h p)}
  ·rename_i Y
   split
   ·rename_i U
    rw[kO];by_cases e:p=i;{rw[ai e,uz (h.fr i),jz (h i)];split;{exact .inl rfl};{refine .inr ⟨e,dZ,?_,Y,U,rfl⟩;cases hb:(r.P i).pe.both;{exact absurd (.inr hb) Z};{rfl}}};{rw[af e];exact .inl (jz (h p))}
   ·exact .inl (jz (h p))
theorem DE(h:Ke r)(t:zb):∃j,(∀p,p≠j->jl ((r.send t).P p)=[])/\(jl ((r.send t).P j)=[] \/(((r.P j).L.st=9/\1<=t.2.1)/\jl ((r.send t).P j)=[77::jY t.1::jY (t.2.1-1)::t.2.2])):=by
 unfold iN.send;split;{exact⟨0,λp _=>jz (h p),.inl (jz (h 0))⟩}
 ·cases hv:(if 1<=t.2.1 then(AO (mr r) t.1).bind λh=>jQ r.P h.rJ r.n else ν)with
  |none=>exact⟨0,λp _=>jz (h p),.inl (jz (h 0))⟩
  |some i=>
   have Y:1<=t.2.1:=by
    by_cases g:1<=t.2.1;{exact g};{rw[af g]at hv;simp at hv}
   refine⟨i,λp U=> ?_,?_⟩
   ·show jl ((r.iU i _).P p)=[]
    rw[kO,af U];exact jz (h p)
   ·show jl ((r.iU i _).P i)=[] \/(((r.P i).L.st=9/\1<=t.2.1)/\jl ((r.iU i _).P i)=_);rw[kO,ai rfl,uz (h.fr i),jz (h i)];split;{exact .inl rfl}
    ·rename_i g
     refine .inr ⟨⟨?_,Y⟩,rfl⟩;by_cases Z:(r.P i).L.st=9;{exact Z};{exact absurd (.inl ⟨ew,Z⟩) g}
inductive Fu(r:iN)(i:Nat)(x:la)(p:Nat)(l:List la):Prop
 |none:l=[]->Fu r i x p l
 |link (s:List UInt8):x=76::s->p=i->(iY s).2.2.2=0->l=(jK (r.P i).L ((iY s).1,(iY s).2.1,(iY s).2.2.1)).2.1.flatMap oo->Fu r i x p l
 |heard (s:List UInt8):x=83::s->p=i->(r.P i).L.st=9->(ij s).2.2.2=0->(r.P i).pe.both=true->¬((ij s).1=r.id/\0<newF r.K (ij s).1 (ij s).2.1 (ij s).2.2.1)->0<=newF r.K (ij s).1 (ij s).2.1 (ij s).2.2.1->l=[65::rh (ij s).1 (ij s).2.1 (ij s).2.2.1]->Fu r i x p l
 |JL (a b:UInt8) (s:List UInt8):x=77::a::b::s->(r.P p).L.st=9->1<=b.toNat->s.length<=20->l=[77::a::jY ((b.toNat:Int)-1)::s]->Fu r i x p l
theorem qq(h:Ke r)(i:Nat)(x:la):(∀p,Fu r i x p (jl ((jN r i x).P p)))/\∀p q,jl ((jN r i x).P p)≠ []->jl ((jN r i x).P q)≠ []->p=q:=by
 have U:∀r':iN,(∀p,jl (r'.P p)=[])->(∀p,Fu r i x p (jl (r'.P p)))/\∀p q,jl (r'.P p)≠ []->jl (r'.P q)≠ []->p=q:=λr' H=>⟨λp=>.none (H p),λp q Z=>absurd (H p) Z⟩
 cases x with
 |nil=>exact U r λp=>jz (h p)
 |cons c s=>
  show(∀p,Fu r i (c::s) p (jl ((r.take i c s).P p)))/\_;have E:jN r i (c::s)=r.take i c s:=rfl;rw[E];by_cases hc:c=76
  ·obtain⟨J,a2,a3,_⟩:=z9 h i c s;have G:∀p,jl ((r.take i c s).P p)=jl ((j1 r i c s).P p):=λp=>by
    rw[lJ];split;{exact nJ (kc _ _ _ _).1};{unfold mB;rw[af (by rw[hc];decide),af (by rw[hc];decide),af (by rw[hc];decide),af (by rw[hc];decide)]}
   refine⟨λp=> ?_,λp q Z Y=> ?_⟩
   ·rw[G,J];split
    ·rename_i g
     exact .link s (by rw[hc]) g.1 g.2.2 rfl
    ·exact .none rfl
   ·rw[G,J]at Z Y;split at Z
    ·rename_i g
     split at Y;{rename_i Q;exact g.1.trans Q.1.symm};{exact absurd rfl Y}
    ·exact absurd rfl Z
  ·rw[lJ,uA i s hc];by_cases M:(r.P i).L.st=9
   ·rw[af (by rw[M];simp)];unfold mB;split;{split;{exact U _ λp=>by rw[nJ (kc _ _ _ _).1];exact jz (h p)};{exact U _ λp=>jz (h p)}}
    ·split
     ·rename_i hS
      have hs:=Ww h i s;refine⟨λp=> ?_,λp q Z Y=> ?_⟩
      ·rcases hs p with g|⟨g1,Q,g3,g4,g5,g6⟩
       {exact .none g};{exact .heard s (by rw[hS]) g1 M Q g3 g4 g5 g6}
      ·rcases hs p with g|g
       ·exact absurd g Z
       ·rcases hs q with f|f
        {exact absurd f Y};{exact g.1.trans f.1.symm}
     ·split;{refine U _ λp=> ?_;unfold kC;simp only;split<;>exact jz (h p)}
      ·split
       ·rename_i hM
        unfold ry;split
        ·rename_i hl
         match s,hl with
         |a::b::u,hl=>
          obtain⟨j,g1,Q⟩:=DE h (((((a::b::u).getD 0 0).toNat:Nat):Int),((((a::b::u).getD 1 0).toNat:Nat):Int),(a::b::u).drop 2);have A:((a::b::u).getD 0 0)=a:=rfl;have e2:((a::b::u).getD 1 0)=b:=rfl;have e3:(a::b::u).drop 2=u:=rfl;rw[A,e2,e3]at g1 Q⊢;refine⟨λp=> ?_,λp q Z Y=> ?_⟩
          ·by_cases e:p=j
           ·subst e;rcases Q with g|⟨g,f⟩
            ·exact .none g
            ·obtain⟨g9,g⟩:=g;have ea:jY ((a.toNat:Nat):Int)=a:=by unfold jY;simp
             refine .JL a b u (by rw[hM]) g9 (by simp only at g;omega) ?_ ?_;{simp only[eQ]at hl;omega};{rw[f];show [77::jY ((a.toNat:Nat):Int)::_::u] =_;rw[ea]}
           ·exact .none (g1 p e)
          ·by_cases e:p=j;{by_cases f:q=j;{rw[e,f]};{exact absurd (g1 q f) Y}};{exact absurd (g1 p e) Z}
        ·exact U _ λp=>jz (h p)
       ·exact U _ λp=>jz (h p)
   ·rw[ai M];exact U _ λp=>by rw[nJ (kc _ _ _ _).1];exact jz (h p)
theorem xF(h:Ke r)(i:Nat):(∀p,p≠i->jl ((r.iW i).P p)=[])/\jl ((r.iW i).P i)=(jd (r.P i).L).2.flatMap oo++(if(jd (r.P i).L).1.st=9 then(72::[jY r.id,jY (iJ (r.P i).pe).who])::(if(iJ (r.P i).pe).both=true then(lE (((jb r i).meet i (iJ (r.P i).pe)).O i)).flatMap DC else [])else []):=by
 have hs:=wU (jd (r.P i).L).2 (p:={r.P i with L:=(jd (r.P i).L).1}) (show Fr _ from h.fr i);have j:jl ({r.P i with L:=(jd (r.P i).L).1}:jv)=[] :=jz (h i);have hm:=(wF (jd (r.P i).L).2 ({r.P i with L:=(jd (r.P i).L).1}:jv)).2;have hL:=E9 (jd (r.P i).L).2 ({r.P i with L:=(jd (r.P i).L).1}:jv);have Y:∀p,(jb r i).P p=if p=i then({r.P i with L:=(jd (r.P i).L).1}:jv).say (jd (r.P i).L).2 else r.P p:=λp=>by
  unfold jb;rw[kO];rfl
 have oS:((jb r i).P i).pe=(r.P i).pe:=by rw[Y,ai rfl,hm]
 have u:((jb r i).P i).L.st=(jd (r.P i).L).1.st:=by rw[Y,ai rfl,hL]
 have pU:(jb r i).id=r.id:=rfl;have J:jl ((jb r i).P i)=(jd (r.P i).L).2.flatMap oo/\Fr ((jb r i).P i):=by
  rw[Y,ai rfl,hs.1,j];exact⟨rfl,hs.2⟩
 rw[k7,u,oS];by_cases Z:(jd (r.P i).L).1.st=9
 ·rw[af (by rw[Z];simp),ai Z];obtain⟨x,hx⟩:=gg ((jb r i).meet i (iJ (r.P i).pe));obtain⟨m1,m2,_,G⟩:=kc (jb r i) i (iJ (r.P i).pe) i;have M:x.id=r.id:=by rw[<-hx];exact(jG.meet (jb r i) i _).id
  rw[hx]at m1 m2 G;rw[ai rfl]at G;have H:jl (x.P i)=(jd (r.P i).L).2.flatMap oo:=by rw[nJ m1];exact J.1
  have A:Fr (x.P i):=by obtain⟨ps,uF⟩:=J.2;exact⟨ps,by rw[m1];exact uF⟩
  have U:(x.P i).L.st=9:=by rw[m2,u];exact Z
  rw[hx];unfold mJ;simp only;refine⟨λp Q=> ?_,?_⟩;{rw[kO,af Q,<-hx,nJ (kc _ _ _ _).1,Y,af Q];exact jz (h p)};{rw[kO,ai rfl,G,M];have E:=uz A 72 [jY r.id,jY (iJ (r.P i).pe).who];rw[af (by rw[U];simp),H]at E;split;{rw[Cr _ (A.put 72 _) (by rw[wM];exact U),E,aD];rfl};{rw[E]}}
 ·rw[ai Z,af Z];refine⟨λp Q=> ?_,?_⟩;{rw[nJ (kc _ _ _ _).1,Y,af Q];exact jz (h p)};{rw[nJ (kc _ _ _ _).1,J.1,aB]}
theorem JM(h:Ke r)(i:Nat)(up:Bool)(Y:(kY (r.P i).L (if up=true then 0 else 1)).2.2=0):(∀p,p≠i->jl ((r.iH i up).1.P p)=[])/\jl ((r.iH i up).1.P i)=(kY (r.P i).L (if up=true then 0 else 1)).2.1.flatMap oo/\(r.iH i up).1=((r.iU i (({r.P i with L:=(kY (r.P i).L (if up=true then 0 else 1)).1,rd:=lH}:jv).say (kY (r.P i).L (if up=true then 0 else 1)).2.1)).meet i nobody):=by
 obtain⟨E,U⟩:=gg (kY (r.P i).L (if up=true then 0 else 1));rw[U]at Y⊢;have hs:=wU E.2.1 (p:={r.P i with L:=E.1,rd:=lH}) (show Fr _ from h.fr i);have Q:jl ({r.P i with L:=E.1,rd:=lH}:jv)=[] :=jz (h i);have e:(r.P i).iH up=(({r.P i with L:=E.1,rd:=lH}:jv).say E.2.1,0):=by
  unfold jv.iH;rw[U];simp only;rw[af (by simp[Y])];rfl
 have Z:(r.iH i up).1=(r.iU i (({r.P i with L:=E.1,rd:=lH}:jv).say E.2.1)).meet i nobody:=by
  unfold iN.iH;rw[e];simp only;rw[af gU]
 refine⟨λp M=> ?_,?_,Z⟩;{rw[Z,nJ (kc _ _ _ _).1,kO,af M];exact jz (h p)};{rw[Z,nJ (kc _ _ _ _).1,kO,ai rfl,hs.1,Q];rfl}
structure Own(r:iN):Prop where
 tie:∀p x q,r.O p x=μ q->r.K x=μ q
 val:∀x q,r.K x=μ q->oA x q.1 q.2=0
 own:CY r.K r.id=jx r
def l8(B:Nat)(r:iN):Prop:=∀x q,r.K x=μ q->q.1<=(B:Int)
theorem l8.mono(h:l8 B r)(hc:B<=C):l8 C r:=λx q Z=>by have:=h x q Z;omega
theorem Ct {P Q:Nat->jv} (n:Int)(h:∀p,(Q p).m=(P p).m/\(Q p).pe.who=(P p).pe.who/\(Q p).pe.both=(P p).pe.both):∀k,jQ Q n k=jQ P n k
 |0=>rfl
 |k+1=>by
  have ih:=Ct n h k;unfold jQ;rw[ih,(h k).1,(h k).2.1,(h k).2.2];cases jQ P n k with
  |none=>rfl
  |some b=>simp only[(h b).1]
theorem oP(Z:s.n=r.n)(h:∀p,(s.P p).m=(r.P p).m/\(s.P p).pe.who=(r.P p).pe.who/\(s.P p).pe.both=(r.P p).pe.both):jx s=jx r:=by
 unfold jx;congr 1
 funext j
 rw[Z,Ct _ h];cases jQ r.P ((j:Int)+1) r.n with
 |none=>rfl
 |some b=>simp only[Option.map_some,(h b).1]
theorem Own.alike(h:Own r)(Z:s.K=r.K)(Y:s.O=r.O)(hi:s.id=r.id)(U:s.n=r.n)(Q:∀p,(s.P p).m=(r.P p).m/\(s.P p).pe.who=(r.P p).pe.who/\(s.P p).pe.both=(r.P p).pe.both):Own s:=
 ⟨by rw[Z,Y];exact h.tie,by rw[Z];exact h.val,by rw[Z,hi,oP U Q];exact h.own⟩
theorem l8.alike(h:l8 B r)(Z:s.K=r.K):l8 B s:=by unfold l8;rw[Z];exact h
structure adM(r:iN):Prop where
 tie:∀p x q,r.O p x=μ q->r.K x=μ q
 val:∀x q,r.K x=μ q->oA x q.1 q.2=0
theorem Fv(h:adM r)(U:ln r)(hs:l8 B r) {q:Int} (h0:0<=q)(hq:q<=B)(hB:B<1000000):Own (r.behind q)/\l8 (B+1) (r.behind q):=by
 unfold iN.behind;rw[ai dZ];have hv:=zJ U (seq:=q+1) dZ;refine⟨⟨λp x u Z=> ?_,λx u Z=> ?_,?_⟩,λx u Z=> ?_⟩;{have e:(if x=r.id then μ (q+1,jx r)else r.O p x)=μ u:=Z;show(if x=r.id then μ (q+1,jx r)else r.K x)=μ u;split;{rename_i g;rw[ai g]at e;exact e};{rename_i g;rw[af g]at e;exact h.tie p x u e}};{have e:(if x=r.id then μ (q+1,jx r)else r.K x)=μ u:=Z;by_cases g:x=r.id;{rw[ai g]at e;injection e with e;rw[<-e,g];exact hv};{rw[af g]at e;exact h.val x u e}}
 ·have Y:jx (r.Et (q+1) (jx r))=jx r:=oP rfl λ_=>⟨rfl,rfl,rfl⟩
  rw[Y];show CY (wq r.K r.id (q+1,jx r)) r.id=_;unfold CY wq;rw[ai rfl]
 ·have e:(if x=r.id then μ (q+1,jx r)else r.K x)=μ u:=Z;by_cases g:x=r.id;{rw[ai g]at e;injection e with e;rw[<-e];push_cast;show q+1<=_;omega};{rw[af g]at e;have:=hs x u e;push_cast;omega}
theorem P9(h:l8 B r)(Y:ln r):A5 r.K r.id<=B/\0<=A5 r.K r.id:=by
 obtain⟨q,Z,_⟩:=Y.own;have h2:=Y.seq;refine⟨?_,dZ⟩;unfold A5;rw[Z];exact h _ _ Z
theorem OB(h:adM r)(Z:ln r)(hs:l8 B r)(Y:B<1000000):Own r.change/\l8 (B+1) r.change:=by
 unfold iN.change;split;{rename_i g;exact⟨⟨h.tie,h.val,g⟩,hs.mono dZ⟩};{exact Fv h Z hs (P9 hs Z).2 (P9 hs Z).1 Y}
def dif(a b:lD):Nat:=if a.who=b.who/\a.both=b.both then 0 else 1
theorem Fw(h:Own r)(J:ln r)(hs:l8 B r)(Q:B<1000000)(i:Nat) {q:lD} (M:oj r.id q):Own (r.meet i q)/\l8 (B+dif q (r.P i).pe) (r.meet i q):=by
 unfold iN.meet dif;simp only;split
 ·rename_i g
  refine⟨h.alike rfl rfl rfl rfl λp=> ?_,hs.alike rfl⟩;rw[kO];split;{rename_i e;rw[e];exact⟨rfl,g.1,g.2⟩};{exact⟨rfl,rfl,rfl⟩}
 ·have U:ln (r.iU i {r.P i with pe:=q}):=J.iU i _ rfl λ_=>M;obtain⟨x,hx⟩:∃x:iN,({r.iU i {r.P i with pe:=q}with O:=λx=>if x=i then λ_=>ν else(r.iU i {r.P i with pe:=q}).O x}:iN)=x:=⟨_,rfl⟩
  have Y:ln x:=by rw[<-hx];exact U.yH _
  have o2:adM x:=by
   refine⟨λp y u Z=> ?_,λy u Z=> ?_⟩;{rw[<-hx]at Z⊢;have e:(if p=i then λ_=>ν else r.O p) y=μ u:=Z;split at e;{exact absurd e gU};{exact h.tie p y u e}};{rw[<-hx]at Z;exact h.val y u Z}
  have H:l8 B x:=by rw[<-hx];exact hs.alike rfl
  obtain⟨c1,c2⟩:=OB o2 Y H Q;rw[hx];split;{refine⟨⟨λp y u Z=> ?_,c1.val,?_⟩,c2⟩;{have e:(if p=i then qz (x.change.O i) x.change.K else x.change.O p) y=μ u:=Z;show x.change.K y=μ u;split at e;{unfold qz at e;split at e;{exact e};{exact c1.tie i y u e}};{exact c1.tie p y u e}};{exact(c1.own).trans (oP rfl λ_=>⟨rfl,rfl,rfl⟩).symm}};{exact⟨c1,c2⟩}
theorem SM(h:Own r)(iO:ln r)(hs:l8 B r)(hB:B<1000000)(i:Nat)(l:List UInt8)(hl:(ij l).2.2.2=0->(ij l).2.1<=B):Own (jj r i l)/\l8 (B+1) (jj r i l):=by
 unfold jj;simp only;split;{exact⟨h,hs.mono dZ⟩}
 ·rename_i h1
  have E:(ij l).2.2.2=0:=dZ;have hv:oA (ij l).1 (ij l).2.1 (ij l).2.2.1=0:=pO (by rw[<-E]);have M:=hl E;have qu:=(ju hv).2.1;split;{exact Fv ⟨h.tie,h.val⟩ iO hs dZ M hB}
  ·rename_i h2
   generalize (ij l).1=own,(ij l).2.1=seq,(ij l).2.2.1=es at*;have G:∀x u,lr r.K own seq es x=μ u->r.K x=μ u \/(x=own/\u=(seq,es)/\0<newF r.K own seq es):=λx u U=>by
    unfold lr at U;split at U
    ·rename_i g
     have e:(if x=own then μ (seq,es)else r.K x)=μ u:=U;split at e;{rename_i Z;injection e with e;exact .inr ⟨Z,e.symm,g⟩};{exact .inl e}
    ·exact .inl U
   have J:Own {r with K:=lr r.K own seq es,O:=oT r.K r.O i own seq es} /\l8 B {r with K:=lr r.K own seq es,O:=oT r.K r.O i own seq es}:=by
    refine⟨⟨λp x u U=> ?_,λx u U=> ?_,?_⟩,λx u U=> ?_⟩
    ·have Y:oT r.K r.O i own seq es p x=μ u:=U;show lr r.K own seq es x=μ u;unfold oT at Y;unfold lr;by_cases g:0<newF r.K own seq es;{rw[ai g]at Y⊢;show(if x=own then μ (seq,es)else r.K x)=μ u;split at Y;{have e:(if x=own then ν else if x=own then μ (seq,es)else r.O i x)=μ u:=Y;by_cases Z:x=own;{rw[ai Z]at e;exact absurd e gU};{rw[af Z,af Z]at e;rw[af Z];exact h.tie i x u e}};{have e:(if x=own then μ (seq,es)else r.O p x)=μ u:=Y;by_cases Z:x=own;{rw[ai Z]at e⊢;exact e};{rw[af Z]at e⊢;exact h.tie p x u e}}}
     ·rw[af g]at Y⊢;by_cases Q:newF r.K own seq es<0
      ·rw[ai Q]at Y;split at Y
       ·cases H:r.K own with
        |none=>rw[H]at Y;exact h.tie i x u Y
        |some q=>
         rw[H]at Y;have e:(if x=own then μ q else r.O i x)=μ u:=Y;by_cases Z:x=own;{rw[ai Z]at e;rw[Z,H];exact e};{rw[af Z]at e;exact h.tie i x u e}
       ·exact h.tie p x u Y
      ·rw[af Q]at Y;split at Y;{have e:(if x=own then ν else r.O i x)=μ u:=Y;by_cases Z:x=own;{rw[ai Z]at e;exact absurd e gU};{rw[af Z]at e;exact h.tie i x u e}};{exact h.tie p x u Y}
    ·rcases G x u U with g|⟨g1,Q,_⟩
     {exact h.val x u g};{rw[g1,Q];exact hv}
    ·have j:jx {r with K:=lr r.K own seq es,O:=oT r.K r.O i own seq es}=jx r:=oP rfl λ_=>⟨rfl,rfl,rfl⟩
     rw[j,<-h.own];show CY (lr r.K own seq es) r.id=_;have:lr r.K own seq es r.id=r.K r.id:=by
      unfold lr;split
      ·rename_i g
       have Z:r.id≠own:=λe=>h2 ⟨e.symm,g⟩;show(if r.id=own then _ else _)=_;rw[af Z]
      ·rfl
     unfold CY;rw[this]
    ·rcases G x u U with g|⟨_,Q,_⟩
     {exact hs x u g};{rw[Q];exact M}
   split
   ·refine⟨J.1.alike rfl rfl rfl rfl λp=> ?_,(J.2.alike (s:=iN.iU _ i _) rfl).mono dZ⟩;rw[kO];split
    ·rename_i e
     rw[e];have A:∀(p:jv) c s,(p.put c s).m=p.m/\(p.put c s).pe=p.pe:=λp c s=>by unfold jv.put;split<;>(try split)<;>exact⟨rfl,rfl⟩
     rw[(A _ _ _).1,(A _ _ _).2];exact⟨rfl,rfl,rfl⟩
    ·exact⟨rfl,rfl,rfl⟩
   ·exact⟨J.1,J.2.mono dZ⟩
theorem SN(h:Own r)(i:Nat)(l:List UInt8):Own (kC r i l)/\(kC r i l).K=r.K:=by
 unfold kC;simp only;split;{refine⟨⟨λp x u Y=> ?_,h.val,h.own.trans (oP rfl λ_=>⟨rfl,rfl,rfl⟩).symm⟩,rfl⟩;have e:(if p=i/\0<=newF r.K (ij l).1 (ij l).2.1 (ij l).2.2.1 then yD (r.O i) (ij l).1 else r.O p) x=μ u:=Y;show r.K x=μ u;split at e;{have Z:(if x=(ij l).1 then ν else r.O i x)=μ u:=e;split at Z;{exact absurd Z gU};{exact h.tie i x u Z}};{exact h.tie p x u e}};{exact⟨h,rfl⟩}
theorem sd(p:jv)(c:UInt8)(s:List UInt8):(p.put c s).m=p.m/\(p.put c s).pe=p.pe:=by unfold jv.put;split<;>(try split)<;>exact⟨rfl,rfl⟩
theorem np(r:iN)(t:zb):(r.send t).K=r.K/\(r.send t).O=r.O/\(r.send t).id=r.id/\(r.send t).n=r.n/\∀p,((r.send t).P p).m=(r.P p).m/\((r.send t).P p).pe=(r.P p).pe/\((r.send t).P p).L=(r.P p).L:=by
 unfold iN.send;split;{exact⟨rfl,rfl,rfl,rfl,λ_=>⟨rfl,rfl,rfl⟩⟩};{split;{exact⟨rfl,rfl,rfl,rfl,λ_=>⟨rfl,rfl,rfl⟩⟩};{refine⟨rfl,rfl,rfl,rfl,λp=> ?_⟩;rw[kO];split;{rename_i e;rw[e,(sd _ _ _).1,(sd _ _ _).2,wM];exact⟨rfl,rfl,rfl⟩};{exact⟨rfl,rfl,rfl⟩}}}
theorem Mg(h:Own r)(t:zb):Own (r.send t):=by
 obtain⟨a,b,c,d,e⟩:=np r t;exact h.alike a b c d λp=>by rw[(e p).1,(e p).2.1];exact⟨rfl,rfl,rfl⟩
def SP(q:lD):Nat:=if q.who=0/\q.both=false then 0 else 1
def qX(r:iN):Nat:=SP (r.P 0).pe+SP (r.P 1).pe+SP (r.P 2).pe
theorem pQ(h:∀p,(s.P p).pe=(r.P p).pe):qX s=qX r:=by unfold qX;rw[h,h,h]
theorem Fx(hi:i<3)(q:lD):qX (r.meet i q)+SP (r.P i).pe=qX r+SP q:=by
 have h:=λp=>(kc r i q p).2.2.2;unfold qX;rw[h,h,h];have:i=0 \/i=1 \/i=2:=dZ;rcases this with rfl|rfl|rfl
 {rw[ai rfl,af ew,af ew];omega};{rw[af ew,ai rfl,af ew];omega};{rw[af ew,af ew,ai rfl];omega}
theorem adN(a b:lD):dif a b<=1:=by unfold dif;split<;>decide
theorem adO(a:lD):SP a<=1:=by unfold SP;split<;>decide
theorem Fy(q:lD):dif nobody q+SP nobody<=SP q:=by
 unfold dif SP;show(if(0:Int)=q.who/\false=q.both then 0 else 1)+(if(0:Int)=0/\false=false then 0 else 1)<=_;rw[ai (⟨rfl,rfl⟩:(0:Int)=0/\false=false)];by_cases e:q.who=0/\q.both=false;{rw[ai ⟨e.1.symm,e.2.symm⟩];omega};{rw[af (λh=>e ⟨h.1.symm,h.2.symm⟩),af e];exact Nat.le_refl _}
theorem Wx(q:lD):dif (iJ q) q+SP (iJ q)<=SP q:=by
 unfold iJ;split;{exact Fy q};{unfold dif SP;rw[ai ⟨rfl,rfl⟩];simp}
def sw:la->Nat
 |72::_=>2
 |83::_=>1
 |_=>0
def Aa(B:Nat)(x:la):Prop:=∀s,x=83::s->(ij s).2.2.2=0->(ij s).2.1<=(B:Int)
theorem Aa.mono(h:Aa B x)(hc:B<=C):Aa C x:=λs e Z=>by have:=h s e Z;omega
theorem Bz(h:Own r)(Z:ln r)(hs:l8 B r)(Y:B<1000000)(hi:i<3):∃C,Own (r.meet i nobody)/\l8 C (r.meet i nobody)/\B<=C/\C+qX (r.meet i nobody)<=B+qX r:=by
 obtain⟨a,b⟩:=Fw h Z hs Y i (oj.nobody Z.id.1);have h1:=Fx (r:=r) hi nobody;have h2:=Fy (r.P i).pe;exact⟨_,a,b,dZ,dZ⟩
theorem SQ(h:Own r)(J:ln r)(hs:l8 B r)(U:B<1000000)(hi:i<3)(x:la)(hx:Aa B x):∃C,Own (jN r i x)/\l8 C (jN r i x)/\B<=C/\C+qX (jN r i x)<=B+qX r+sw x:=by
 cases x with
 |nil=>exact⟨B,h,hs,Nat.le_refl _,by show B+qX r<=_;omega⟩
 |cons c s=>
  show∃C,Own (r.take i c s)/\l8 C (r.take i c s)/\B<=C/\C+qX (r.take i c s)<=B+qX r+sw (c::s);have hl:Own (j1 r i c s)/\l8 B (j1 r i c s)/\qX (j1 r i c s)=qX r:=by
   unfold j1;split
   ·have e:∀p,((r.iU i ((r.P i).packet s)).P p).m=(r.P p).m/\((r.iU i ((r.P i).packet s)).P p).pe=(r.P p).pe:=λp=>by
     rw[kO];split;{rename_i e;rw[e,(uu _ _).1,(uu _ _).2];exact⟨rfl,rfl⟩};{exact⟨rfl,rfl⟩}
    exact⟨h.alike rfl rfl rfl rfl λp=>by rw[(e p).1,(e p).2];exact⟨rfl,rfl,rfl⟩,hs.alike rfl,pQ λp=>(e p).2⟩
   ·exact⟨h,hs,rfl⟩
  have Y:=J.link i c s;rw[lJ];obtain⟨r1,M⟩:=gg (j1 r i c s);have pU:r1.id=r.id:=by rw[<-M];exact(jG.link r i c s).id
  rw[M]at hl Y⊢;obtain⟨l1,l2,l3⟩:=hl;split;{obtain⟨C,a,b,c1,c2⟩:=Bz l1 Y l2 U hi;exact⟨C,a,b,c1,dZ⟩}
  ·unfold mB;split
   ·rename_i hc
    split
    ·rename_i Q
     obtain⟨a,b⟩:=Fw l1 Y l2 U i (oj.YL (s:=(kG s).2.1) Y.id.1 (EO Q));have h1:=Fx (r:=r1) hi (jg r1.id (kG s).1 (kG s).2.1);have h2:=adN (jg r1.id (kG s).1 (kG s).2.1) (r1.P i).pe;have h3:=adO (jg r1.id (kG s).1 (kG s).2.1);exact⟨_,a,b,dZ,by rw[hc];show _<=B+qX r+2;omega⟩
    ·exact⟨B,l1,l2,Nat.le_refl _,dZ⟩
   ·split
    ·rename_i hc
     obtain⟨a,b⟩:=SM l1 Y l2 U i s λQ=>hx s (by rw[hc]) Q;have e:qX (jj r1 i s)=qX r1:=pQ λp=>(kh.state r1 i s p).2;exact⟨_,a,b,dZ,by rw[hc,e];show _<=B+qX r+1;omega⟩
    ·split
     ·obtain⟨a,b⟩:=SN l1 i s;have e:qX (kC r1 i s)=qX r1:=pQ λp=>by unfold kC;simp only;split<;>rfl
      exact⟨B,a,l2.alike b,Nat.le_refl _,by rw[e];omega⟩
     ·split;{unfold ry;split;{have Z:=np r1 (((s.getD 0 0).toNat:Int),((s.getD 1 0).toNat:Int),s.drop 2);exact⟨B,Mg l1 _,l2.alike Z.1,Nat.le_refl _,by rw[pQ λp=>(Z.2.2.2.2 p).2.1];omega⟩};{exact⟨B,l1,l2,Nat.le_refl _,dZ⟩}};{exact⟨B,l1,l2,Nat.le_refl _,dZ⟩}
theorem lS(r:iN)(i p:Nat):((jb r i).P p).m=(r.P p).m/\((jb r i).P p).pe=(r.P p).pe:=by
 unfold jb;rw[kO];split;{rename_i e;rw[e,(sN _).1,(sN _).2.1];exact⟨rfl,rfl⟩};{exact⟨rfl,rfl⟩}
theorem pG(r:iN)(i:Nat):(mJ r i).K=r.K/\(mJ r i).O=r.O/\(mJ r i).id=r.id/\(mJ r i).n=r.n/\∀p,((mJ r i).P p).m=(r.P p).m/\((mJ r i).P p).pe=(r.P p).pe/\((mJ r i).P p).L=(r.P p).L:=by
 have hA:∀(l:List (Int×PS)) (p:jv),(p.kH l).m=p.m:=λl=>by
  induction l with
  |nil=>intro p;rfl
  |cons q r ih=>intro p;show((p.put 83 _).kH r).m=_;rw[ih,(sd _ _ _).1]
 refine⟨rfl,rfl,rfl,rfl,λp=> ?_⟩;unfold mJ;simp only;rw[kO];split
 ·rename_i e
  rw[e];split;{rw[hA,(wN _ _).1,(wN _ _).2,(sd _ _ _).1,(sd _ _ _).2,wM];exact⟨rfl,rfl,rfl⟩};{rw[(sd _ _ _).1,(sd _ _ _).2,wM];exact⟨rfl,rfl,rfl⟩}
 ·exact⟨rfl,rfl,rfl⟩
theorem BA(h:Own r)(M:ln r)(hs:l8 B r)(U:B<1000000)(hi:i<3)(hn:r.n=3):∃C,Own (r.iW i)/\l8 C (r.iW i)/\B<=C/\C+qX (r.iW i)<=B+qX r/\ln (r.iW i):=by
 rw[k7];have Z:Own (jb r i):=h.alike rfl rfl rfl rfl λp=>by rw[(lS r i p).1,(lS r i p).2];exact⟨rfl,rfl,rfl⟩
 have s1:l8 B (jb r i):=hs.alike rfl;have k1:=M.jb i;have c1:qX (jb r i)=qX r:=pQ λp=>(lS r i p).2;have n1:(jb r i).n=r.n:=rfl;obtain⟨r1,J⟩:=gg (jb r i);rw[J]at Z s1 k1 c1 n1⊢;split;{obtain⟨C,a,b,c,d⟩:=Bz Z k1 s1 U hi;exact⟨C,a,b,c,dZ,k1.meet i (oj.nobody k1.id.1)⟩};{have Q:=oj.tick k1.id.1 (k1.pe i dZ);obtain⟨a,b⟩:=Fw Z k1 s1 U i Q;have h2:=Fx (r:=r1) hi (iJ (r1.P i).pe);have h3:=Wx (r1.P i).pe;obtain⟨t1,t2,H,G,Y⟩:=pG (r1.meet i (iJ (r1.P i).pe)) i;refine⟨_,a.alike t1 t2 H G λp=> ?_,b.alike t1,dZ,?_,(k1.meet i Q).tell i⟩;{rw[(Y p).1,(Y p).2.1];exact⟨rfl,rfl,rfl⟩};{rw[pQ λp=>(Y p).2.1];omega}}
theorem Wy(h:Own r)(Y:ln r)(hs:l8 B r)(Q:B<1000000)(hi:i<3)(up:Bool):∃C,Own (r.iH i up).1/\l8 C (r.iH i up).1/\B<=C/\C+qX (r.iH i up).1<=B+qX r/\ln (r.iH i up).1:=by
 unfold iN.iH;simp only;split;{exact⟨B,h,hs,Nat.le_refl _,Nat.le_refl _,Y⟩}
 ·have e:((r.P i).iH up).1.m=(r.P i).m/\((r.P i).iH up).1.pe=(r.P i).pe:=by
   unfold jv.iH;generalize kY (r.P i).L (if up=true then 0 else 1)=E;simp only;split;{exact⟨rfl,rfl⟩};{rw[(wF _ _).1,(wF _ _).2];exact⟨rfl,rfl⟩}
  have Z:∀p,((r.iU i ((r.P i).iH up).1).P p).m=(r.P p).m/\((r.iU i ((r.P i).iH up).1).P p).pe=(r.P p).pe:=λp=>by
   rw[kO];split;{rename_i g;rw[g];exact e};{exact⟨rfl,rfl⟩}
  have U:Own (r.iU i ((r.P i).iH up).1):=h.alike rfl rfl rfl rfl λp=>by rw[(Z p).1,(Z p).2];exact⟨rfl,rfl,rfl⟩
  have k1:ln (r.iU i ((r.P i).iH up).1):=Y.iU i _ e.1 λhi=>by rw[e.2];exact Y.pe i hi
  obtain⟨C,a,b,c,d⟩:=Bz U k1 (hs.alike (s:=r.iU i _) rfl) Q hi;exact⟨C,a,b,c,by rw[pQ λp=>(Z p).2]at d;exact d,k1.meet i (oj.nobody k1.id.1)⟩
structure vG(B N:Nat)(a:AN):Prop where
 r:∀i,i<a.n->Own (a.R i)/\ln (a.R i)/\l8 B (a.R i)/\(a.R i).id=(i:Int)+1/\(a.R i).n=3
 f:∀c d,c<a.nc->d<2->∀x∈a.F c d,Aa B x
 b:B+a.W sw+sm (λi=>qX (a.R i)) (fW a.n)<=N
 one:1<=B
 ms:∀i p,i<a.n->p<3->1<=a.ms i p/\a.ms i p<=20
theorem Wz(h:Own s):Own s.core:=h.alike rfl rfl rfl rfl λ_=>⟨rfl,rfl,rfl⟩
theorem Zx(h:ln s):ln s.core:=⟨h.id,h.m,h.pe,h.own,h.PE⟩
theorem own_op {a:AN} (hB:tI a)(h:vG B N a)(i:Nat)(hi:i<a.n)(s:iN)(C k:Nat)(E:Own s)(A:ln s)(u:l8 C s)(h4:s.id=(i:Int)+1)(h5:s.n=3)(Z:B<=C)(U:∀p,∀x∈jl (s.P p),Aa C x)(hb:C+qX s+(sm sw (jl (s.P 0))+sm sw (jl (s.P 1))+sm sw (jl (s.P 2)))<=B+qX (a.R i)+k):vG C (N+k) (a.op i s):=by
 refine⟨λj hj=> ?_,λc d hc hd x hx=> ?_,?_,by have:=h.one;omega,h.ms⟩;{show Own (jU a.R i s.core j)/\ln (jU a.R i s.core j)/\l8 C (jU a.R i s.core j)/\(jU a.R i s.core j).id=_/\(jU a.R i s.core j).n=3;by_cases e:j=i;{rw[e,iE];exact⟨Wz E,Zx A,u.alike (s:=s.core) rfl,h4,h5⟩};{rw[iC _ _ e];obtain⟨Q,M,J,H,G⟩:=h.r j hj;exact⟨Q,M,J.mono Z,H,G⟩}}
 ·rw[vF]at hx;split at hx
  ·rcases av.1 hx with e|e
   {exact(h.f c d hc hd x e).mono Z};{exact U _ x e}
  ·exact(h.f c d hc hd x hx).mono Z
 ·have h6:=adL hB i s sw;have h7:sm (λj=>qX ((a.op i s).R j)) (fW a.n)+qX (a.R i)<=sm (λj=>qX (a.R j)) (fW a.n)+qX s:=by
   have Y:sm (λj=>qX ((a.op i s).R j)+(if j=i then qX (a.R i)else 0)) (fW a.n)<=sm (λj=>qX (a.R j)+(if j=i then qX s else 0)) (fW a.n):=vv λj _=>by
    show qX (jU a.R i s.core j)+_<=_;by_cases e:j=i;{subst e;rw[iE,ai rfl,ai rfl];have:qX s.core=qX s:=rfl;omega};{rw[iC _ _ e,af e,af e];exact Nat.le_refl _}
   rw[Ft,Ft,JK i _ bY,JK i _ bY,ai (aP.2 hi),ai (aP.2 hi)]at Y;exact Y
  have h8:=h.b;show C+(a.op i s).W sw+sm (λj=>qX ((a.op i s).R j)) (fW a.n)<=N+k;omega
theorem xG {F:Int->Option PS} {y:Int×PS} (h:y∈lE F):F y.1=μ y.2:=by
 unfold lE at h;obtain⟨j,_,Z⟩:=cE.1 h;cases e:F ((j:Int)+1)with
 |none=>rw[e]at Z;simp at Z
 |some q=>rw[e]at Z;simp only[Option.map_some,Option.some.injEq]at Z;rw[<-Z];exact e
theorem rQ {l:List kN} (h:x∈l.flatMap oo):∃s,x=76::s:=by
 obtain⟨q,_,Z⟩:=aT.1 h;unfold oo at Z;split at Z;{exact⟨_,ar.1 Z⟩};{simp at Z}
theorem Ab:∀ {l:List la},(∀x∈l,sw x=0)->sm sw l=0
 |[],_=>rfl
 |x::l,h=>by
  have:=Ab (l:=l) λy hy=>h y (by simp[hy]);have h1:=h x gU;show sw x+sm sw l=0;omega
theorem Qb:∀l:List (Int×PS),sm sw (l.flatMap DC)<=l.length
 |[] =>Nat.le_refl _
 |q::l=>by
  have:=Qb l;rw[cg,pP];have h1:sm sw (DC q)<=1:=by
   unfold DC;split;{exact Nat.le_refl _};{exact Nat.zero_le _}
  simp only[eQ];omega
theorem Qc {p:Nat} {l:List la} (h:Fu r i x p l):(∀y∈l,sw y=0)/\∀B,∀y∈l,Aa B y:=by
 have Z:∀(c:UInt8) (s:List UInt8),c≠72->c≠83->sw (c::s)=0/\∀B,Aa B (c::s):=λc s U Y=>by
  refine⟨?_,λB t e=>absurd (aC e).1 Y⟩;unfold sw;split;{rename_i e;exact absurd (aC e).1 U};{rename_i e;exact absurd (aC e).1 Y};{rfl}
 cases h with
 |none h=>rw[h];exact⟨λ_ h=>by simp at h,λ_ _ h=>by simp at h⟩
 |link s _ _ _ h=>
  rw[h];exact⟨λy hy=>by obtain⟨s,rfl⟩:=rQ hy;exact(Z 76 s ew ew).1,λB y hy=>by obtain⟨s,rfl⟩:=rQ hy;exact(Z 76 s ew ew).2 B⟩
 |heard s _ _ _ _ _ _ _ h=>
  rw[h];exact⟨λy hy=>by rw[ar.1 hy];exact(Z 65 _ ew ew).1,λB y hy=>by rw[ar.1 hy];exact(Z 65 _ ew ew).2 B⟩
 |JL a b s _ _ _ _ h=>
  rw[h];exact⟨λy hy=>by rw[ar.1 hy];exact(Z 77 _ ew ew).1,λB y hy=>by rw[ar.1 hy];exact(Z 77 _ ew ew).2 B⟩
theorem Mh(h:ln r)(i:Nat)(x:la):ln (jN r i x)/\(jN r i x).id=r.id/\(jN r i x).n=r.n:=by
 cases x with
 |nil=>exact⟨h,rfl,rfl⟩
 |cons c s=>exact⟨h.take i c s,(Oa r i c s).2,(Oa r i c s).1⟩
theorem JN(r:iN)(i:Nat)(up:Bool):(r.iH i up).1.id=r.id/\(r.iH i up).1.n=r.n:=⟨(jG.iH r i up).id,(jG.iH r i up).n⟩
theorem JO(h:∀p,∀y∈jl (s.P p),sw y=0):sm sw (jl (s.P 0))+sm sw (jl (s.P 1))+sm sw (jl (s.P 2))=0:=by
 rw[Ab (h 0),Ab (h 1),Ab (h 2)]
theorem Qd(h:Ke r)(i:Nat)(up:Bool):∀p,∀y∈jl ((r.iH i up).1.P p),∃s,y=76::s:=λp y hy=>by
 by_cases Z:(kY (r.P i).L (if up=true then 0 else 1)).2.2=0;{obtain⟨a,b,_⟩:=JM h i up Z;by_cases e:p=i;{subst e;rw[b]at hy;exact rQ hy};{rw[a p e]at hy;simp at hy}}
 ·have:(r.iH i up).1=r:=by
   unfold iN.iH jv.iH;generalize kY (r.P i).L (if up=true then 0 else 1)=E at*;simp only;rw[ai Z];simp only;rw[ai Z]
  rw[this,jz (h p)]at hy;simp at hy
theorem WA(s:List UInt8):sw (76::s)=0/\∀B,Aa B (76::s):=⟨rfl,λB t e=>absurd (aC e).1 ew⟩
theorem BD {a:AN} (Z:tI a)(E:Norm a)(h:vG B N a)(hl:N<1000000)(hc:c<a.nc)(hd:d<2)(up:Bool):∃C,vG C N (a.nI c d up):=by
 obtain⟨hi,A⟩:=Z.en c d hc hd;obtain⟨U,Q,M,J,H⟩:=h.r _ hi;obtain⟨C,c1,c2,c3,c4,G⟩:=Wy U Q M (by have:=h.b;omega) A up;have Y:=Qd (E.emp (a.e c d).1) (a.e c d).2 up;refine⟨C,own_op Z h _ hi _ C 0 c1 G c2 ((JN _ _ _).1.trans J) ((JN _ _ _).2.trans H) c3 (λp x hx=> ?_) ?_⟩;{obtain⟨s,rfl⟩:=Y p x hx;exact(WA s).2 C};{rw[JO λp y hy=>by obtain⟨s,rfl⟩:=Y p y hy;rfl];omega}
theorem Mi {a:AN} (H:tI a)(G:Norm a)(h:vG B N a)(hl:N<1000000)(hc:c<a.nc)(up:Bool):∃C,vG C N (a.iH c up):=by
 obtain⟨b,hb⟩:=gg ((({a with iQ:=jU a.iQ c up}:AN).lv c 0 []).lv c 1 []);have Y:tI b:=H.same (by rw[<-hb];rfl) (by rw[<-hb];rfl) (by rw[<-hb];rfl);have U:Norm b:=by rw[<-hb];exact G
 have Q:c<b.nc:=by rw[<-hb];exact hc
 have M:vG B N b:=by
  have w1:=DB {a with iQ:=jU a.iQ c up} sw c 0;have A:=DB (({a with iQ:=jU a.iQ c up}:AN).lv c 0 []) sw c 1;have w3:=h.b;rw[hb]at A;have e1:({a with iQ:=jU a.iQ c up}:AN).W sw=a.W sw:=rfl;refine⟨by rw[<-hb];exact h.r,λx f hx hf y hy=> ?_,?_,h.one,by rw[<-hb];exact h.ms⟩
  ·have E:y∈a.F x f \/y∈([] :List la):=by
    rw[<-hb]at hy;have Z:y∈(if x=c/\f=1 then []else if x=c/\f=0 then []else a.F x f):=hy;split at Z;{exact .inr Z};{split at Z;{exact .inr Z};{exact .inl Z}}
   rcases E with g|g
   {exact h.f x f (by rw[<-hb]at hx;exact hx) hf y g};{simp at g}
  ·have Z:sm (λi=>qX (b.R i)) (fW b.n)=sm (λi=>qX (a.R i)) (fW a.n):=by rw[<-hb];rfl
   omega
 obtain⟨C,J⟩:=BD Y U M hl Q (by decide:0<2) up;unfold AN.iH;rw[hb];exact BD (a:=b.nI c 0 up) (Y.same rfl rfl rfl) (qW U _ _) J hl Q (by decide:1<2) up
theorem mR.own {a b:AN} (h:mR a T S b)(U:tI a)(u:Norm a)(Z:vG B N a)(hl:N<1000000):∃C,vG C (N+8*T.length) b:=by
 have hBl:=Z.b;cases h with
 |lost h=>
  refine⟨B,by rw[h.1];exact Z.r,λc d hc hd x hx=> ?_,?_,Z.one,by rw[h.1];exact Z.ms⟩;{obtain⟨m,hm⟩:=h.2 c d;rw[hm]at hx;rw[h.1]at hc;exact Z.f c d hc hd x (di hx)}
  ·have h1:=adK h sw;have e:sm (λi=>qX (b.R i)) (fW b.n)=sm (λi=>qX (a.R i)) (fW a.n):=by rw[h.1]
   show _<=N+0;omega
 |tick i p hi hp=>
  obtain⟨H,Q,G,E,M⟩:=Z.r i hi;obtain⟨C,c1,c2,c3,c4,c5⟩:=BA H Q G dZ hp M;obtain⟨A,e2⟩:=xF (u.emp i) p;have pU:((a.R i).iW p).id=(i:Int)+1/\((a.R i).iW p).n=3:=⟨(jG.iW (a.R i) p).id.trans E,(jG.iW (a.R i) p).n.trans M⟩
  have hOp:((a.R i).iW p).O=((jb (a.R i) p).meet p (iJ ((a.R i).P p).pe)).O \/(jd ((a.R i).P p).L).1.st≠9:=by
   by_cases h9:(jd ((a.R i).P p).L).1.st=9
   ·left;have kd:((jb (a.R i) p).P p).L.st=9:=by
     unfold jb;rw[kO,ai rfl];rw[sP];exact h9
    rw[k7,af (by rw[kd];simp),(lS _ _ _).2];rfl
   ·exact .inr h9
  refine⟨C,own_op U Z i hi _ C 8 c1 c5 c2 pU.1 pU.2 c3 (λq x hx=> ?_) ?_⟩
  ·by_cases e:q=p
   ·subst e;rw[e2]at hx;rcases av.1 hx with g|g
    ·obtain⟨s,rfl⟩:=rQ g;exact(WA s).2 C
    ·split at g
     ·rename_i h9
      rcases aO.1 g with g|g
      {rw[g];intro s e;exact absurd (aC e).1 ew};{split at g;{obtain⟨y,hy,Da⟩:=aT.1 g;unfold DC at Da;split at Da;{rw[ar.1 Da];intro s e hz;rw[<-(aC e).2];have hK:=c1.tie q y.1 y.2 (by rw[hOp.resolve_right (by rw[h9];simp)];exact xG hy);rw[nP _ _ _ (c1.val _ _ hK)];exact c2 _ _ hK};{simp at Da}};{simp at g}}
     ·simp at g
   ·rw[A q e]at hx;simp at hx
  ·have hp3:p=0 \/p=1 \/p=2:=dZ;have hs:sm sw (jl (((a.R i).iW p).P p))<=8:=by
    rw[e2,pP,Ab λx hx=>by obtain⟨s,rfl⟩:=rQ hx;rfl];split;{have e3:∀(x:la) l,sm sw (x::l)=sw x+sm sw l:=λ_ _=>rfl;rw[e3];have e4:sw (72::[jY (a.R i).id,jY (iJ ((a.R i).P p).pe).who])=2:=rfl;split;{have:=Qb (lE (((jb (a.R i) p).meet p (iJ ((a.R i).P p).pe)).O p));have:=Bi (((jb (a.R i) p).meet p (iJ ((a.R i).P p).pe)).O p);omega};{have e5:sm sw [] =0:=rfl;omega}};{have e5:sm sw [] =0:=rfl;omega}
   have J:∀q,q≠p->sm sw (jl (((a.R i).iW p).P q))=0:=λq hq=>by rw[A q hq];rfl
   rcases hp3 with rfl|rfl|rfl
   {rw[J 1 ew,J 2 ew];omega};{rw[J 0 ew,J 2 ew];omega}
   ·rw[J 0 ew,J 1 ew];omega
 |pop c d x l hc hd hF=>
  obtain⟨hi,hp⟩:=U.en c (1-d) hc dZ;have hw:=abd sw hc hd hF;have h1:vG B (N-sw x) (a.lv c d l):=by
   refine⟨Z.r,λy f hy hf z hz=> ?_,?_,Z.one,Z.ms⟩
   ·rw[sQ]at hz;split at hz
    ·rename_i e
     exact Z.f c d hc hd z (by rw[hF];simp[hz])
    ·exact Z.f y f hy hf z hz
   ·show B+(a.lv c d l).W sw+sm (λi=>qX (a.R i)) (fW a.n)<=_;omega
  obtain⟨H,Q,G,E,M⟩:=Z.r _ hi;obtain⟨C,c1,c2,c3,c4⟩:=SQ H Q G dZ hp x (Z.f c d hc hd x (by rw[hF];simp));obtain⟨t1,t2,t3⟩:=Mh Q (a.e c (1-d)).2 x;obtain⟨m1,_⟩:=qq (u.emp (a.e c (1-d)).1) (a.e c (1-d)).2 x;have h2:=own_op (a:=a.lv c d l) (U.same rfl rfl rfl) h1 _ hi (jN (a.R (a.e c (1-d)).1) (a.e c (1-d)).2 x) C (sw x) c1 t1 c2 (t2.trans E) (t3.trans M) c3 (λq y hy=>(Qc (m1 q)).2 C y hy) (by
   rw[JO λq y hy=>(Qc (m1 q)).1 y hy];show C+_+0<=B+qX (a.R (a.e c (1-d)).1)+sw x;omega)
  refine⟨C,?_⟩;have e:N-sw x+sw x=N+8*0:=dZ;rw[e]at h2;exact h2
 |send i t tx hi _ _ _=>
  obtain⟨H,Q,G,E,M⟩:=Z.r i hi;obtain⟨s1,s2,s3,s4,s5⟩:=np (a.R i) (t,8,tx);obtain⟨j,g1,g2⟩:=DE (u.emp i) (t,8,tx);have hq:∀p,∀y∈jl (((a.R i).send (t,8,tx)).P p),∃s,y=77::s:=λp y hy=>by
   by_cases e:p=j
   ·subst e;rcases g2 with g|⟨_,g⟩
    {rw[g]at hy;simp at hy};{rw[g]at hy;exact⟨_,ar.1 hy⟩}
   ·rw[g1 p e]at hy;simp at hy
  refine⟨B,own_op U Z i hi _ B 0 (Mg H _) (Q.send _) (G.alike s1) (s3.trans E) (s4.trans M) (Nat.le_refl _) (λp x hx=> ?_) ?_⟩;{obtain⟨s,rfl⟩:=hq p x hx;intro t e;exact absurd (aC e).1 ew}
  ·rw[JO λp y hy=>by obtain⟨s,rfl⟩:=hq p y hy;rfl,pQ λp=>(s5 p).2.1];omega
 |iH c hc _ _ _=>
  obtain⟨C,h⟩:=Mi U u Z hl hc true;exact⟨C,h.r,h.f,Nat.le_trans h.b (Nat.le_add_right _ _),h.one,h.ms⟩
 |draw c hc _=>exact Mi U u Z hl hc false
 |anew i m hi hd=>
  have pU:(1:Int)<=(i:Int)+1/\(i:Int)+1<=6:=by have:=U.n6;omega
  have hR:∀j,({a with R:=jU a.R i (jO ((i:Int)+1) 3 (a.ms i)),ib:=jU a.ib i ((a.ib i).take m)}:AN).R j=if j=i then jO ((i:Int)+1) 3 (a.ms i)else a.R j:=λj=>rfl
  refine⟨B,λj hj=> ?_,Z.f,?_,Z.one,Z.ms⟩
  ·rw[hR];by_cases e:j=i
   ·subst e;rw[ai rfl];refine⟨⟨λp x q h=>h,λx q h=> ?_,?_⟩,zQ pU (Z.ms j · hi),λx q h=> ?_,rfl,rfl⟩
    ·have Y:(if x=(j:Int)+1 then μ ((1:Int),([] :List jJ))else ν)=μ q:=h;split at Y
     ·rename_i e;injection Y with Y;rw[<-Y,e]
      unfold oA;rw[af dZ,af gU];rfl
     ·exact absurd Y gU
    ·have A:CY (jO ((j:Int)+1) 3 (a.ms j)).K (jO ((j:Int)+1) 3 (a.ms j)).id=[] :=by
      show(match (if(j:Int)+1=(j:Int)+1 then some ((1:Int),([] :List jJ))else none)with|none=>[] |some q=>q.2)=_;rw[ai rfl]
     rw[A];have e2:∀n k,jQ (jO ((j:Int)+1) 3 (a.ms j)).P n k=ν:=λn k=>by
      induction k with
      |zero=>rfl
      |succ k ih=>unfold jQ;rw[af (λh=>absurd h.1 (show¬false=true by simp)),ih]
     unfold jx;simp only[e2,Option.map_none];rfl
    ·have Y:(if x=(j:Int)+1 then μ ((1:Int),([] :List jJ))else ν)=μ q:=h;split at Y;{injection Y with Y;rw[<-Y];have:=Z.one;show(1:Int)<=_;omega};{exact absurd Y gU}
   ·rw[af e];exact Z.r j hj
  ·have A:sm (λj=>qX (({a with R:=jU a.R i (jO ((i:Int)+1) 3 (a.ms i)),ib:=jU a.ib i ((a.ib i).take m)}:AN).R j)) (fW a.n)<=sm (λj=>qX (a.R j)) (fW a.n):=vv λj _=>by
    rw[hR];split;{exact Nat.zero_le _};{exact Nat.le_refl _}
   show B+a.W sw+sm (λj=>qX (({a with R:=jU a.R i (jO ((i:Int)+1) 3 (a.ms i)),ib:=jU a.ib i ((a.ib i).take m)}:AN).R j)) (fW a.n)<=N+0;omega
def nZ(g:Int):List jJ:=[(1,255),(5,g)]
structure LI(g:Int)(L:LS):Prop where
 fs:L.fs=255
 fm:L.fm=g
 ns:L.ns=255
 nm:L.nm=g
 q:6<=L.st->L.qs=255/\L.qm=g
 st:L.st=1 \/(6<=L.st/\L.st<=9)
 k:Av L
theorem Iv {s:LS} {ev:Int} {nx:Int} (zh:kN)(h:jh s.st ev=(l,nx,0)):sY s ev zh=(qI l (s.next nx),yk l (s.next nx) zh,0):=by
 rw[tP zh (by rw[h])];unfold nW pL;rw[h]
theorem yW:(jh 6 6=([97],8,0)/\jh 7 6=([97,117],9,0)/\jh 8 6=([97],8,0)/\jh 9 6=([100,114,97],8,0))/\(jh 6 8=([105],7,0)/\jh 8 8=([105,117],9,0))/\(jh 6 4=([114],6,0)/\jh 7 4=([114],6,0)/\jh 8 4=([114],8,0))/\(jh 6 5=([102],3,0)/\jh 7 5=([102],3,0)/\jh 8 5=([102],3,0))/\(jh 3 1=([115],1,0)/\jh 1 0=([105,114],6,0))/\(jh 6 1=([],1,0)/\jh 7 1=([],1,0)/\jh 8 1=([],1,0)/\jh 9 1=([100],1,0)):=by
 refine⟨⟨?_,?_,?_,?_⟩,⟨?_,?_⟩,⟨?_,?_,?_⟩,⟨?_,?_,?_⟩,⟨?_,?_⟩,?_,?_,?_,?_⟩<;>rfl
theorem JQ(hg:1<=g/\g<=255):oy 255 g=nZ g:=by
 unfold oy nZ;rw[ai ew,ai dZ];rfl
theorem Qe {x:Int} (h:6<=x/\x<=9):x=6 \/x=7 \/x=8 \/x=9:=dZ
theorem abf(U:1<=g/\g<=255)(h:LI g L)(Y:L.st=1):LI g (kY L 0).1/\(kY L 0).2.1=[(1,(L.ow+1) %256,nZ g)] /\(kY L 0).1.ow=(L.ow+1) %256/\(kY L 0).1.st=6/\(kY L 0).1.wt=3:=by
 have Z:=h.k.kY 0;have e:kY L 0=sY L 0 (0,0,[]):=rfl;have Q:jh L.st 0=([105,114],6,0):=by rw[Y];exact yW.2.2.2.2.1.2
 rw[e,Iv _ Q]at Z⊢;have en:L.next 6={L with st:=6}:=by unfold LS.next;rw[af ew]
 rw[en]at Z⊢;refine⟨⟨h.fs,h.fm,h.ns,h.nm,λ_=>⟨h.ns,h.nm⟩,.inr ⟨by show(6:Int)<=6;decide,by show(6:Int)<=9;decide⟩,Z⟩,?_,rfl,rfl,rfl⟩;show [(1,(L.ow+1) %256,oy L.ns L.nm)] =_;rw[h.ns,h.nm,JQ U]
theorem Zy(h:LI g L)(M:6<=L.st):LI g (kY L 1).1/\(kY L 1).1.st=1/\(kY L 1).1.ow=L.ow:=by
 have Z:=h.k.kY 1;have e:kY L 1=sY L 1 (0,0,[]):=rfl;obtain⟨a,b,c,d⟩:=yW.2.2.2.2.2;have J:=Qe ⟨M,by have:=h.st;omega⟩;have hl:∃l,jh L.st 1=(l,1,0)/\(l=[] \/l=[100]):=by
  rcases J with g|g|g|g<;>rw[g]
  {exact⟨_,a,.inl rfl⟩};{exact⟨_,b,.inl rfl⟩};{exact⟨_,c,.inl rfl⟩};{exact⟨_,d,.inr rfl⟩}
 obtain⟨l,U,Q⟩:=hl;rw[e,Iv _ U]at Z⊢;have en:L.next 1={L with st:=1,ns:=L.fs,nm:=L.fm,sz:=255}:=by unfold LS.next;rw[ai ew]
 have Y:qI l (L.next 1)=L.next 1:=by rcases Q with rfl|rfl<;>rfl
 rw[Y,en]at Z;rw[Y,en];exact⟨⟨h.fs,h.fm,h.fs,h.fm,λh=>absurd h (by show¬(6:Int)<=1;decide),.inl rfl,Z⟩,rfl,rfl⟩
structure ahh(g:Int)(L L':LS)(out:List kN):Prop where
 li:LI g L'
 or:(out=[] /\L'.ow=L.ow/\L'.st=L.st/\(L.st=1 \/L.st=9->L'=L)/\(6<=L.st/\L.st<=8->1<L.wt/\L'.wt=L.wt-1)) \/((6<=L.st/\L.st<=8)/\L.wt=1/\out=[(1,(L.ow+1) %256,nZ g)] /\L'.ow=(L.ow+1) %256/\L'.wt=3/\(L'.st=6 \/(L.st=8/\L'.st=8)))
theorem JR(hg:1<=g/\g<=255)(h:LI g L):ahh g L (jd L).1 (jd L).2:=by
 obtain⟨o1,o2,o3,o4,o5,o6,o7,o8⟩:=(sJ _ _ _).1 h.k.ok;by_cases u:6<=L.st/\L.st<=8
 ·have hb:¬(decide (4<=L.st)&&decide (L.st<=8))=false:=by simp;omega
  by_cases H:0<L.wt-1
  ·have Z:kj L={L with wt:=L.wt-1}:=by unfold kj;rw[af hb,ai H]
   have Q:lO L=[] :=by unfold lO;rw[af hb,ai H]
   have E:=h.k.tick;have M:jd L=({L with wt:=L.wt-1},[]):=by
    unfold jd;rw[Z,Q,af (show¬L.st=3 by omega)]
   rw[Z]at E;rw[M];exact⟨⟨h.fs,h.fm,h.ns,h.nm,h.q,h.st,E⟩,.inl ⟨rfl,rfl,rfl,λh=>dZ,λ_=>⟨dZ,rfl⟩⟩⟩
  ·have mQ:L.wt=1:=dZ;by_cases hf:0<L.lf
   ·have A:∃nx,jh L.st 4=([114],nx,0)/\(nx=6 \/(L.st=8/\nx=8)):=by
     obtain⟨a,b,c⟩:=yW.2.2.1;have:L.st=6 \/L.st=7 \/L.st=8:=dZ;rcases this with g|g|g<;>rw[g]
     {exact⟨_,a,.inl rfl⟩};{exact⟨_,b,.inl rfl⟩};{exact⟨_,c,.inr ⟨rfl,rfl⟩⟩}
    obtain⟨nx,mO,vJ⟩:=A;have E:=h.k.tick;have en:({L with wt:=L.wt-1}:LS).next nx={L with wt:=L.wt-1,st:=nx}:=by unfold LS.next;rw[af dZ]
    have Z:kj L=qI [114] {L with wt:=L.wt-1,st:=nx}:=by
     unfold kj;rw[af hb,af H,ai hf];unfold nW;rw[show({L with wt:=L.wt-1}:LS).st=L.st from rfl,mO];simp only;rw[en]
    have Q:lO L=[(1,(L.ow+1) %256,oy L.ns L.nm)] :=by
     unfold lO;rw[af hb,af H,ai hf];unfold pL;rw[show({L with wt:=L.wt-1}:LS).st=L.st from rfl,mO];simp only;rw[en];rfl
    have M:jd L=(kj L,lO L):=by
     unfold jd;rw[af (by rw[Z];show¬nx=3;omega)]
    rw[M];refine⟨⟨?_,?_,?_,?_,?_,?_,E⟩,.inr ⟨u,mQ,?_,?_,?_,?_⟩⟩;{rw[Z];exact h.fs};{rw[Z];exact h.fm};{rw[Z];exact h.ns};{rw[Z];exact h.nm};{rw[Z];exact λ_=>⟨h.ns,h.nm⟩};{rw[Z];show nx=1 \/(6<=nx/\nx<=9);omega};{show lO L=_;rw[Q,h.ns,h.nm,JQ hg]};{rw[Z];rfl};{rw[Z];rfl};{rw[Z];exact vJ}
   ·have A:jh L.st 5=([102],3,0):=by
     obtain⟨a,b,c⟩:=yW.2.2.2.1;have:L.st=6 \/L.st=7 \/L.st=8:=dZ;rcases this with g|g|g<;>rw[g] <;>assumption
    have en:({L with wt:=L.wt-1}:LS).next 3={L with wt:=L.wt-1,st:=3,ns:=L.fs,nm:=L.fm,sz:=255}:=by unfold LS.next;rw[ai ew]
    have Z:kj L={L with wt:=L.wt-1,st:=3,ns:=L.fs,nm:=L.fm,sz:=255}:=by
     unfold kj;rw[af hb,af H,af hf];unfold nW;rw[show({L with wt:=L.wt-1}:LS).st=L.st from rfl,A];simp only;rw[en];rfl
    have Q:lO L=[] :=by
     unfold lO;rw[af hb,af H,af hf];unfold pL;rw[show({L with wt:=L.wt-1}:LS).st=L.st from rfl,A];simp only;rw[en];rfl
    obtain⟨L3,U⟩:∃L3:LS,({L with wt:=L.wt-1,st:=3,ns:=L.fs,nm:=L.fm,sz:=255}:LS)=L3:=⟨_,rfl⟩
    rw[U]at Z;have k3:Av L3:=by rw[<-Z];exact h.k.tick
    have G:L3.st=3:=by rw[<-U]
    have d1:kY L3 1=({L3 with st:=1,ns:=L3.fs,nm:=L3.fm,sz:=255},[],0):=by
     show sY L3 1 (0,0,[])=_;rw[Iv _ (show jh L3.st 1=_ by rw[G];exact yW.2.2.2.2.1.1)];have:L3.next 1={L3 with st:=1,ns:=L3.fs,nm:=L3.fm,sz:=255}:=by unfold LS.next;rw[ai ew]
     rw[this];rfl
    have k1:=k3.kY 1;obtain⟨L1,J⟩:=gg ((kY L3 1).1);rw[J]at k1;have Y:L1={L3 with st:=1,ns:=L3.fs,nm:=L3.fm,sz:=255}:=by rw[<-J,d1]
    have j:LI g L1:=by
     refine⟨?_,?_,?_,?_,?_,?_,k1⟩;{rw[Y,<-U];exact h.fs};{rw[Y,<-U];exact h.fm};{rw[Y,<-U];exact h.fs};{rw[Y,<-U];exact h.fm};{rw[Y];exact λh=>absurd h (by show¬(6:Int)<=1;decide)};{rw[Y];exact .inl rfl}
    have how:L1.ow=L.ow:=by rw[Y,<-U]
    obtain⟨u1,u2,u3,u4,u5⟩:=abf hg j (by rw[Y]);have M:jd L=((kY L1 0).1,(kY L1 0).2.1):=by
     unfold jd;rw[Z,ai G,Q,J,d1];rfl
    rw[M];exact⟨u1,.inr ⟨u,mQ,by rw[u2,how],by rw[u3,how],u5,.inl u4⟩⟩
 ·have hb:(decide (4<=L.st)&&decide (L.st<=8))=false:=by
   have:=h.st;simp only[Bool.and_eq_false_iff,decide_eq_false_iff_not];omega
  have Z:kj L=L:=by unfold kj;rw[ai hb]
  have Q:lO L=[] :=by unfold lO;rw[ai hb]
  have M:jd L=(L,[]):=by
   unfold jd;rw[Z,Q,af (show¬L.st=3 by have:=h.st;omega)]
  rw[M];exact⟨h,.inl ⟨rfl,rfl,rfl,λ_=>rfl,λh=>absurd h u⟩⟩
theorem Fz {x:Int} (h0:0<=x)(h1:x<=255):yA x=true:=by
 unfold yA;simp;omega
theorem Ac(hc:code=1 \/code=2)(hi:0<=id/\id<=255)(J:1<=g/\g<=255):jS code id (nZ g)=0:=by
 have Q:=Fz hi.1 hi.2;have M:yA g=true:=Fz dZ J.2;unfold jS nZ;rw[af (by rw[Q];simp;omega),af gU,af dZ];have Y:yA 1=true:=Fz ew ew;have U:yA 5=true:=Fz ew ew;have Z:yA 255=true:=Fz ew ew;simp[qe,Y,U,Z,M]
theorem Zz(hg:1<=g'/\g'<=255)(jt:g'≠g):l9 g (nZ g')=(2,nZ g'):=by
 unfold l9 nZ tL rb Kl xM;rw[af gU,af];simp;omega
structure amb(g:Int)(L L':LS)(out:List kN)(a:kN):Prop where
 li:LI g L'
 or:(L.st=9/\out=[(1,(L.ow+1) %256,nZ g),a] /\L'.st=8/\L'.ow=(L.ow+1) %256/\L'.wt=3) \/(L.st=7/\out=[a] /\L'.st=9/\L'.ow=L.ow) \/((L.st=6 \/L.st=8)/\out=[a] /\L'.st=8/\L'.ow=L.ow/\L'.wt=L.wt)
theorem WB(M:1<=g/\g<=255)(U:1<=g'/\g'<=255)(G:g'≠g)(hi:0<=id/\id<=255)(h:LI g L)(Y:6<=L.st):amb g L (jK L (1,id,nZ g')).1 (jK L (1,id,nZ g')).2.1 (2,id,nZ g'):=by
 have Z:=h.k.jK (1,id,nZ g');have Q:jK L (1,id,nZ g')=uk L id (nZ g'):=by
  unfold jK;rw[af (by rw[Ac (.inl rfl) hi U];simp),ai rfl]
 rw[Q]at Z⊢;have E:=Qe ⟨Y,by have:=h.st;omega⟩;have J:(l9 L.nm (nZ g')).1=2:=by rw[h.nm,Zz U G]
 obtain⟨A,u,j,t9⟩:=yW.1;have key:∀(l:List UInt8) (nx:Int),jh L.st 6=(l,nx,0)->uk L id (nZ g')=((qI l (L.next nx)).sized (nZ g'),yk l (L.next nx) (2,id,nZ g'),0):=λl nx hs=>by
  unfold uk;rw[ai J,Iv _ hs,ai rfl]
 have nx:∀n:Int,¬n<=3->L.next n={L with st:=n}:=λn H=>by unfold LS.next;rw[af H]
 have sz:∀s:LS,(s.sized (nZ g')).fs=s.fs/\(s.sized (nZ g')).fm=s.fm/\(s.sized (nZ g')).ns=s.ns/\(s.sized (nZ g')).nm=s.nm/\(s.sized (nZ g')).qs=s.qs/\(s.sized (nZ g')).qm=s.qm/\(s.sized (nZ g')).st=s.st/\(s.sized (nZ g')).ow=s.ow/\(s.sized (nZ g')).wt=s.wt:=λs=>by
  unfold LS.sized;split<;>exact⟨rfl,rfl,rfl,rfl,rfl,rfl,rfl,rfl,rfl⟩
 have build:∀s:LS,Av (s.sized (nZ g'))->s.fs=L.fs->s.fm=L.fm->s.ns=L.ns->s.nm=L.nm->(s.qs=255/\s.qm=g)->(6<=s.st/\s.st<=9)->LI g (s.sized (nZ g')):=λs Z a b c d e f=>by
  obtain⟨z1,z2,z3,z4,z5,z6,z7,_,_⟩:=sz s;exact⟨by rw[z1,a,h.fs],by rw[z2,b,h.fm],by rw[z3,c,h.ns],by rw[z4,d,h.nm],λ_=>by rw[z5,z6];exact e,by rw[z7];exact .inr f,Z⟩
 rcases E with hs|hs|hs|hs
 {have e:=key [97] 8 (by rw[hs];exact A);rw[e,nx 8 ew]at Z;rw[e,nx 8 ew];refine⟨build (qI [97] {L with st:=8}) Z rfl rfl rfl rfl (h.q Y) ⟨by show(6:Int)<=8;decide,by show(8:Int)<=9;decide⟩,.inr (.inr ⟨.inl hs,rfl,?_,?_,?_⟩)⟩;{exact(sz _).2.2.2.2.2.2.1};{exact(sz _).2.2.2.2.2.2.2.1};{exact(sz _).2.2.2.2.2.2.2.2}};{have e:=key [97,117] 9 (by rw[hs];exact u);rw[e,nx 9 ew]at Z;rw[e,nx 9 ew];refine⟨build (qI [97,117] {L with st:=9}) Z rfl rfl rfl rfl (h.q Y) ⟨by show(6:Int)<=9;decide,by show(9:Int)<=9;decide⟩,.inr (.inl ⟨hs,rfl,?_,?_⟩)⟩;{exact(sz _).2.2.2.2.2.2.1};{exact(sz _).2.2.2.2.2.2.2.1}};{have e:=key [97] 8 (by rw[hs];exact j);rw[e,nx 8 ew]at Z;rw[e,nx 8 ew];refine⟨build (qI [97] {L with st:=8}) Z rfl rfl rfl rfl (h.q Y) ⟨by show(6:Int)<=8;decide,by show(8:Int)<=9;decide⟩,.inr (.inr ⟨.inr hs,rfl,?_,?_,?_⟩)⟩;{exact(sz _).2.2.2.2.2.2.1};{exact(sz _).2.2.2.2.2.2.2.1};{exact(sz _).2.2.2.2.2.2.2.2}};{have e:=key [100,114,97] 8 (by rw[hs];exact t9);rw[e,nx 8 ew]at Z;rw[e,nx 8 ew];refine⟨build (qI [100,114,97] {L with st:=8}) Z rfl rfl rfl rfl ⟨h.ns,h.nm⟩ ⟨by show(6:Int)<=8;decide,by show(8:Int)<=9;decide⟩,.inl ⟨hs,?_,?_,?_,?_⟩⟩;{show [(1,(L.ow+1) %256,oy L.ns L.nm),(2,id,nZ g')] =_;rw[h.ns,h.nm,JQ M]};{exact(sz _).2.2.2.2.2.2.1};{exact(sz _).2.2.2.2.2.2.2.1};{exact(sz _).2.2.2.2.2.2.2.2}}
theorem adP(Z:1<=g/\g<=255)(hi:0<=id/\id<=255)(Y:id≠L.ow):jK L (2,id,nZ g)=(L,[],6):=by
 unfold jK;rw[af (by rw[Ac (.inr rfl) hi Z];simp),af (by show¬(2:Int)=1;decide),af (by show¬(2:Int)=5;decide),af (by show¬(2:Int)=6;decide)];unfold tQ;rw[ai Y]
theorem WC(Q:1<=g/\g<=255)(h:LI g L)(U:L.st=6 \/L.st=8):LI g (jK L (2,L.ow,nZ g)).1/\(jK L (2,L.ow,nZ g)).2.1=[] /\(jK L (2,L.ow,nZ g)).1.ow=L.ow/\(jK L (2,L.ow,nZ g)).1.wt=L.wt/\(jK L (2,L.ow,nZ g)).1.st=L.st+1:=by
 have Z:=h.k.jK (2,L.ow,nZ g);have Y:=h.q dZ;have M:jK L (2,L.ow,nZ g)=sY L 8 (0,L.ow,[]):=by
  unfold jK;rw[af (by rw[Ac (.inr rfl) ⟨h.k.o1,h.k.o2⟩ Q];simp),af (by show¬(2:Int)=1;decide),af (by show¬(2:Int)=5;decide),af (by show¬(2:Int)=6;decide)];unfold tQ;rw[af gU,ai rfl,af (by rw[Y.1,Y.2,JQ Q];simp)]
 rw[M]at Z⊢;obtain⟨H,G⟩:=yW.2.1;have nx:∀n:Int,¬n<=3->L.next n={L with st:=n}:=λn J=>by unfold LS.next;rw[af J]
 rcases U with hs|hs
 {rw[Iv _ (show jh L.st 8=_ by rw[hs];exact H),nx 7 ew]at Z⊢;exact⟨⟨h.fs,h.fm,h.ns,h.nm,λ_=>Y,.inr ⟨by show(6:Int)<=7;decide,by show(7:Int)<=9;decide⟩,Z⟩,rfl,rfl,rfl,by show(7:Int)=_;omega⟩};{rw[Iv _ (show jh L.st 8=_ by rw[hs];exact G),nx 9 ew]at Z⊢;exact⟨⟨h.fs,h.fm,h.ns,h.nm,λ_=>Y,.inr ⟨by show(6:Int)<=9;decide,by show(9:Int)<=9;decide⟩,Z⟩,rfl,rfl,rfl,by show(9:Int)=_;omega⟩}
def mL(g id:Int):la:=76::mG 1 id (nZ g)
def oa(g id:Int):la:=76::mG 2 id (nZ g)
theorem WD(code id g:Int):(mG code id (nZ g)).length=7:=by
 unfold mG;simp only[eQ,rY];rfl
theorem Ad(hc:code=1 \/code=2)(hi:0<=id/\id<=255)(Y:1<=g/\g<=255):iY (mG code id (nZ g))=(code,id,nZ g,0):=by
 have e:mG code id (nZ g)=[jY code,jY id,2,1,255,5,jY g] :=rfl;have Q:mN [1,255,5,jY g] =nZ g:=by
  have U:mN [1,255,5,jY g] =[(1,255),(5,((jY g).toNat:Int))] :=rfl;rw[U,nF g dZ Y.2];rfl
 have Z:=nF code dZ dZ;have M:=nF id hi.1 hi.2;rw[e];unfold iY;rw[af gU];show(if jS ((jY code).toNat:Int) ((jY id).toNat:Int) (mN [1,255,5,jY g])=0 then(((jY code).toNat:Int),((jY id).toNat:Int),mN [1,255,5,jY g],0)else(0,0,[],4))=_;rw[Q,Z,M,ai (Ac hc hi Y)]
theorem FA(hc:code=1 \/code=2)(hi:0<=id/\id<=255)(Z:1<=g/\g<=255):oo (code,id,nZ g)=[76::mG code id (nZ g)] :=by
 unfold oo;rw[ai ⟨Ac hc hi Z,by show(mG code id (nZ g)).length+1<=60;rw[WD];decide⟩]
def Ax(w0:dX)(N:Nat)(X:Nat->Prop)(m nc i:Nat)(n:iM)(w:dX):Prop:=oO w0 w N X n/\GN n/\j3 n (1300000*i) 0/\n.n=m/\n.nc=nc
theorem Ax.act {w0:dX} {N:Nat} {X:Nat->Prop} {m nc i:Nat} {n:iM} {W:dX} (h:Ax w0 N X m nc i n W)(J:jf w0)(hi:i<=300)(v:AV):
 eX eY 59 #[π (μ ⟨N,0,ν⟩),.agg #[.string v.kind,ι κ v.a,ι κ v.b,ι κ v.c,ι κ v.d,.string v.s,ι κ v.Pb,ι κ v.pid,σ v.po v.pn v.D5,ι κ v.x.own,ι κ v.x.seq,σ v.x.a v.x.n v.x.cap]] W λe w'=>e=ρ (τ #[])/\Ax w0 N X m nc (i+1) (rB n v) w'/\∀b,X b->w'.heap[b]? =W.heap[b]? :=by
 obtain⟨hA,U,Y,A,hc⟩:=h;obtain⟨s1,u,_,_⟩:=Ss n v;refine(hA.call (E:=λe=>e=ρ (τ #[])) (n':=rB n v) s1 λy M Q=> ?_).mono ?_;{rw[<-Q];exact Df y n (1300000*i) v W M (hA.tab J) Y dZ};{rintro e w' ⟨G,Z,H⟩;exact⟨G,⟨Z,(U.act Y dZ v).1,(Y.act dZ v).mono dZ (Nat.le_refl _),s1.trans A,u.trans hc⟩,H⟩}
theorem Ax.iH {w0:dX} {N:Nat} {X:Nat->Prop} {m nc i:Nat} {n:iM} {W:dX} (h:Ax w0 N X m nc i n W)(J:jf w0)(hi:i<=300)(c:Int)(up:Bool):
 eX eY 57 #[π (μ ⟨N,0,ν⟩),ι κ c,.bool up] W λe w'=>e=ρ (ji (n.iH c up).2)/\Ax w0 N X m nc (i+1) (n.iH c up).1 w'/\∀b,X b->w'.heap[b]? =W.heap[b]? :=by
 obtain⟨hA,U,Y,A,hc⟩:=h;obtain⟨s1,u,_,_⟩:=Ig n c up;refine(hA.call (E:=λe=>e=ρ (ji (n.iH c up).2)) (n':=(n.iH c up).1) s1 λy M Q=> ?_).mono ?_;{rw[<-Q];exact EY y n (1300000*i) c up W M (hA.tab J) Y dZ};{rintro e w' ⟨G,Z,H⟩;exact⟨G,⟨Z,(U.iH Y c up).1,(Y.iH dZ c up).mono dZ (Nat.le_refl _),s1.trans A,u.trans hc⟩,H⟩}
theorem Ax.new {w':dX} {many:Int} {L:List ot} {e:Ending} (h:Sn w many L X e w')(Z:nO many L=0)(hb:eB w0 w):∃N,e=ρ (τ #[π (μ ⟨N,0,ν⟩),η])/\Ax w0 N X many.toNat L.length 0 (jM many.toNat L) w':=by
 obtain⟨N,Y,hA⟩:=oO.Wu h Z hb;exact⟨N,Y,hA,Fe _ _,zV (uU Z),rfl,rfl⟩
def pR(y:iM)(V:Nat->AV):Nat->iM
 |0=>y
 |k+1=>rB (pR y V k) (V k)
theorem oO.write {W:dX} (h:oO w0 W N X n)(hs:W.heap.size<=W'.heap.size)(Q:∀k,k<W.heap.size->¬X k->W'.heap[k]? =W.heap[k]?)(E:∀k,X k->w0.heap.size<=k)
 (j:W'.os=W.os) (ht:W'.tape=W.tape) (hu:W'.output=W.output) (Z:Nat->Prop) (A:∀k,Z k->W.heap.size<=k/\k<W'.heap.size):oO w0 W' N (λb=>X b \/Z b) n:=by
 obtain⟨⟨y,G,H,u,hx⟩,hb⟩:=h;obtain⟨y',J,U,ha',M⟩:=G.beside hs (λk uI jt=>Q k uI (λe=>jt ((hx k).2 e))) Z A;refine⟨⟨y',J,U.N.trans H,λb Y=>u b ((ha' b).1 Y),λb=> ?_⟩,j.trans hb.os,ht.trans hb.tape,hu.trans hb.output,Nat.le_trans hb.size hs,λb Y=> ?_⟩;{rw[M b,hx b]};{refine(Q b (Nat.lt_of_lt_of_le Y hb.size) (λe=> ?_)).trans (hb.block b Y);have:=E b e;omega}
theorem oO.OC {W:dX} {Y:Nat->Prop} (h:oO w0 W N X n)(e:∀b,X b↔Y b):oO w0 W N Y n:=by
 obtain⟨⟨y,U,Z,Q,hx⟩,hb⟩:=h;exact⟨⟨y,U,Z,Q,λb=>(hx b).trans (e b)⟩,hb⟩
structure oV(w:dX)(N g m:Nat)(L:List ot)(V:Nat->AV)(i j:Nat)(W:dX):Prop where
 g0:w.heap.size<=g
 at_:Ax w N (λb=>b=g) m L.length i (pR (jM m L) V i) W
 row:qg W g 0 L.length (λk=>.bool ((pR (jM m L) V j).C k).iQ)
def oc(m:Nat):Array Value:=Array.replicate m (.bool false)
theorem ahj(W:dX):(gW 87 (ι κ 0) (ι κ 0)).run eY W=.ok (σ (μ ⟨W.heap.size,0,ν⟩) 0 0) (W.alloc (γ (oc 0) 4)):=gS
theorem ahk(W:dX):(gW 87 (ι κ 1) (ι κ 1)).run eY W=.ok (σ (μ ⟨W.heap.size,0,ν⟩) 1 1) (W.alloc (γ (oc 1) 4)):=gS
theorem ahl(W:dX):(gW 87 (ι κ 2) (ι κ 2)).run eY W=.ok (σ (μ ⟨W.heap.size,0,ν⟩) 2 2) (W.alloc (γ (oc 2) 4)):=gS
theorem ahm(W:dX):(gW 87 (ι κ 3) (ι κ 3)).run eY W=.ok (σ (μ ⟨W.heap.size,0,ν⟩) 3 3) (W.alloc (γ (oc 3) 4)):=gS
theorem ahn(W:dX):(gW 87 (ι κ 4) (ι κ 4)).run eY W=.ok (σ (μ ⟨W.heap.size,0,ν⟩) 4 4) (W.alloc (γ (oc 4) 4)):=gS
theorem aho(W:dX):(gW 87 (ι κ 5) (ι κ 5)).run eY W=.ok (σ (μ ⟨W.heap.size,0,ν⟩) 5 5) (W.alloc (γ (oc 5) 4)):=gS
theorem ahp(W:dX):(gW 87 (ι κ 6) (ι κ 6)).run eY W=.ok (σ (μ ⟨W.heap.size,0,ν⟩) 6 6) (W.alloc (γ (oc 6) 4)):=gS
theorem ahq(W:dX):(gW 87 (ι κ 7) (ι κ 7)).run eY W=.ok (σ (μ ⟨W.heap.size,0,ν⟩) 7 7) (W.alloc (γ (oc 7) 4)):=gS
theorem ahr(W:dX):(gW 87 (ι κ 8) (ι κ 8)).run eY W=.ok (σ (μ ⟨W.heap.size,0,ν⟩) 8 8) (W.alloc (γ (oc 8) 4)):=gS
theorem ahs(W:dX):(gW 87 (ι κ 9) (ι κ 9)).run eY W=.ok (σ (μ ⟨W.heap.size,0,ν⟩) 9 9) (W.alloc (γ (oc 9) 4)):=gS
theorem amc(p:Nat)(hp:p<=9)(W:dX):(gW 87 (ι κ (p:Int)) (ι κ (p:Int))).run eY W=.ok (σ (μ ⟨W.heap.size,0,ν⟩) p p) (W.alloc (γ (oc p) 4)):=by
 have:p=0 \/p=1 \/p=2 \/p=3 \/p=4 \/p=5 \/p=6 \/p=7 \/p=8 \/p=9:=dZ;rcases this with rfl|rfl|rfl|rfl|rfl|rfl|rfl|rfl|rfl|rfl
 {exact ahj W};{exact ahk W};{exact ahl W};{exact ahm W};{exact ahn W};{exact aho W};{exact ahp W};{exact ahq W};{exact ahr W};{exact ahs W}
theorem oV.new {w W:dX} {N m:Nat} {L:List ot} {V:Nat->AV} (h:Ax w N (λ_=>False) m L.length 0 (jM m L) W):oV w N W.heap.size m L V 0 0 (W.alloc (γ (oc L.length) 4)):=by
 obtain⟨hA,Y,J,M,hc⟩:=h;refine⟨hA.nQ.size,⟨?_,Y,J,M,hc⟩,?_⟩;{refine(oO.write hA (W':=W.alloc (γ (oc L.length) 4)) gU (λk Q _=>aU _ _ _ Q) (λk e=>e.elim) rfl rfl rfl (λb=>b=W.heap.size) (λk e=>by subst e;simp)).OC (λb=>gU)}
 ·have Z:iX (W.alloc (γ (oc L.length) 4)) W.heap.size (oc L.length) 4:=iX.new W _ _;intro j U;have e:(oc L.length)[j]? =μ (.bool false):=by simp[oc,U]
  refine⟨?_,?_⟩;{rw[Nat.zero_add,Z.cell j,e];rfl};{rw[Nat.zero_add];exact Z.frozen j}
theorem oV.act {w:dX} {N g m:Nat} {L:List ot} {V:Nat->AV} {i:Nat} {W:dX} (h:oV w N g m L V i i W)(U:jf w)(hi:i<=100):
 eX eY 59 #[π (μ ⟨N,0,ν⟩),.agg #[.string (V i).kind,ι κ (V i).a,ι κ (V i).b,ι κ (V i).c,ι κ (V i).d,.string (V i).s,ι κ (V i).Pb,ι κ (V i).pid,σ (V i).po (V i).pn (V i).D5,ι κ (V i).x.own,ι κ (V i).x.seq,σ (V i).x.a (V i).x.n (V i).x.cap]] W λe w'=>e=ρ (τ #[])/\oV w N g m L V (i+1) i w':=by
 refine(h.at_.act U dZ (V i)).mono ?_;rintro e w' ⟨Q,Z,Y⟩;exact⟨Q,h.g0,Z,h.row.keep (Y g rfl)⟩
theorem oV.iQ {w:dX} {N g m:Nat} {L:List ot} {V:Nat->AV} {i:Nat} {W:dX} (h:oV w N g m L V i i W)(hi:i<=100)(k:Nat)(Y:k<L.length):
 ((pR (jM m L) V (i+1)).C k).iQ=if Bt (V i)=true/\(k:Int)=(V i).a then(V i).b==1 else((pR (jM m L) V i).C k).iQ:=by
 obtain⟨_,Z,U,_,hc⟩:=h.at_;exact(Z.act U dZ (V i)).2 k (by rw[hc];exact Y)
theorem oV.same {g:Nat} {L:List ot} {W:dX} (h:oV w N g m L V (i+1) i W)(Y:∀k,k<L.length->((pR (jM m L) V (i+1)).C k).iQ=((pR (jM m L) V i).C k).iQ)(U:g<W.heap.size)(hb:eB W W'):oV w N g m L V (i+1) (i+1) W':=by
 obtain⟨hA,Z,J,M,hc⟩:=h.at_;exact⟨h.g0,⟨hA.still hb,Z,J,M,hc⟩,(h.row.congr (λk Q=>by show iu _=iu _;rw[Y k Q])).keep (hb.block g U)⟩
theorem oV.gl {g:Nat} {L:List ot} {j:Nat} {W:dX} (h:oV w N g m L V i j W):g<W.heap.size:=by
 obtain⟨⟨⟨y,Z,_,_,hx⟩,_⟩,_⟩:=h.at_;exact Z.lt (.inr ((hx g).2 rfl))
theorem oV.set {w:dX} {N g m:Nat} {L:List ot} {V:Nat->AV} {i k:Nat} {W W1:dX} {b:Bool} (h:oV w N g m L V (i+1) i W)(M:k<L.length)
 (U:∀x,x<L.length->((pR (jM m L) V (i+1)).C x).iQ=if x=k then b else((pR (jM m L) V i).C x).iQ) (hb:eB W W1):oV w N g m L V (i+1) (i+1) (W1.setCell ⟨g,k,ν⟩ (.bool b)):=by
 have Q:=h.gl;obtain⟨hA,Y,H,J,hc⟩:=h.at_;have hA1:=hA.still hb;refine⟨h.g0,⟨?_,Y,H,J,hc⟩,?_⟩;{refine(oO.write hA1 (W':=W1.setCell ⟨g,k,ν⟩ (.bool b)) gU (λx _ G=>ak _ _ _ x (λe=>G e)) (λx e=>by rw[e];exact h.g0) rfl rfl rfl (λ_=>False) (λ_ e=>e.elim)).OC (λb=>gU)}
 ·have Z:=((h.row.keep (hb.block g Q)).set k M (.bool b))
  rw[Nat.zero_add]at Z;refine Z.congr (λx hx=> ?_);show tg _ k (.bool b) x=iu _;rw[U x hx];by_cases e:x=k;{rw[e,pM,ai rfl]};{rw[jI _ _ e,af e]}
def abg(w:dX)(many:Int)(L:List ot)(n2:Nat)(V:Nat->AV)(e:Ending)(w':dX):Prop:=
 (e=ρ (τ #[π ν,σ ν 0 0,.bool false])/\eB w w') \/
 (nO many L=0/\n2<=40/\∃N g,e=ρ (τ #[π (μ ⟨N,0,ν⟩),σ (μ ⟨g,0,ν⟩) L.length L.length,.bool true])/\oV w N g many.toNat L V n2 n2 w')
theorem oV.nQ {w:dX} {N g m:Nat} {L:List ot} {V:Nat->AV} {i j:Nat} {W:dX} (h:oV w N g m L V i j W):eB w W:=h.at_.1.nQ
theorem OD(many:Int)(a:Option Addr)(n cap:Nat)(L:List ot)(a2:Option Addr)(Y cap2:Nat)(V:Nat->AV)(E:Nat->List jJ)(w:dX)(hL:zT w a L)(hl:L.length=n)(hn:n<=maxLen)(hA:Pc w a2 Y V E)(hT:jf w):
 eX eY 43 #[ι κ many,σ a n cap,σ a2 Y cap2] w λe w'=>abg w many L Y V e w':=by
 have Z:=Db a n cap w hn;have u:eX eY 16 #[σ a2 Y cap2,ι κ 40] w λe w'=>(∃b:Bool,e=ρ (.bool b)/\(b=true->Y<=40))/\eB w w':=by
  refine(Gq a2 Y cap2 V E 40 w hA dZ).mono ?_;rintro e w' ⟨⟨b,he,kE⟩,mS⟩;exact⟨⟨b,he,λhx=>by have:=(kE hx).1;omega⟩,mS⟩
 have jk:∀W,n<=12->eB w W->eX eY 36 #[ι κ many,σ a n cap] W λe w'=>Sn W many L (λ_=>False) e w':=by
  intro W M hb;rw[<-hl];exact P5 many a cap L W (hL.below hb) dZ (jf.below (w:=w) hT hb) (λ_=>False) (λb qo=>qo.elim)
 have HA:Hid _:=hA;have HT:Hid (jf w):=hT;have G:Hid _:=hl;clear hL hA hT hl;by_cases M:n<=12
 case neg=>
  have hd:decide (n<=12)=false:=by simpa using M
  rw[hd]at Z
  go_in
  go_wp2_with(fail);refine Z.mono ?_;rintro e w2 ⟨rfl,rfl⟩;clear Z u jk;go_wp2_with(fail);refine aE (v:=τ #[π ν,σ ν 0 0,.bool false]) (by simp[results,iw,go_sem]) rfl ?_;exact .inl ⟨rfl,au _ _⟩
 case pos=>
  have hd:decide (n<=12)=true:=by simpa using M
  rw[hd]at Z
  go_in
  go_wp2_with(fail);refine Z.mono ?_;rintro e w2 ⟨rfl,rfl⟩;clear Z;go_wp2_with(fail);refine u.mono ?_;rintro e w2 ⟨⟨b,rfl,aht⟩,mS⟩;have sX:=jk w2 M mS;have Au:Hid _:=mS;have amd:Hid _:=aht;clear u jk mS aht;cases b
  case false=>
   go_wp2_with(fail);refine aE (v:=τ #[π ν,σ ν 0 0,.bool false]) (by simp[results,iw,go_sem]) rfl ?_;exact .inl ⟨rfl,Au.out⟩
  case true=>
   have h40:Y<=40:=amd.out rfl;go_wp2_with(fail);refine sX.mono ?_;rintro e w3 hP;clear sX;by_cases J:nO many L=0
   case neg=>
    obtain⟨rfl,sg⟩:=oO.adI hP J Au.out;have J9:Hid _:=sg;have he:ji (nO many L)=.iface 128 (ι κ ((nO many L:Nat):Int)):=Uf J;rw[he];clear hP sg J he;go_wp2_with(fail);refine aE (v:=τ #[π ν,σ ν 0 0,.bool false]) (by simp[results,iw,go_sem]) rfl ?_;exact .inl ⟨rfl,J9.out⟩
   case pos=>
    obtain⟨N,rfl,A⟩:=Ax.new hP J Au.out;have hm:=(uU J).m;have hl9:=(uU J).l;obtain⟨m,rfl⟩:∃m:Nat,many=(m:Int):=⟨many.toNat,dZ⟩
    rw[Int.toNat_natCast]at A;have j:=oV.new (V:=V) A;rw[G.out]at hl9;have hmk:=amc n hl9;obtain⟨w4,PY⟩:=gg (w3.alloc (γ (oc n) 4));obtain⟨g,hg⟩:=gg (w3.heap.size);rw[G.out,PY,hg]at j;have Lv:Hid _:=PY;have HG:Hid _:=hg;have HP0:Hid _:=j;have H0:Hid _:=J;clear hP J A j PY hg;go_wp2_with(fail)
    try rw[Lv.out]
    try rw[HG.out]
    go_wp2
    go_loopw [12] (λx wr=>∃i:Nat,i<=Y/\x=ι κ i/\oV w N g m L V i i wr) (λx _=>Y-(intOf x).toNat)
    case atStart=>exact⟨0,Nat.zero_le _,rfl,HP0.out⟩
    case round=>
     obtain⟨i,hi,rfl,hG⟩:=hrel;obtain⟨V0,rfl⟩:∃V0,V0=wr:=⟨_,rfl⟩
     by_cases kA:i<Y
     case neg=>
      have xL:¬(i:Int)<(Y:Int):=dZ;obtain rfl:i=Y:=dZ;have HR:Hid _:=hG;clear hG;go_wp2_with(fail);refine aE (v:=τ #[π (μ ⟨N,0,ν⟩),σ (μ ⟨g,0,ν⟩) n n,.bool true]) (by simp[results,iw,go_sem]) rfl ?_;refine .inr ⟨H0.out,h40,N,g,?_,?_⟩;{rw[G.out]};{exact HR.out}
     case pos=>
      have nL:(i:Int)<(Y:Int):=dZ;rcases HA.out.row with h1|⟨b,off,rfl,iV⟩
      {omega};have Ts:=iV i kA;have hv:=Ts.below hG.nQ;have HV:Hid (∀W,eB w W->(V i).at_ W b (off+i*12)):=λW hb=>Ts.below hb;have ZA:=hG.act HT.out dZ;have HI:Hid (∀k,k<L.length->((pR (jM m L) V (i+1)).C k).iQ=if Bt (V i)=true/\(k:Int)=(V i).a then(V i).b==1 else((pR (jM m L) V i).C k).iQ):=hG.iQ dZ;clear iV hG Ts;generalize V i=v at hv ZA HV HI;obtain⟨vk,va,vb,vc,vd,vs,vpc,vpi,vpo,XA,BV,⟨xo,xq,xa,xn,xc⟩⟩:=v;obtain⟨c0,c1,c2,c3,c4,c5,c6,c7,c8,c9,TR,XZ⟩:=hv;simp only at c0 c1 c2 c3 c4 c5 c6 c7 c8 c9 TR XZ ZA;have gl:=ag _ _ c0;have ge:off+i*12+0=off+i*12:=rfl;go_wp2_with(fail);refine ZA.mono ?_;rintro e H ⟨rfl,U⟩;have abh:=U.nQ;obtain⟨d0,d1,d2,_⟩:=HV.out H abh;simp only at d0 d1 d2;have gl5:=ag _ _ d0;have Q:Hid _:=U;have HS:Hid ((∀k,k<L.length->((pR (jM m L) V (i+1)).C k).iQ=((pR (jM m L) V i).C k).iQ)->oV w N g m L V (i+1) (i+1) H):=λhe=>U.same he U.gl (au _ _);clear ZA c0 c1 c2 c3 c4 c5 c6 c7 c8 c9 TR XZ gl U abh;cases k1:(vk.toList==[112,108,117,103])
      case false=>
       go_wp2
       go_roundw
       case rel=>
        refine⟨i+1,dZ,by go_num,HS.out λk hk=> ?_⟩;rw[HI.out k hk,af (λe=>by have e1:(vk.toList==[112,108,117,103])=true:=e.1;rw[k1]at e1;cases e1)]
       case measure=>simp[intOf];omega
      case true=>
       by_cases ha0:0<=va
       case neg=>
        go_wp2
        go_roundw
        case rel=>
         refine⟨i+1,dZ,by go_num,HS.out λk hk=> ?_⟩;rw[HI.out k hk,af (λe=>by have e1:(k:Int)=va:=e.2;omega)]
        case measure=>simp[intOf];omega
       case pos=>
        by_cases han:va<(n:Int)
        case neg=>
         go_wp2
         go_roundw
         case rel=>
          refine⟨i+1,dZ,by go_num,HS.out λk hk=> ?_⟩;have hln:=G.out;rw[HI.out k hk,af (λe=>by have e1:(k:Int)=va:=e.2;omega)]
         case measure=>simp[intOf];omega
        case pos=>
         obtain⟨k,rfl⟩:∃k:Nat,va=(k:Int):=⟨va.toNat,dZ⟩
         have AL:k<n:=dZ;have Pa:=Q.out.gl;have hcell:=Q.out.row.cell k (by rw[G.out];exact AL);have Pz:=Q.out.row.fz k (by rw[G.out];exact AL);rw[Nat.zero_add]at hcell Pz;have XK:Hid (oV w N g m L V (i+1) (i+1) (H.drew.setCell ⟨g,k,ν⟩ (.bool (vb==1)))):=by
          refine Q.out.set (by rw[G.out];exact AL) (λx hx=> ?_) (iZ H);rw[HI.out x hx];by_cases e:x=k;{rw[ai ⟨k1,by show(x:Int)=(k:Int);rw[e]⟩,ai e]};{rw[af (λh=>e (by have h2:(x:Int)=(k:Int):=h.2;omega)),af e]}
         generalize ((pR (jM m L) V i).C k).iQ=old at hcell;have F0:H.drew.cell? ⟨b,off+i*12,ν⟩=μ (.string vk)/\H.drew.cell? ⟨b,off+i*12+1,ν⟩=μ (ι κ (k:Int))/\H.drew.cell? ⟨b,off+i*12+2,ν⟩=μ (ι κ vb)/\H.drew.cell? ⟨g,k,ν⟩=μ (.bool old):=⟨d0,d1,d2,hcell⟩
         go_upto_region 12 with(fail)
         go_region
         all_goals
          go_wp2
          go_roundw
          case rel=>exact⟨i+1,dZ,by go_num,XK.out⟩
          case measure=>simp[intOf];omega
theorem WE(a:Int):∃m:Nat,m<=1023/\bits .and .i64 a 1023=(m:Int):=by
 have e:(fa 64 a&&&fa 64 1023).toNat<=1023:=by
  rw[BitVec.toNat_and];exact Nat.and_le_right
 refine⟨(fa 64 a&&&fa 64 1023).toNat,e,?_⟩;show IntKind.i64.wrap ((fa 64 a&&&fa 64 1023).toNat:Int)=_;rw[dB];omega
