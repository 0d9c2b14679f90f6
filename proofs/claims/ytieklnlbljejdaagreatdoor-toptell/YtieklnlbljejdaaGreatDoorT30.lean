import Derived.Test.YtieklnlbljejdaaGreatDoorT29
open Option renaming none → ν
open List renaming mem_cons → gT, not_mem_nil → gU, length_cons → eE, range → fG, mem_singleton → gX, range_succ → gY, map_cons → eu, sum_cons → gZ
namespace Go.Proofs.YtieklnlbljejdaaGreatDoor
open Go.RowKit St
namespace Rt
variable {D c d k:Nat} {T:List (Nat×Nat)} {p:jb} {r:iy} {y:iB} {α:Type}
theorem jN.YL(h:jN y D 0):∀c d,c<y.nc->d<2->((y.R ((y.C c).e d).1).P ((y.C c).e d).2).out=[] :=λc d hc hd=>by
 obtain⟨Z,Y⟩:=h.en c d hc hd;exact aE (by have:=(h.fit _ Z).2 _ Y;omega)
theorem Az(Z:GN y)(hc:c<y.nc)(hi:(y.C c).jr=false)(Y:∀d,d<2->((y.R ((y.C c).e d).1).P ((y.C c).e d).2).out=[])(hd:d<2):(jh y).F c d=[] :=by
 show(if c<y.nc/\d<2 then tu y c d else [])=[]
 rw[ag ⟨hc,hd⟩];unfold tu;rw[Z.off c d hc hd hi,jf (Y d hd)];rfl
def mA(y:iB)(l:List Nat):List (Nat×Nat):=l.flatMap λc=>[(y.C c).e 0,(y.C c).e 1]
theorem sW(up:Bool):∀(l:List Nat) {y:iB},jE y->GN y->Ends y->l.Nodup->(∀c∈l,c<y.nc/\(y.C c).jr= !up)->(∀c∈l,∀d,d<2->((y.R ((y.C c).e d).1).P ((y.C c).e d).2).out=[])->
 jI (jh y) (if up=true then mA y l else []) [] (jh (y.jo up l))/\(up=false->(∀c d,c<y.nc->d<2->((y.R ((y.C c).e d).1).P ((y.C c).e d).2).out=[])->∀c d,c<y.nc->d<2->(((y.jo up l).R ((y.C c).e d).1).P ((y.C c).e d).2).out=[])
 |[],y,_,_,_,_,_,_=>⟨by cases up<;>exact jI.nil _,λ_ h=>h⟩
 |c::l,y,hF,hG,hE,ye,hm,ho=>by
  obtain⟨hc,hi⟩:=hm c gN;have Z:=ho c gN;obtain⟨a1,M,E⟩:=Ox hF.o hG hE c up hc hi Z;obtain⟨s1,S,_,_,Y⟩:=og y c up;have V:=hF.jC hG hE c up hc hi;have H:=hG.jC hE c up hc hi;have G:=hE.jC c up;have X:=bK.1 ye;have A:∀x∈l,x≠c:=λx hx e=>X.1 (e▸hx);have u:jI (jh y) (if up=true then [(y.C c).e 0,(y.C c).e 1]else []) [] (jh (y.jC c up)):=by
   rw[a1];cases up
   ·exact jI.one (mc.draw c hc (show(y.C c).jr=true by simpa using hi))
   ·exact jI.one (mc.iw c hc (show(y.C c).jr=false by simpa using hi) (Az hG hc (by simpa using hi) Z dS) (Az hG hc (by simpa using hi) Z dS))
  obtain⟨j,Q⟩:=fP (y.jC c up);rw[Q]at M E S Y V H G u;obtain⟨p1,p2⟩:=sW up l (y:=j) V H G X.2 (λx hx=>⟨by rw[S];exact(hm x (by simp[hx])).1,by rw[(Y x).2,ae (A x hx)];exact(hm x (by simp[hx])).2⟩) (λx hx d hd=>by
   rw[(Y x).1];rw[M _ _ (λd' J h=>(A x hx) (hE.ds x d c d' (hm x (by simp[hx])).1 hd hc J h.symm).1)];exact ho x (by simp[hx]) d hd)
  have hP:mA j l=mA y l:=by unfold mA;congr 1;funext x;rw[(Y x).1]
  refine⟨?_,λU nS x d hx hd=> ?_⟩
  ·have:=u.trans p1;rw[hP]at this;show jI _ _ _ (jh ((y.jC c up).jo up l));rw[Q];cases up
   ·simpa using this
   ·simpa[mA]using this
  ·show(((y.jC c up).jo up l).R _|>.P _).out=[]
   rw[Q];have:=p2 U (λx d hx hd=>by
    rw[(Y x).1];have t:x<y.nc:=by rw[<-S];exact hx
    by_cases e:x=c
    ·subst e;exact E U d hd
    ·rw[M _ _ (λd' J h=>e (hE.ds x d c d' t hd hc J h.symm).1)];exact nS x d t hd) x d (by rw[S];exact hx) hd
   rw[(Y x).1]at this;exact this
structure Oy(T:List (Nat×Nat)):Prop where
 nd:T.Nodup
 len:T.length<=18
theorem Oy.nil:Oy [] :=⟨cZ,gN⟩
theorem uH {y:iB} (Y:Ends y):∀l:List Nat,l.Nodup->(∀c∈l,c<y.nc)->(mA y l).Nodup/\(mA y l).length=2*l.length
 |[],_,_=>⟨by simp[mA],rfl⟩
 |c::l,ye,hm=>by
  have V:=bK.1 ye;obtain⟨a,b⟩:=uH Y l V.2 λx hx=>hm x (by simp[hx]);have hc:=hm c gN;have e:mA y (c::l)=(y.C c).e 0::(y.C c).e 1::mA y l:=by simp[mA]
  have U:∀d,d<2->(y.C c).e d∉mA y l:=λd hd hx=>by
   obtain⟨x,Z,X⟩:=br.1 hx;have S:=hm x (by simp[Z]);have:(∃f,f<2/\(y.C c).e d=(y.C x).e f):=by
    simp only[gT,gU,or_false]at X;rcases X with h|h
    ·exact⟨0,dS,h⟩
    ·exact⟨1,dS,h⟩
   obtain⟨f,hf,h⟩:=this;exact V.1 ((Y.ds c d x f hc hd S hf h).1▸Z)
  refine⟨?_,by rw[e];simp only[eE,b];omega⟩;rw[e,bK,bK];refine⟨λhx=> ?_,U 1 dS,a⟩;rcases a7.1 hx with h|h
  ·have:=(Y.ds c 0 c 1 hc dS hc dS h).2;omega
  ·exact U 0 dS h
inductive Wp:List (Nat×Nat)->AN->AN->Prop
 |nil (a:AN):Wp [] a a
 |snoc {T:List (Nat×Nat)} {a b:AN} (i p:Nat):Wp T a b->i<b.n->p<3->Wp (T++ [(i,p)]) a (b.op i ((b.R i).iV p))
theorem Wp.path {a b:AN} (h:Wp T a b):jI a T [] b:=by
 induction h with
 |nil a=>exact jI.nil a
 |snoc i p _ hi Z ih=>have:=ih.snoc (mc.tick i p hi Z);simpa using this
theorem zF {y:iB} (hF:jE y)(k:Nat)(U:k<y.n):∀j,j<=3->Wp ((fG j).map λp=>(k,p)) (jh y) (jh (y.jg k ((y.R k).iW j)))
 |0,_=>by
  have e:y.jg k ((y.R k).iW 0)=y:=by
   show y.jg k (y.R k)=y;unfold iB.jg;rw[ui]
  rw[e];exact Wp.nil _
 |j+1,hj=>by
  have X:=zF hF k U j dP;have V:=hF.jg k (mJ.iW (y.R k) j);obtain⟨z,Z⟩:=fP (y.jg k ((y.R k).iW j));rw[Z]at X V;have Y:z.R k=(y.R k).iW j:=by rw[<-Z];exact ij _ _ _
  have e:y.jg k ((y.R k).iW (j+1))=z.jg k ((z.R k).iV j):=by
   rw[Y,<-Z];show({y with R:=_}:iB)={y with R:=jy (jy y.R k _) k _}
   congr 1
   funext x
   by_cases ex:x=k
   ·subst ex;rw[ij,ij];rfl
   ·rw[gW _ _ ex,gW _ _ ex,gW _ _ ex]
  have S:(z.R k).iV j=((z.R k).core.iV j).pat (λp=>((z.R k).P p).rd) (λp=>((z.R k).P p).out) (z.R k).jM:=by
   rw[<-Ou,uF]
  rw[e,RX V.o k S ((mJ.iV (z.R k).core j).frN λ_=>rfl),cH,bY];have UG:z.n=y.n:=by rw[<-Z];rfl
  exact X.snoc k j (by show k<z.n;omega) dP
def Td(k:Nat):List (Nat×Nat):=[(k,0),(k,1),(k,2)]
theorem KJ(hF:jE y)(Y:jN y D 0)(hD:D<=900000000)(k:Nat)(Z:k<y.n):Wp (Td k) (jh y) (jh (y.jg k (y.R k).tick))/\Ends (y.jg k (y.R k).tick)/\jE (y.jg k (y.R k).tick):=by
 have h:=zF hF k Z 3 (Nat.le_refl _);have e:(y.R k).tick=(y.R k).iW 3:=by unfold iy.tick;rw[(Y.rn k Z).1]
 rw[<-e]at h;exact⟨h,(Y.iT dP Z).oS,hF.jg k (mJ.iW _ _)⟩
theorem Eg(hF:jE y)(V:jN y D 0)(Y:D<=900000000)(k:Nat)(X:k<y.n):jI (jh y) (Td k) [] (jh (y.tick ((k:Int)+1)).1):=by
 obtain⟨h,Z,f1⟩:=KJ hF V Y k X;unfold iB.tick;rw[ae dP];rw[show((k:Int)+1-1).toNat=k by omega];exact h.path.lost (qN f1 Z).1
theorem sX(hF:jE y)(X:jN y D 0)(hD:D<=900000000)(i d m:Int):jI (jh y) [] [] (jh (y.deliver i d m).1):=by
 unfold iB.deliver;split
 ·exact jI.nil _
 ·rename_i h
  have hc:i.toNat<y.nc:=dP;have hd:d.toNat<2:=dP;obtain⟨k,S⟩:=fP (min m.toNat ((y.C i.toNat).on d.toNat).length);rw[S];have Y:=X.oS;obtain⟨l,rest,V,_,U⟩:=KI hF Y i.toNat d.toNat k hc hd;have Z:(jh y).F i.toNat d.toNat=l++rest:=by
   show(if i.toNat<y.nc/\d.toNat<2 then tu y i.toNat d.toNat else [])=_;rw[ag ⟨hc,hd⟩,V]
  have Q:=(acB l rest (jh y) i.toNat d.toNat (Cp y) hc hd Z).path;have:jI (jh y) [] [] (jh (y.jw i.toNat d.toNat k)):=by rw[U];exact Q
  exact this.lost (qN (hF.jw Y _ _ _ hc hd) (X.jw dP hc hd).oS).1
theorem Oz(hF:jE y)(X:GN y)(U:jN y D 0)(i:Int)(up:Bool):∃T,Oy T/\jI (jh y) T [] (jh (y.iw i up).1):=by
 unfold iB.iw;split
 ·exact⟨[],Oy.nil,jI.nil _⟩
 ·split
  ·exact⟨[],Oy.nil,jI.nil _⟩
  ·rename_i h oE
   have hc:i.toNat<y.nc:=dP;have hi:(y.C i.toNat).jr= !up:=by cases hv:(y.C i.toNat).jr<;>cases up<;>simp_all
   have Y:=U.oS;have S:=(sW up [i.toNat] hF X Y gN (λc Z=>by simp only[gX]at Z;subst Z;exact⟨hc,hi⟩) (λc Z d hd=>by simp only[gX]at Z;subst Z;exact U.YL _ d hc hd)).1;have V:=uH Y [i.toNat] gN (λc Z=>by simp only[gX]at Z;subst Z;exact hc);refine⟨_,?_,S.lost (qN (hF.jC X Y _ _ hc hi) (Y.jC _ _)).1⟩;split
   ·exact⟨V.1,by rw[V.2];simp⟩
   ·exact Oy.nil
theorem Fu(hF:jE y)(hG:GN y)(iC:jN y D 0)(i:Int):∃T,Oy T/\jI (jh y) T [] (jh (y.restart i).1):=by
 unfold iB.restart;split
 ·exact⟨[],Oy.nil,jI.nil _⟩
 ·rename_i hi
  obtain⟨k,hk⟩:=fP ((i-1).toNat);have ZJ:i=(k:Int)+1:=dP;have Gs:k<y.n:=dP;simp only;rw[hk];obtain⟨l,hl⟩:=fP (y.kH k);rw[hl];have H:∀c,c∈l↔c<y.nc/\(y.C c).jr=true/\(((y.C c).e 0).1=k \/((y.C c).e 1).1=k):=λc=>by
   rw[<-hl];unfold iB.kH;simp[List.mem_filter]
  have hll:l.length<=9:=by rw[<-hl];exact Nat.le_trans (wG y k) iC.c9
  have S:l.Nodup:=by
   rw[<-hl];exact dg cY cB
  have vv:∀c∈l,c<y.nc/\(y.C c).jr= !false:=λc hc=>⟨((H c).1 hc).1,((H c).1 hc).2.1⟩
  have t:=iC.oS;obtain⟨a,b,d⟩:=GN.jo false l hG t S vv;have f1:=jE.jo false l hF hG t S vv;obtain⟨p1,o1⟩:=sW false l hF hG t S vv (λc hc d hd=>iC.YL c d (vv c hc).1 hd);have o1:=o1 rfl iC.YL;obtain⟨s1,s2,s3,s4,s5⟩:=l7 false l y;have hpo:∀z:iB,(∀x,(z.C x).e=(y.C x).e)->mA z l=mA y l:=λz hz=>by unfold mA;congr 1;funext x;rw[hz]
  obtain⟨Z,FU⟩:=fP (y.jo false l);rw[FU]at a b d s1 s2 s3 s4 s5 f1 p1 o1⊢;have E:∀c e,c<Z.nc->e<2->((Z.C c).e e).1=k->(Z.C c).jr=false:=λc e hc V heq=>by
   have kh:c<y.nc:=by rw[s2]at hc;exact hc
   rw[d c];by_cases hm:c∈l
   ·rw[ag hm]
   ·rw[ae hm];by_cases oE:(y.C c).jr=true
    ·exfalso;rw[s5 c]at heq;refine hm ((H c).2 ⟨kh,oE,?_⟩);have:e=0 \/e=1:=dP;rcases this with rfl|rfl
     ·exact .inl heq
     ·exact .inr heq
    ·simpa using oE
  have X:∀c d,c<Z.nc->d<2->((Z.R ((Z.C c).e d).1).P ((Z.C c).e d).2).out=[] :=λc d hc hd=>by
   rw[s5 c];exact o1 c d (by rw[<-s2];exact hc) hd
  have f2:=f1.anew a k i (y.ms k) E;have u:GN (Z.jg k (jt i 3 (y.ms k))):=by
   refine a.jg k _ (λc e hc V heq _=> ?_);rw[E c e hc V heq];have hI:=pA i (y.ms k) ((Z.C c).e e).2;exact⟨by simpa using hI.st,λe=>absurd (by rw[hI.pe];rfl) e⟩
  have b2:Ends (Z.jg k (jt i 3 (y.ms k))):=⟨b.ds,b.p3,λj=>by
   show(jy Z.R k _ j).n=3 \/Z.n<=j;by_cases e:j=k
   ·rw[e,ij];exact .inl rfl
   ·rw[gW _ _ e];exact b.rn j,b.en⟩
  have xk:jI (jh Z) [] [] (jh (Z.jg k (jt i 3 (y.ms k)))):=by
   have jX:=mc.anew (a:=jh Z) k (Z.jM k).length (by show k<Z.n;omega) (λc e hc V heq=>by
    have J:=E c e hc V heq;exact⟨J,Az a hc J (λd hd=>X c d hc hd) dS,Az a hc J (λd hd=>X c d hc hd) dS⟩)
   have heq:jh (Z.jg k (jt i 3 (y.ms k)))={jh Z with R:=jy (jh Z).R k (jt ((k:Int)+1) 3 ((jh Z).ms k)),ib:=jy (jh Z).ib k (((jh Z).ib k).take (Z.jM k).length)}:=by
    refine AN.ext' rfl rfl rfl rfl rfl (funext λj=> ?_) (funext λc=>funext λe=> ?_) (funext λj=> ?_)
    ·show(jy Z.R k _ j).core=jy _ k (jt ((k:Int)+1) 3 (Z.ms k)) j;by_cases Y:j=k
     ·rw[Y,ij,ij,ZJ,s3];rfl
     ·rw[gW _ _ Y,gW _ _ Y];rfl
    ·show(if c<Z.nc/\e<2 then tu (Z.jg k (jt i 3 (y.ms k))) c e else [])=if c<Z.nc/\e<2 then tu Z c e else []
     split
     ·rename_i CP
      obtain⟨hc,V⟩:=CP;have hP:∀p,(((Z.jg k (jt i 3 (y.ms k))).R k).P p).out=[] :=λp=>by
       show((jy Z.R k _ k).P p).out=[]
       rw[ij];rfl
      have hO:je (((Z.jg k (jt i 3 (y.ms k))).R ((Z.C c).e e).1).P ((Z.C c).e e).2)=je ((Z.R ((Z.C c).e e).1).P ((Z.C c).e e).2):=by
       by_cases M:((Z.C c).e e).1=k
       ·rw[jf (X c e hc V),M,jf (hP _)]
       ·show je ((jy Z.R k _ _).P _)=_;rw[gW _ _ M]
      show(j2 (kf (Z.jg k (jt i 3 (y.ms k))) c e) ((Z.C c).on e)).1++je (((Z.jg k (jt i 3 (y.ms k))).R ((Z.C c).e e).1).P ((Z.C c).e e).2)=_;rw[hO];congr 1;by_cases M:((Z.C c).e (1-e)).1=k
      ·have J:=E c (1-e) hc dP M;rw[a.off c e hc V J];rfl
      ·have hR:kf (Z.jg k (jt i 3 (y.ms k))) c e=kf Z c e:=by
        show((jy Z.R k _ ((Z.C c).e (1-e)).1).P ((Z.C c).e (1-e)).2).rd=_;rw[gW _ _ M];rfl
       rw[hR]
     ·rfl
    ·show Z.jM j++(jy Z.R k (jt i 3 (y.ms k)) j).jM=jy _ k ((Z.jM k++(Z.R k).jM).take (Z.jM k).length) j;by_cases Y:j=k
     ·rw[Y,ij,ij,List.take_left];show Z.jM k++ [] =_;rw[aL]
     ·rw[gW _ _ Y,gW _ _ Y];rfl
   rw[heq];exact jI.one jX
  obtain⟨U,A⟩:=fP (Z.jg k (jt i 3 (y.ms k)));have YM:U.C=Z.C:=by rw[<-A];rfl
  have Q:U.nc=Z.nc:=by rw[<-A];rfl
  rw[A]at f2 u b2 xk⊢;have G:∀c∈l,c<U.nc/\(U.C c).jr= !true:=λc hc=>⟨by rw[Q,s2];exact((H c).1 hc).1,by rw[YM,d c,ag hc];rfl⟩
  have iO:∀j p,((U.R j).P p).out=[] \/((U.R j).P p).out=((Z.R j).P p).out:=λj p=>by
   rw[<-A];show((jy Z.R k _ j).P p).out=[] \/((jy Z.R k _ j).P p).out=_;by_cases Y:j=k
   ·rw[Y,ij];exact .inl rfl
   ·rw[gW _ _ Y];exact .inr rfl
  have p2:=(sW true l f2 u b2 S G (λc hc d hd=>by
   rw[YM];rcases iO ((Z.C c).e d).1 ((Z.C c).e d).2 with h|h
   ·exact h
   ·rw[h];exact X c d (by rw[<-Q];exact(G c hc).1) hd)).1
  have g2:=GN.jo true l u b2 S G;have f3:=jE.jo true l f2 u b2 S G;have nS:=((p1.trans xk).trans p2).lost (qN f3 g2.2.1).1;rw[hpo U (λx=>by rw[YM,s5 x])]at nS;have hn:=uH t l S (λc hc=>((H c).1 hc).1);exact⟨mA y l,⟨hn.1,by rw[hn.2];omega⟩,by simpa using nS⟩
def xR(n:Nat)(f t:Int)(tx:List UInt8):List (Int×List UInt8):=if(1<=f/\f<=(n:Int))/\(1<=t/\t<=6)/\tx.length<=20 then [(t,tx)]else []
theorem OA(hF:jE y)(Q:jN y D 0)(hD:D<=900000000)(f t:Int)(tx:List UInt8):jI (jh y) [] (xR y.n f t tx) (jh (y.send f t tx).1):=by
 unfold iB.send;split
 ·unfold xR;rw[ae dP];exact jI.nil _
 ·rename_i h
  obtain⟨k,U⟩:=fP ((f-1).toNat);have Z:k<y.n:=dP;rw[U];by_cases hv:t<1 \/6<t \/20<tx.length
  ·have e:jR (y.R k) t tx=(y.R k,1):=by unfold jR;rw[ag hv]
   rw[e,ag gN];unfold xR;rw[ae dP];exact jI.nil _
  ·have e:jR (y.R k) t tx=((y.R k).send (t,8,tx),0):=by unfold jR;rw[ae hv]
   have Y:=(Q.Ry dP Z t tx).oS;rw[e]at Y;rw[e,ae gN];unfold xR;rw[ag dP];have M:=mJ.send (y.R k).core (t,8,tx);have S:(y.R k).send (t,8,tx)=((y.R k).core.send (t,8,tx)).pat (λp=>((y.R k).P p).rd) (λp=>((y.R k).P p).out) (y.R k).jM:=by rw[<-Iu,uF]
   have X:=RX hF.o k S (M.frN λ_=>rfl);have V:jI (jh y) [] [(t,tx)] (jh (y.jg k ((y.R k).send (t,8,tx)))):=by
    rw[X];exact jI.one (mc.send k t tx Z dP dP dP)
   exact V.lost (qN (hF.jg k (mJ.send (y.R k) (t,8,tx))) Y).1
def Fv(k:Nat):List (Nat×Nat):=(fG k).flatMap Td
theorem Eh(k:Nat):Fv (k+1)=Fv k++Td k:=by simp[Fv,gY]
theorem Ma:∀k,(Fv k).Nodup/\(Fv k).length=3*k/\∀x∈Fv k,x.1<k
 |0=>⟨cZ,rfl,λ_ h=>by simp[Fv]at h⟩
 |k+1=>by
  obtain⟨a,b,c⟩:=Ma k;rw[Eh];refine⟨bP.2 ⟨a,by simp[Td],λx hx z Z e=> ?_⟩,by simp[b,Td];omega,λx hx=> ?_⟩
  ·have Y:=c x hx;subst e;simp only[Td,gT,gU,or_false]at Z;rcases Z with rfl|rfl|rfl<;>simp at Y
  ·rcases aF.1 hx with h|h
   ·have:=c x h;omega
   ·simp only[Td,gT,gU,or_false]at h;rcases h with rfl|rfl|rfl<;>simp
theorem Cr {y:iB} {D:Nat} (hF:jE y)(Z:jN y D 0)(Y:D<=800000000):∀q,q<=y.n->jI (jh y) (Fv q) [] (jh (y.iW q))
 |0,_=>jI.nil _
 |q+1,hq=>by
  have n6:=Z.n6;have X:=Cr hF Z Y q dP;have V:=Eg (jE.iW hF q) (Z.iW Y q dP) dP q (by rw[(pB y q).1];omega);rw[Eh];exact X.trans V
theorem zG {y:iB} {D:Nat} (hF:jE y)(Y:jN y D 0)(Z:D<=890000000):∀q,q<=9->jI (jh y) [] [] (jh (y.j6 q))
 |0,_=>jI.nil _
 |q+1,hq=>by
  have X:=zG hF Y Z q dP;have f1:=jE.j6 hF Y Z q dP;have k1:=Y.j6 Z q dP;have V:=sX f1 k1 dP (q:Int) 0 2000;have U:=sX (f1.deliver k1 (q:Int) 0 2000) (k1.deliver dP (q:Int) 0 2000) dP (q:Int) 1 2000;exact(X.trans V).trans U
theorem Ct {y:iB} {D:Nat} (hF:jE y)(Z:jN y D 0)(Y:D<=810000000):∀t,t<=12->jI (jh y) [] [] (jh (y.turns t))
 |0,_=>jI.nil _
 |t+1,ht=>(Ct hF Z Y t dP).trans (zG (jE.turns hF Z Y t dP) (Z.turns Y t dP) dP y.nc Z.c9)
theorem KK(hF:jE y)(Z:jN y D 0)(Y:D<=800000000):jI (jh y) (Fv y.n) [] (jh y.round):=by
 have n6:=Z.n6;have h:=(Cr hF Z Y y.n (Nat.le_refl _)).trans (Ct (hF.iW y.n) (Z.iW Y y.n n6) dP 12 (Nat.le_refl _));rw[aL]at h;exact h
def Fw(v:AV):Bool:=v.kind.toList==[115,101,110,100]
def sOf(n:Nat)(v:AV):List (Int×List UInt8):=if Fw v=true then xR n v.a v.b v.s.data.toList else []
theorem Fx {v:AV} (n:Nat) {l:List UInt8} (h:(v.kind.toList==l)=true)(hl:(l==[115,101,110,100])=false):sOf n v=[] :=by
 unfold sOf Fw;rw[dJ]at h;rw[h,hl];rfl
theorem IB(hF:jE y)(Y:GN y)(Z:jN y D 0)(X:D<=800000000)(v:AV):∃T,Oy T/\jI (jh y) T (sOf y.n v) (jh (qX y v)):=by
 unfold qX;split
 ·rename_i h
  rw[Fx y.n h dS];exact Oz hF Y Z _ _
 ·split
  ·rename_i h
   rw[Fx y.n h dS];by_cases hi:v.a<1 \/(y.n:Int)<v.a
   ·refine⟨[],Oy.nil,?_⟩;unfold iB.tick;rw[ag hi];exact jI.nil _
   ·have:=Eg hF Z dP (v.a-1).toNat dP;rw[show(((v.a-1).toNat:Nat):Int)+1=v.a by omega]at this;exact⟨_,⟨by simp[Td],by simp[Td]⟩,this⟩
  ·split
   ·rename_i h
    rw[Fx y.n h dS];exact⟨[],Oy.nil,sX hF Z dP _ _ _⟩
   ·split
    ·rename_i h
     rw[Fx y.n h dS];exact Fu hF Y Z _
    ·split
     ·rename_i h
      unfold sOf;rw[ag (show Fw v=true from h)];exact⟨[],Oy.nil,OA hF Z dP _ _ _⟩
     ·rename_i h
      unfold sOf;rw[ae (show¬Fw v=true from h)];split
      ·obtain⟨a,b,_⟩:=Ma y.n;have:=Z.n6;exact⟨_,⟨a,by rw[b];omega⟩,KK hF Z X⟩
      ·exact⟨[],Oy.nil,jI.nil _⟩
def Te(m:Nat):List (Nat×Nat):=(fG m).flatMap λc=>[(c,0),(c,1)]
theorem qu {m:Nat} {x:Nat×Nat}:x∈Te m↔x.1<m/\x.2<2:=by
 obtain⟨c,d⟩:=x;unfold Te;simp only[List.mem_flatMap,List.mem_range,gT,Prod.mk.injEq,gU,or_false];constructor
 ·rintro⟨b,Z,Y|Y⟩<;>omega
 ·rintro⟨Z,Y⟩;exact⟨c,Z,dP⟩
theorem yS:∀m,(Te m).Nodup
 |0=>cZ
 |m+1=>by
  have e:Te (m+1)=Te m++ [(m,0),(m,1)] :=by simp[Te,gY]
  rw[e];refine bP.2 ⟨yS m,gN,λx hx z Z h=> ?_⟩;have Y:=(qu.1 hx).1;subst h;simp only[gT,gU,or_false]at Z;rcases Z with rfl|rfl<;>simp at Y
def sm {α:Type} (f:α->Nat)(l:List α):Nat:=(l.map f).sum
theorem uI {α:Type} {f g:α->Nat}:∀ {l:List α},(∀x∈l,f x<=g x)->sm f l<=sm g l
 |[],_=>Nat.le_refl _
 |x::l,h=>by
  have:=uI (l:=l) λy hy=>h y (by simp[hy]);have h1:=h x gN;simp only[sm,eu,gZ]at*;omega
theorem Cu {α:Type} (f g:α->Nat):∀l:List α,sm (λx=>f x+g x) l=sm f l+sm g l
 |[] =>rfl
 |x::l=>by
  have:=Cu f g l;simp only[sm,eu,gZ]at*;omega
theorem r9(f:α->Nat)(l m:List α):sm f (l++m)=sm f l+sm f m:=by simp[sm]
theorem Fy {α:Type} [DecidableEq α] (y:α)(k:Nat):∀ {l:List α},l.Nodup->sm (λx=>if x=y then k else 0) l=if y∈l then k else 0
 |[],_=>rfl
 |x::l,h=>by
  have Z:=bK.1 h;have:=Fy y k Z.2;have e:sm (λx=>if x=y then k else 0) (x::l)=(if x=y then k else 0)+sm (λx=>if x=y then k else 0) l:=rfl;rw[e,this];by_cases hx:x=y
  ·subst hx;rw[ag rfl,ae Z.1,ag gN];rfl
  ·rw[ae hx];by_cases hy:y∈l
   ·rw[ag hy,ag (by simp[hy])];omega
   ·rw[ae hy,ae (by simp[hy,Ne.symm hx])]
theorem Mb [DecidableEq α] {f g:α->Nat} {y:α} {l:List α} (Y:l.Nodup)(hy:y∈l)(h:∀x∈l,f x+(if x=y then k else 0)<=g x):sm f l+k<=sm g l:=by
 have Z:=uI h;rw[Cu,Fy y k Y,ag hy]at Z;exact Z
structure yf(a:AN):Prop where
 n6:a.n<=6
 c9:a.nc<=9
 ds:∀c d c' d',c<a.nc->d<2->c'<a.nc->d'<2->a.e c d=a.e c' d'->c=c'/\d=d'
 en:∀c d,c<a.nc->d<2->(a.e c d).1<a.n/\(a.e c d).2<3
theorem yf.same {a b:AN} (h:yf a)(Y:b.n=a.n)(Z:b.nc=a.nc)(X:b.e=a.e):yf b:=
 ⟨by rw[Y];exact h.n6,by rw[Z];exact h.c9,by rw[Z,X];exact h.ds,by rw[Y,Z,X];exact h.en⟩
theorem jN.YO(h:jN y D k):yf (jh y):=⟨h.n6,h.c9,h.ds,h.en⟩
theorem Ei(e:Nat×Nat->Nat×Nat)(i:Nat)(h:Nat->Nat):∀l:List (Nat×Nat),l.Nodup->(∀x∈l,(e x).2<3)->(∀x∈l,∀y∈l,e x=e y->x=y)->sm (λx=>if(e x).1=i then h (e x).2 else 0) l<=sm (λp=>if(i,p)∈l.map e then h p else 0) [0,1,2]
 |[],_,_,_=>Nat.zero_le _
 |x::l,hn,hp,hi=>by
  have Y:=bK.1 hn;have ih:=Ei e i h l Y.2 (λy hy=>hp y (by simp[hy])) (λy hy z S=>hi y (by simp[hy]) z (by simp[S]));have U:sm (λx=>if(e x).1=i then h (e x).2 else 0) (x::l)=(if(e x).1=i then h (e x).2 else 0)+sm (λx=>if(e x).1=i then h (e x).2 else 0) l:=rfl;rw[U];by_cases hx:(e x).1=i
  ·rw[ag hx];have Q:(i,(e x).2)∉l.map e:=λZ=>by
    obtain⟨y,hy,V⟩:=bD.1 Z;have:=hi x gN y (by simp[hy]) (by rw[V,<-hx]);exact Y.1 (this▸hy)
   have h3:sm (λp=>if(i,p)∈l.map e then h p else 0) [0,1,2] +h (e x).2<=sm (λp=>if(i,p)∈(x::l).map e then h p else 0) [0,1,2] :=by
    refine Mb (y:=(e x).2) dS ?_ λp _=> ?_
    ·have:=hp x gN;simp only[gT,gU,or_false];omega
    ·by_cases X:p=(e x).2
     ·subst X;rw[ae Q,ag rfl,ag (by simp[<-hx])];omega
     ·rw[ae X];by_cases Z:(i,p)∈l.map e
      ·rw[ag Z,ag (by simp only[eu,gT];exact .inr Z)];omega
      ·rw[ae Z];omega
   omega
  ·rw[ae hx,Nat.zero_add];refine Nat.le_trans ih (uI λp _=> ?_);by_cases Z:(i,p)∈l.map e
   ·rw[ag Z,ag (by simp only[eu,gT];exact .inr Z)];exact Nat.le_refl _
   ·rw[ae Z];exact Nat.zero_le _
def AN.W(a:AN)(w:mb->Nat):Nat:=sm (λx:Nat×Nat=>sm w (a.F x.1 x.2)) (Te a.nc)
theorem YP {a b:AN} (h:wI a b)(w:mb->Nat):b.W w<=a.W w:=by
 have e:b.nc=a.nc:=by rw[h.1]
 unfold AN.W;rw[e];refine uI λx _=> ?_;obtain⟨m,Z⟩:=h.2 x.1 x.2;show sm w (b.F x.1 x.2)<=sm w (a.F x.1 x.2);rw[Z];have:=r9 w ((a.F x.1 x.2).take m) ((a.F x.1 x.2).drop m);rw[bO]at this;omega
theorem agL {a:AN} (Z:yf a)(i:Nat)(s:iy)(w:mb->Nat):(a.op i s).W w<=a.W w+(sm w (je (s.P 0))+sm w (je (s.P 1))+sm w (je (s.P 2))):=by
 have X:∀x∈Te a.nc,sm w ((a.op i s).F x.1 x.2)=sm w (a.F x.1 x.2)+(if(a.e x.1 x.2).1=i then sm w (je (s.P (a.e x.1 x.2).2))else 0):=λx hx=>by
  have V:=qu.1 hx;rw[yR];by_cases e:(a.e x.1 x.2).1=i
  ·rw[ag ⟨V,e⟩,ag e,r9]
  ·rw[ae (λh=>e h.2),ae e];rfl
 unfold AN.W;refine Nat.le_trans (uI (g:=λx:Nat×Nat=>sm w (a.F x.1 x.2)+(if(a.e x.1 x.2).1=i then sm w (je (s.P (a.e x.1 x.2).2))else 0)) λx hx=>Nat.le_of_eq (X x hx)) ?_;rw[Cu];refine Nat.add_le_add_left ?_ _;refine Nat.le_trans (Ei (λx=>a.e x.1 x.2) i (λp=>sm w (je (s.P p))) (Te a.nc) (yS _) (λx hx=>(Z.en _ _ (qu.1 hx).1 (qu.1 hx).2).2) (λx hx z Y h=> ?_)) ?_
 ·have:=Z.ds _ _ _ _ (qu.1 hx).1 (qu.1 hx).2 (qu.1 Y).1 (qu.1 Y).2 h;exact bn this.1 this.2
 ·refine Nat.le_trans (uI (g:=λp=>sm w (je (s.P p))) λp _=> ?_) ?_
  ·show(if _ then _ else 0)<=_;split
   ·exact Nat.le_refl _
   ·exact Nat.zero_le _
  ·show sm w (je (s.P 0))+(sm w (je (s.P 1))+(sm w (je (s.P 2))+0))<=_;omega
theorem acG {a:AN} (w:mb->Nat) {x:mb} {l:List mb} (hc:c<a.nc)(hd:d<2)(h:a.F c d=x::l):(a.lM c d l).W w+w x<=a.W w:=by
 unfold AN.W;refine Mb (y:=(c,d)) (yS _) (qu.2 ⟨hc,hd⟩) λy _=> ?_;show sm w (if y.1=c/\y.2=d then l else a.F y.1 y.2)+(if y=(c,d)then w x else 0)<=sm w (a.F y.1 y.2);by_cases e:y.1=c/\y.2=d
 ·rw[ag e,ag (bn e.1 e.2),e.1,e.2,h];show sm w l+w x<=w x+sm w l;omega
 ·rw[ae e,ae (λh=>e (by rw[h];exact⟨rfl,rfl⟩))];exact Nat.le_refl _
theorem AA(a:AN)(w:mb->Nat)(c d:Nat):(a.lM c d []).W w<=a.W w:=by
 unfold AN.W;refine uI λy _=> ?_;show sm w (if y.1=c/\y.2=d then []else a.F y.1 y.2)<=sm w (a.F y.1 y.2);split
 ·exact Nat.zero_le _
 ·exact Nat.le_refl _
theorem Ej {a:AN} (h:Norm a)(c:Nat)(up:Bool):Norm (a.iw c up):=by
 unfold AN.iw AN.mI;exact qt (qt (a:=(({a with jr:=jy a.jr c up}:AN).lM c 0 []).lM c 1 []) h _ _) _ _
theorem mc.norm {a b:AN} {S:List (Int×List UInt8)} (h:mc a T S b)(Z:Norm a):Norm b:=by
 cases h with
 |lost h=>rw[h.1];exact Z
 |tick i p _ _=>exact qt Z _ _
 |pop c d x l _ _ _=>exact qt (a:=a.lM c d l) Z _ _
 |send i t tx _ _ _ _=>exact qt Z _ _
 |iw c _ _ _ _=>exact Ej Z c true
 |draw c _ _=>exact Ej Z c false
 |anew i m _ _=>
  intro j;show(jy a.R i _ j).core=jy a.R i _ j;by_cases e:j=i
  ·subst e;rw[ij];rfl
  ·rw[gW _ _ e];exact Z j
theorem jI.norm {a b:AN} {T:List (Nat×Nat)} {S:List (Int×List UInt8)} (h:jI a T S b)(Z:Norm a):Norm b:=by
 induction h with
 |nil=>exact Z
 |snoc _ s ih=>exact s.norm ih
def Jc(r:iy):Prop:=∀p,(r.P p).out=[]
theorem Norm.emp {a:AN} (h:Norm a)(i:Nat):Jc (a.R i):=h.out i
def Fr(p:jb):Prop:=∃ps,Frames p.out ps
theorem Jc.fr(h:Jc r)(p:Nat):Fr (r.P p):=⟨[],by rw[h];exact Frames.nil⟩
theorem Fr.put {p:jb} (h:Fr p)(c:UInt8)(s:List UInt8):Fr (p.put c s):=(qq.put p c s).fr h
theorem nF {q:jb} (h:q.out=p.out):je q=je p:=by unfold je;rw[h]
theorem uJ(h:Fr p)(c:UInt8)(s:List UInt8):je (p.put c s)=je p++(if(c≠76/\p.L.st≠9) \/60<s.length+1 then []else [c::s]):=by
 obtain⟨ps,Z⟩:=h;unfold jb.put;split
 ·rename_i g;rw[ag (.inl g)];simp
 ·rename_i g
  split
  ·rename_i hl
   rw[ae (λz=>z.elim g dP)];have Y:Frames ({p with out:=p.out++Plain.mD (c::s)}:jb).out (ps++ [c::s]):=Z.snoc ⟨gN,by simpa using hl⟩;rw[mO Y,mO Z]
  ·rw[ag (.inr dP)];simp
def rA(q:kr):List mb:=if ju q.1 q.2.1 q.2.2=0/\(lA q.1 q.2.1 q.2.2).length+1<=60 then [76::lA q.1 q.2.1 q.2.2]else []
theorem uK:∀(l:List kr) {p:jb},Fr p->je (p.say l)=je p++l.flatMap rA/\Fr (p.say l)
 |[],p,h=>⟨by simp[jb.say],h⟩
 |q::r,p,h=>by
  show je ((if ju q.1 q.2.1 q.2.2=0 then p.put 76 (lA q.1 q.2.1 q.2.2)else p).say r)=_/\Fr ((if ju q.1 q.2.1 q.2.2=0 then p.put 76 (lA q.1 q.2.1 q.2.2)else p).say r);rw[cM];unfold rA;split
  ·rename_i g
   obtain⟨a,b⟩:=uK r (h.put 76 (lA q.1 q.2.1 q.2.2));refine⟨?_,b⟩;rw[a,uJ h,az];congr 2;by_cases hl:(lA q.1 q.2.1 q.2.2).length+1<=60
   ·rw[ae (by simp;omega),ag ⟨g,hl⟩]
   ·rw[ag (.inr dP),ae (λz=>hl z.2)]
  ·rename_i g
   obtain⟨a,b⟩:=uK r h;exact⟨by rw[a,ae (λz=>g z.1)];rfl,b⟩
def R6(q:Int×PS):List mb:=if(rM q.1 q.2.1 q.2.2).length+1<=60 then [83::rM q.1 q.2.1 q.2.2]else []
theorem zH:∀(l:List (Int×PS)) {p:jb},Fr p->p.L.st=9->je (p.j3 l)=je p++l.flatMap R6
 |[],p,h,_=>by simp[jb.j3]
 |q::r,p,h,h9=>by
  show je ((p.put 83 (rM q.1 q.2.1 q.2.2)).j3 r)=_;rw[zH r (h.put 83 _) (by rw[uC];exact h9),uJ h,cM,az];congr 2;unfold R6;by_cases hl:(rM q.1 q.2.1 q.2.2).length+1<=60
  ·rw[ae dP,ag hl]
  ·rw[ag (.inr dP),ae hl]
theorem j4(r:iy)(i:Nat)(q:kL)(p:Nat):((r.meet i q).P p).out=(r.P p).out/\((r.meet i q).P p).L=(r.P p).L/\((r.meet i q).P p).m=(r.P p).m/\((r.meet i q).P p).pe=if p=i then q else(r.P p).pe:=by
 rw[(lS r i q).2.2.2];by_cases e:p=i
 ·subst e;rw[ja,ag rfl];exact⟨rfl,rfl,rfl,rfl⟩
 ·rw[iU _ _ e,ae e];exact⟨rfl,rfl,rfl,rfl⟩
theorem kx(r:iy)(i:Nat)(q:jb)(p:Nat):(r.iE i q).P p=if p=i then q else r.P p:=rfl
theorem AB(h:Jc r)(i:Nat)(c:UInt8)(s:List UInt8):(∀p,je ((jH r i c s).P p)=if p=i/\c=76/\(iF s).2.2.2=0 then(jD (r.P i).L ((iF s).1,(iF s).2.1,(iF s).2.2.1)).2.1.flatMap rA else [])/\(∀p,Fr ((jH r i c s).P p))/\(∀p,((jH r i c s).P p).pe=(r.P p).pe/\((jH r i c s).P p).m=(r.P p).m/\((jH r i c s).P p).L=if p=i/\c=76/\(iF s).2.2.2=0 then(jD (r.P i).L ((iF s).1,(iF s).2.1,(iF s).2.2.1)).1 else(r.P p).L)/\(jH r i c s).K=r.K/\(jH r i c s).O=r.O/\(jH r i c s).jM=r.jM/\(jH r i c s).id=r.id/\(jH r i c s).n=r.n:=by
 unfold jH;by_cases hc:c=76
 ·rw[ag hc];obtain⟨E,Y⟩:=fP (jD (r.P i).L ((iF s).1,(iF s).2.1,(iF s).2.2.1));rw[Y];have Z:(r.P i).packet s=if(iF s).2.2.2=0 then({r.P i with L:=E.1}:jb).say E.2.1 else r.P i:=by
   unfold jb.packet;simp only;rw[Y]
  have hs:=uK E.2.1 (p:={r.P i with L:=E.1}) (show Fr _ from h.fr i);have V:je ({r.P i with L:=E.1}:jb)=[] :=jf (h i);have X:=uv E.2.1 ({r.P i with L:=E.1}:jb);have U:=Ch E.2.1 ({r.P i with L:=E.1}:jb);refine⟨λp=> ?_,λp=> ?_,λp=> ?_,rfl,rfl,rfl,rfl,rfl⟩
  ·rw[kx];by_cases e:p=i
   ·rw[ag e,Z];by_cases f:(iF s).2.2.2=0
    ·rw[ag f,ag ⟨e,hc,f⟩,hs.1,V];rfl
    ·rw[ae f,ae (λz=>f z.2.2),jf (h i)]
   ·rw[ae e,ae (λz=>e z.1),jf (h p)]
  ·rw[kx,Z];split
   ·split
    ·exact hs.2
    ·exact h.fr i
   ·exact h.fr p
  ·rw[kx,Z];by_cases e:p=i
   ·subst e;rw[ag rfl];by_cases f:(iF s).2.2.2=0
    ·rw[ag f,ag ⟨rfl,hc,f⟩,X.1,X.2,U];exact⟨rfl,rfl,rfl⟩
    ·rw[ae f,ae (λz=>f z.2.2)];exact⟨rfl,rfl,rfl⟩
   ·rw[ae e,ae (λz=>e z.1)];exact⟨rfl,rfl,rfl⟩
 ·rw[ae hc];refine⟨λp=> ?_,λp=>h.fr p,λp=> ?_,rfl,rfl,rfl,rfl,rfl⟩
  ·rw[ae (λz=>hc z.2.1),jf (h p)]
  ·rw[ae (λz=>hc z.2.1)];exact⟨rfl,rfl,rfl⟩
theorem Cv(i:Nat) {c:UInt8} (s:List UInt8)(hc:c≠76):jH r i c s=r:=by unfold jH;rw[ae hc]
theorem R7(h:Jc r)(i:Nat)(s:List UInt8)(p:Nat):je ((ji r i s).P p)=[] \/(p=i/\(ik s).2.2.2=0/\(r.P i).pe.both=true/\¬((ik s).1=r.id/\0<newF r.K (ik s).1 (ik s).2.1 (ik s).2.2.1)/\0<=newF r.K (ik s).1 (ik s).2.1 (ik s).2.2.1/\je ((ji r i s).P p)=[65::rM (ik s).1 (ik s).2.1 (ik s).2.2.1]):=by
 unfold ji;simp only;split
 ·exact .inl (jf (h p))
 ·rename_i Z
  split
  ·left;rw[(nC r _).2.2.2];exact jf (h p)
  ·rename_i Y
   split
   ·rename_i X
    rw[kx];by_cases e:p=i
    ·rw[ag e,uJ (h.fr i),jf (h i)];split
     ·exact .inl rfl
     ·refine .inr ⟨e,dP,?_,Y,X,rfl⟩;cases hb:(r.P i).pe.both
      ·exact absurd (.inr hb) Z
      ·rfl
    ·rw[ae e];exact .inl (jf (h p))
   ·exact .inl (jf (h p))
theorem AE(h:Jc r)(t:wT):∃j,(∀p,p≠j->je ((r.send t).P p)=[])/\(je ((r.send t).P j)=[] \/(((r.P j).L.st=9/\1<=t.2.1)/\je ((r.send t).P j)=[77::jQ t.1::jQ (t.2.1-1)::t.2.2])):=by
 unfold iy.send;split
 ·exact⟨0,λp _=>jf (h p),.inl (jf (h 0))⟩
 ·cases hv:(if 1<=t.2.1 then(ym (oB r) t.1).bind λh=>jA r.P h.tf r.n else ν)with
  |none=>exact⟨0,λp _=>jf (h p),.inl (jf (h 0))⟩
  |some i=>
   have Y:1<=t.2.1:=by
    by_cases g:1<=t.2.1
    ·exact g
    ·rw[ae g]at hv;simp at hv
   refine⟨i,λp X=> ?_,?_⟩
   ·show je ((r.iE i _).P p)=[]
    rw[kx,ae X];exact jf (h p)
   ·show je ((r.iE i _).P i)=[] \/(((r.P i).L.st=9/\1<=t.2.1)/\je ((r.iE i _).P i)=_);rw[kx,ag rfl,uJ (h.fr i),jf (h i)];split
    ·exact .inl rfl
    ·rename_i g
     refine .inr ⟨⟨?_,Y⟩,rfl⟩;by_cases Z:(r.P i).L.st=9
     ·exact Z
     ·exact absurd (.inl ⟨dS,Z⟩) g
inductive Df(r:iy)(i:Nat)(x:mb)(p:Nat)(l:List mb):Prop
 |none:l=[]->Df r i x p l
 |link (s:List UInt8):x=76::s->p=i->(iF s).2.2.2=0->l=(jD (r.P i).L ((iF s).1,(iF s).2.1,(iF s).2.2.1)).2.1.flatMap rA->Df r i x p l
 |heard (s:List UInt8):x=83::s->p=i->(r.P i).L.st=9->(ik s).2.2.2=0->(r.P i).pe.both=true->¬((ik s).1=r.id/\0<newF r.K (ik s).1 (ik s).2.1 (ik s).2.2.1)->0<=newF r.K (ik s).1 (ik s).2.1 (ik s).2.2.1->l=[65::rM (ik s).1 (ik s).2.1 (ik s).2.2.1]->Df r i x p l
 |R8 (a b:UInt8) (s:List UInt8):x=77::a::b::s->(r.P p).L.st=9->1<=b.toNat->s.length<=20->l=[77::a::jQ ((b.toNat:Int)-1)::s]->Df r i x p l
theorem xS(h:Jc r)(i:Nat)(x:mb):(∀p,Df r i x p (je ((jT r i x).P p)))/\∀p q,je ((jT r i x).P p)≠ []->je ((jT r i x).P q)≠ []->p=q:=by
 have X:∀r':iy,(∀p,je (r'.P p)=[])->(∀p,Df r i x p (je (r'.P p)))/\∀p q,je (r'.P p)≠ []->je (r'.P q)≠ []->p=q:=λr' Q=>⟨λp=>.none (Q p),λp q Z=>absurd (Q p) Z⟩
 cases x with
 |nil=>exact X r λp=>jf (h p)
 |cons c s=>
  show(∀p,Df r i (c::s) p (je ((r.take i c s).P p)))/\_;have J:jT r i (c::s)=r.take i c s:=rfl;rw[J];by_cases hc:c=76
  ·obtain⟨S,a2,a3,_⟩:=AB h i c s;have M:∀p,je ((r.take i c s).P p)=je ((jH r i c s).P p):=λp=>by
    rw[lK];split
    ·exact nF (j4 _ _ _ _).1
    ·unfold l9;rw[ae (by rw[hc];decide),ae (by rw[hc];decide),ae (by rw[hc];decide),ae (by rw[hc];decide)]
   refine⟨λp=> ?_,λp q Z Y=> ?_⟩
   ·rw[M,S];split
    ·rename_i g
     exact .link s (by rw[hc]) g.1 g.2.2 rfl
    ·exact .none rfl
   ·rw[M,S]at Z Y;split at Z
    ·rename_i g
     split at Y
     ·rename_i V;exact g.1.trans V.1.symm
     ·exact absurd rfl Y
    ·exact absurd rfl Z
  ·rw[lK,Cv i s hc];by_cases U:(r.P i).L.st=9
   ·rw[ae (by rw[U];simp)];unfold l9;split
    ·split
     ·exact X _ λp=>by rw[nF (j4 _ _ _ _).1];exact jf (h p)
     ·exact X _ λp=>jf (h p)
    ·split
     ·rename_i hS
      have hs:=R7 h i s;refine⟨λp=> ?_,λp q Z Y=> ?_⟩
      ·rcases hs p with g|⟨g1,V,t,g4,g5,g6⟩
       ·exact .none g
       ·exact .heard s (by rw[hS]) g1 U V t g4 g5 g6
      ·rcases hs p with g|g
       ·exact absurd g Z
       ·rcases hs q with f|f
        ·exact absurd f Y
        ·exact g.1.trans f.1.symm
     ·split
      ·refine X _ λp=> ?_;unfold ku;simp only;split<;>exact jf (h p)
      ·split
       ·rename_i hM
        unfold qj;split
        ·rename_i hl
         match s,hl with
         |a::b::u,hl=>
          obtain⟨j,g1,V⟩:=AE h (((((a::b::u).getD 0 0).toNat:Nat):Int),((((a::b::u).getD 1 0).toNat:Nat):Int),(a::b::u).drop 2);have H:((a::b::u).getD 0 0)=a:=rfl;have G:((a::b::u).getD 1 0)=b:=rfl;have E:(a::b::u).drop 2=u:=rfl;rw[H,G,E]at g1 V⊢;refine⟨λp=> ?_,λp q Z Y=> ?_⟩
          ·by_cases e:p=j
           ·subst e;rcases V with g|⟨g,f⟩
            ·exact .none g
            ·obtain⟨g9,g⟩:=g;have A:jQ ((a.toNat:Nat):Int)=a:=by unfold jQ;simp
             refine .R8 a b u (by rw[hM]) g9 (by simp only at g;omega) ?_ ?_
             ·simp only[eE]at hl;omega
             ·rw[f];show [77::jQ ((a.toNat:Nat):Int)::_::u] =_;rw[A]
           ·exact .none (g1 p e)
          ·by_cases e:p=j
           ·by_cases f:q=j
            ·rw[e,f]
            ·exact absurd (g1 q f) Y
           ·exact absurd (g1 p e) Z
        ·exact X _ λp=>jf (h p)
       ·exact X _ λp=>jf (h p)
   ·rw[ag U];exact X _ λp=>by rw[nF (j4 _ _ _ _).1];exact jf (h p)
theorem AF(h:Jc r)(i:Nat):(∀p,p≠i->je ((r.iV i).P p)=[])/\je ((r.iV i).P i)=(jB (r.P i).L).2.flatMap rA++(if(jB (r.P i).L).1.st=9 then(72::[jQ r.id,jQ (iH (r.P i).pe).who])::(if(iH (r.P i).pe).both=true then(lU (((iT r i).meet i (iH (r.P i).pe)).O i)).flatMap R6 else [])else []):=by
 have hs:=uK (jB (r.P i).L).2 (p:={r.P i with L:=(jB (r.P i).L).1}) (show Fr _ from h.fr i);have E:je ({r.P i with L:=(jB (r.P i).L).1}:jb)=[] :=jf (h i);have u:=(uv (jB (r.P i).L).2 ({r.P i with L:=(jB (r.P i).L).1}:jb)).2;have A:=Ch (jB (r.P i).L).2 ({r.P i with L:=(jB (r.P i).L).1}:jb);have Y:∀p,(iT r i).P p=if p=i then({r.P i with L:=(jB (r.P i).L).1}:jb).say (jB (r.P i).L).2 else r.P p:=λp=>by
  unfold iT;rw[kx];rfl
 have t:((iT r i).P i).pe=(r.P i).pe:=by rw[Y,ag rfl,u]
 have G:((iT r i).P i).L.st=(jB (r.P i).L).1.st:=by rw[Y,ag rfl,A]
 have qw:(iT r i).id=r.id:=rfl;have S:je ((iT r i).P i)=(jB (r.P i).L).2.flatMap rA/\Fr ((iT r i).P i):=by
  rw[Y,ag rfl,hs.1,E];exact⟨rfl,hs.2⟩
 rw[kO,G,t];by_cases Z:(jB (r.P i).L).1.st=9
 ·rw[ae (by rw[Z];simp),ag Z];obtain⟨x,hx⟩:=fP ((iT r i).meet i (iH (r.P i).pe));obtain⟨m1,m2,_,M⟩:=j4 (iT r i) i (iH (r.P i).pe) i;have U:x.id=r.id:=by rw[<-hx];exact(jm.meet (iT r i) i _).id
  rw[hx]at m1 m2 M;rw[ag rfl]at M;have Q:je (x.P i)=(jB (r.P i).L).2.flatMap rA:=by rw[nF m1];exact S.1
  have H:Fr (x.P i):=by obtain⟨ps,j⟩:=S.2;exact⟨ps,by rw[m1];exact j⟩
  have X:(x.P i).L.st=9:=by rw[m2,G];exact Z
  rw[hx];unfold lI;simp only;refine⟨λp V=> ?_,?_⟩
  ·rw[kx,ae V,<-hx,nF (j4 _ _ _ _).1,Y,ae V];exact jf (h p)
  ·rw[kx,ag rfl,M,U];have J:=uJ H 72 [jQ r.id,jQ (iH (r.P i).pe).who];rw[ae (by rw[X];simp),Q]at J;split
   ·rw[zH _ (H.put 72 _) (by rw[uC];exact X),J,az];rfl
   ·rw[J]
 ·rw[ag Z,ae Z];refine⟨λp V=> ?_,?_⟩
  ·rw[nF (j4 _ _ _ _).1,Y,ae V];exact jf (h p)
  ·rw[nF (j4 _ _ _ _).1,S.1,aL]
theorem Fz(h:Jc r)(i:Nat)(up:Bool)(Y:(ko (r.P i).L (if up=true then 0 else 1)).2.2=0):(∀p,p≠i->je ((r.iw i up).1.P p)=[])/\je ((r.iw i up).1.P i)=(ko (r.P i).L (if up=true then 0 else 1)).2.1.flatMap rA/\(r.iw i up).1=((r.iE i (({r.P i with L:=(ko (r.P i).L (if up=true then 0 else 1)).1,rd:=lh}:jb).say (ko (r.P i).L (if up=true then 0 else 1)).2.1)).meet i nobody):=by
 obtain⟨E,X⟩:=fP (ko (r.P i).L (if up=true then 0 else 1));rw[X]at Y⊢;have hs:=uK E.2.1 (p:={r.P i with L:=E.1,rd:=lh}) (show Fr _ from h.fr i);have V:je ({r.P i with L:=E.1,rd:=lh}:jb)=[] :=jf (h i);have e:(r.P i).iw up=(({r.P i with L:=E.1,rd:=lh}:jb).say E.2.1,0):=by
  unfold jb.iw;rw[X];simp only;rw[ae (by simp[Y])];rfl
 have Z:(r.iw i up).1=(r.iE i (({r.P i with L:=E.1,rd:=lh}:jb).say E.2.1)).meet i nobody:=by
  unfold iy.iw;rw[e];simp only;rw[ae gN]
 refine⟨λp U=> ?_,?_,Z⟩
 ·rw[Z,nF (j4 _ _ _ _).1,kx,ae U];exact jf (h p)
 ·rw[Z,nF (j4 _ _ _ _).1,kx,ag rfl,hs.1,V];rfl
