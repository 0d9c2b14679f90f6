import Derived.Test.YtieklnlbljejdaaGreatDoorG32
import Derived.Test.YtieklnlbljejdaaGreatDoorG33
open List renaming mem_cons → iJ, not_mem_nil → iK, range → gJ, mem_singleton → iM, range_succ → iN, map_cons → eU, sum_cons → iO
namespace Go.Proofs.YtieklnlbljejdaaGreatDoor
open Go.RowKit St
namespace Rt
variable {D c d k:Nat} {S:List (Int×List UInt8)} {T:List (Nat×Nat)} {y:jc} {α:Type}
theorem j6.Wf(h:j6 y D 0):∀c d,c<y.nc->d<2->((y.R ((y.C c).e d).1).P ((y.C c).e d).2).out=[] :=λc d hc hd=>by
 obtain⟨h1,h2⟩:=h.en c d hc hd;exact aG (by have:=(h.fit _ h1).2 _ h2;omega)
theorem Bn(hG:GN y)(hc:c<y.nc)(hi:(y.C c).jG=false)(ho:∀d,d<2->((y.R ((y.C c).e d).1).P ((y.C c).e d).2).out=[])(hd:d<2):(jl y).F c d=[] :=by
 show(if c<y.nc/\d<2 then tK y c d else [])=[]
 rw[ag ⟨hc,hd⟩];unfold tK;rw[hG.off c d hc hd hi,jM (ho d hd)];rfl
def mO(y:jc)(l:List Nat):List (Nat×Nat):=l.flatMap λc=>[(y.C c).e 0,(y.C c).e 1]
theorem tZ(up:Bool):∀(l:List Nat) {y:jc},j1 y->GN y->Ends y->l.Nodup->(∀c∈l,c<y.nc/\(y.C c).jG= !up)->(∀c∈l,∀d,d<2->((y.R ((y.C c).e d).1).P ((y.C c).e d).2).out=[])->
 jU (jl y) (if up=true then mO y l else []) [] (jl (y.jS up l))/\(up=false->(∀c d,c<y.nc->d<2->((y.R ((y.C c).e d).1).P ((y.C c).e d).2).out=[])->∀c d,c<y.nc->d<2->(((y.jS up l).R ((y.C c).e d).1).P ((y.C c).e d).2).out=[])
 |[],y,_,_,_,_,_,_=>⟨by cases up<;>exact jU.nil _,λ_ h=>h⟩
 |c::l,y,hF,hG,hE,C4,hm,ho=>by
  obtain⟨hc,hi⟩:=hm c iC;have hoc:=ho c iC;obtain⟨a1,a2,a3⟩:=Py hF.o hG hE c up hc hi hoc;obtain⟨s1,s2,_,_,s5⟩:=oO y c up;have XC:=hF.j5 hG hE c up hc hi;have hG1:=hG.j5 hE c up hc hi;have hE1:=hE.j5 c up;have adF:=bR.1 C4;have jV:∀x∈l,x≠c:=λx hx e=>adF.1 (e▸hx);have wz:jU (jl y) (if up=true then [(y.C c).e 0,(y.C c).e 1]else []) [] (jl (y.j5 c up)):=by
   rw[a1];cases up
   ·exact jU.one (mE.draw c hc (show(y.C c).jG=true by simpa using hi))
   ·exact jU.one (mE.iW c hc (show(y.C c).jG=false by simpa using hi) (Bn hG hc (by simpa using hi) hoc eH) (Bn hG hc (by simpa using hi) hoc eH))
  obtain⟨y1,yc⟩:=gH (y.j5 c up);rw[yc]at a2 a3 s2 s5 XC hG1 hE1 wz;obtain⟨p1,p2⟩:=tZ up l (y:=y1) XC hG1 hE1 adF.2 (λx hx=>⟨by rw[s2];exact(hm x (by simp[hx])).1,by rw[(s5 x).2,ae (jV x hx)];exact(hm x (by simp[hx])).2⟩) (λx hx d hd=>by
   rw[(s5 x).1];rw[a2 _ _ (λd' lD h=>(jV x hx) (hE.ds x d c d' (hm x (by simp[hx])).1 hd hc lD h.symm).1)];exact ho x (by simp[hx]) d hd)
  have hP:mO y1 l=mO y l:=by unfold mO;congr 1;funext x;rw[(s5 x).1]
  refine⟨?_,λhup oA x d hx hd=> ?_⟩
  ·have:=wz.trans p1;rw[hP]at this;show jU _ _ _ (jl ((y.j5 c up).jS up l));rw[yc];cases up
   ·simpa using this
   ·simpa[mO]using this
  ·show(((y.j5 c up).jS up l).R _|>.P _).out=[]
   rw[yc];have:=p2 hup (λx d hx hd=>by
    rw[(s5 x).1];have Af:x<y.nc:=by rw[<-s2];exact hx
    by_cases e:x=c
    ·subst e;exact a3 hup d hd
    ·rw[a2 _ _ (λd' lD h=>e (hE.ds x d c d' Af hd hc lD h.symm).1)];exact oA x d Af hd) x d (by rw[s2];exact hx) hd
   rw[(s5 x).1]at this;exact this
structure PE(T:List (Nat×Nat)):Prop where
 nd:T.Nodup
 len:T.length<=18
theorem PE.nil:PE [] :=⟨dv,iC⟩
theorem vC {y:jc} (hE:Ends y):∀l:List Nat,l.Nodup->(∀c∈l,c<y.nc)->(mO y l).Nodup/\(mO y l).length=2*l.length
 |[],_,_=>⟨by simp[mO],rfl⟩
 |c::l,C4,hm=>by
  have h2:=bR.1 C4;obtain⟨a,b⟩:=vC hE l h2.2 λx hx=>hm x (by simp[hx]);have hc:=hm c iC;have e:mO y (c::l)=(y.C c).e 0::(y.C c).e 1::mO y l:=by simp[mO]
  have mr:∀d,d<2->(y.C c).e d∉mO y l:=λd hd hx=>by
   unfold mO at hx;obtain⟨x,hx1,vm⟩:=bB.1 hx;have Nt:=hm x (by simp[hx1]);have:(∃f,f<2/\(y.C c).e d=(y.C x).e f):=by
    simp only[iJ,iK,or_false]at vm;rcases vm with h|h
    ·exact⟨0,eH,h⟩
    ·exact⟨1,eH,h⟩
   obtain⟨f,hf,h⟩:=this;exact h2.1 ((hE.ds c d x f hc hd Nt hf h).1▸hx1)
  refine⟨?_,by rw[e];simp only[List.length_cons,b];omega⟩;rw[e,bR,bR];refine⟨λhx=> ?_,mr 1 eH,a⟩;rcases bn.1 hx with h|h
  ·have:=(hE.ds c 0 c 1 hc eH hc eH h).2;omega
  ·exact mr 0 eH h
inductive XH:List (Nat×Nat)->AN->AN->Prop
 |nil (a:AN):XH [] a a
 |snoc {T:List (Nat×Nat)} {a b:AN} (i p:Nat):XH T a b->i<b.n->p<3->XH (T++ [(i,p)]) a (b.op i ((b.R i).jx p))
theorem XH.path {a b:AN} (h:XH T a b):jU a T [] b:=by
 induction h with
 |nil a=>exact jU.nil a
 |snoc i p _ hi hp ih=>have:=ih.snoc (mE.tick i p hi hp);simpa using this
theorem Ao {y:jc} (hF:j1 y)(k:Nat)(hk:k<y.n):∀j,j<=3->XH ((gJ j).map λp=>(k,p)) (jl y) (jl (y.jQ k ((y.R k).jB j)))
 |0,_=>by
  have e:y.jQ k ((y.R k).jB 0)=y:=by
   show y.jQ k (y.R k)=y;unfold jc.jQ;rw[uS]
  rw[e];exact XH.nil _
 |j+1,hj=>by
  have h1:=Ao hF k hk j eE;have hz:=hF.jQ k (mH.jB (y.R k) j);obtain⟨z,Qg⟩:=gH (y.jQ k ((y.R k).jB j));rw[Qg]at h1 hz;have hzk:z.R k=(y.R k).jB j:=by rw[<-Qg];exact iP _ _ _
  have e:y.jQ k ((y.R k).jB (j+1))=z.jQ k ((z.R k).jx j):=by
   rw[hzk,<-Qg];show({y with R:=_}:jc)={y with R:=jI (jI y.R k _) k _}
   congr 1
   funext x
   by_cases ex:x=k
   ·subst ex;rw[iP,iP];rfl
   ·rw[iL _ _ ex,iL _ _ ex,iL _ _ ex]
  have hr:(z.R k).jx j=((z.R k).core.jx j).pat (λp=>((z.R k).P p).rd) (λp=>((z.R k).P p).out) (z.R k).jA:=by
   rw[<-Pt,vy]
  rw[e,Tj hz.o k hr ((mH.jx (z.R k).core j).frN λ_=>rfl),cQ,dh];have VM:z.n=y.n:=by rw[<-Qg];rfl
  exact h1.snoc k j (by show k<z.n;omega) eE
def Uv(k:Nat):List (Nat×Nat):=[(k,0),(k,1),(k,2)]
theorem LL(hF:j1 y)(jb:j6 y D 0)(hD:D<=900000000)(k:Nat)(hk:k<y.n):XH (Uv k) (jl y) (jl (y.jQ k (y.R k).tick))/\Ends (y.jQ k (y.R k).tick)/\j1 (y.jQ k (y.R k).tick):=by
 have h:=Ao hF k hk 3 (Nat.le_refl _);have e:(y.R k).tick=(y.R k).jB 3:=by unfold iY.tick;rw[(jb.rn k hk).1]
 rw[<-e]at h;exact⟨h,(jb.jn eE hk).oQ,hF.jQ k (mH.jB _ _)⟩
theorem E9(hF:j1 y)(jb:j6 y D 0)(hD:D<=900000000)(k:Nat)(hk:k<y.n):jU (jl y) (Uv k) [] (jl (y.tick ((k:Int)+1)).1):=by
 obtain⟨h,e1,f1⟩:=LL hF jb hD k hk;unfold jc.tick;rw[ae eE];show jU _ _ _ (jl (y.jQ ((k:Int)+1-1).toNat (y.R ((k:Int)+1-1).toNat).tick).gather);rw[show((k:Int)+1-1).toNat=k by omega];exact h.path.lost (qg f1 e1).1
theorem ub(hF:j1 y)(jb:j6 y D 0)(hD:D<=900000000)(i d m:Int):jU (jl y) [] [] (jl (y.deliver i d m).1):=by
 unfold jc.deliver;split
 ·exact jU.nil _
 ·rename_i h
  have hc:i.toNat<y.nc:=eE;have hd:d.toNat<2:=eE;obtain⟨k,hk⟩:=gH (min m.toNat ((y.C i.toNat).on d.toNat).length);show jU _ _ _ (jl (y.j0 i.toNat d.toNat (min m.toNat ((y.C i.toNat).on d.toNat).length)).gather);rw[hk];have hE:=jb.oQ;obtain⟨l,rest,h1,_,h2⟩:=LC hF hE i.toNat d.toNat k hc hd;have hFc:(jl y).F i.toNat d.toNat=l++rest:=by
   show(if i.toNat<y.nc/\d.toNat<2 then tK y i.toNat d.toNat else [])=_;rw[ag ⟨hc,hd⟩,h1]
  have hp:=(adq l rest (jl y) i.toNat d.toNat (yq y) hc hd hFc).path;have:jU (jl y) [] [] (jl (y.j0 i.toNat d.toNat k)):=by rw[h2];exact hp
  exact this.lost (qg (hF.j0 hE _ _ _ hc hd) (jb.j0 eE hc hd).oQ).1
theorem PF(hF:j1 y)(hG:GN y)(jb:j6 y D 0)(i:Int)(up:Bool):∃T,PE T/\jU (jl y) T [] (jl (y.iW i up).1):=by
 unfold jc.iW;split
 ·exact⟨[],PE.nil,jU.nil _⟩
 ·split
  ·exact⟨[],PE.nil,jU.nil _⟩
  ·rename_i h pw
   have hc:i.toNat<y.nc:=eE;have hi:(y.C i.toNat).jG= !up:=by cases hv:(y.C i.toNat).jG<;>cases up<;>simp_all
   have hE:=jb.oQ;have hp:=(tZ up [i.toNat] hF hG hE iC (λc kS=>by simp only[iM]at kS;subst kS;exact⟨hc,hi⟩) (λc kS d hd=>by simp only[iM]at kS;subst kS;exact jb.Wf _ d hc hd)).1;have hn:=vC hE [i.toNat] iC (λc kS=>by simp only[iM]at kS;subst kS;exact hc);refine⟨_,?_,hp.lost (qg (hF.j5 hG hE _ _ hc hi) (hE.j5 _ _)).1⟩;split
   ·exact⟨hn.1,by rw[hn.2];simp⟩
   ·exact PE.nil
theorem Gz(hF:j1 y)(hG:GN y)(jb:j6 y D 0)(i:Int):∃T,PE T/\jU (jl y) T [] (jl (y.restart i).1):=by
 unfold jc.restart;split
 ·exact⟨[],PE.nil,jU.nil _⟩
 ·rename_i hi
  obtain⟨k,hk⟩:=gH ((i-1).toNat);have hik:i=(k:Int)+1:=eE;have FN:k<y.n:=eE;simp only;rw[hk];obtain⟨l,hl⟩:=gH (y.kT k);rw[hl];have sW:∀c,c∈l↔c<y.nc/\(y.C c).jG=true/\(((y.C c).e 0).1=k \/((y.C c).e 1).1=k):=λc=>by
   rw[<-hl];unfold jc.kT;simp[List.mem_filter]
  have hll:l.length<=9:=by rw[<-hl];exact Nat.le_trans (xx y k) jb.c9
  have C4:l.Nodup:=by
   rw[<-hl];unfold jc.kT;exact dD dt bS
  have wy:∀c∈l,c<y.nc/\(y.C c).jG= !false:=λc hc=>⟨((sW c).1 hc).1,((sW c).1 hc).2.1⟩
  have hE:=jb.oQ;obtain⟨a,b,d⟩:=GN.jS false l hG hE C4 wy;have f1:=j1.jS false l hF hG hE C4 wy;obtain⟨p1,o1⟩:=tZ false l hF hG hE C4 wy (λc hc d hd=>jb.Wf c d (wy c hc).1 hd);have o1:=o1 rfl jb.Wf;obtain⟨s1,s2,s3,s4,s5⟩:=mV false l y;have hpo:∀z:jc,(∀x,(z.C x).e=(y.C x).e)->mO z l=mO y l:=λz hz=>by unfold mO;congr 1;funext x;rw[hz]
  obtain⟨y1,yc⟩:=gH (y.jS false l);rw[yc]at a b d s1 s2 s3 s4 s5 f1 p1 o1⊢;have Ly:∀c e,c<y1.nc->e<2->((y1.C c).e e).1=k->(y1.C c).jG=false:=λc e hc he heq=>by
   have kS:c<y.nc:=by rw[s2]at hc;exact hc
   rw[d c];by_cases hm:c∈l
   ·rw[ag hm]
   ·rw[ae hm];by_cases pw:(y.C c).jG=true
    ·exfalso;rw[s5 c]at heq;refine hm ((sW c).2 ⟨kS,pw,?_⟩);have:e=0 \/e=1:=eE;rcases this with rfl|rfl
     ·exact .inl heq
     ·exact .inr heq
    ·simpa using pw
  have o1':∀c d,c<y1.nc->d<2->((y1.R ((y1.C c).e d).1).P ((y1.C c).e d).2).out=[] :=λc d hc hd=>by
   rw[s5 c];exact o1 c d (by rw[<-s2];exact hc) hd
  have f2:=f1.anew a k i (y.ms k) Ly;have a2:GN (y1.jQ k (jX i 3 (y.ms k))):=by
   refine a.jQ k _ (λc e hc he heq _=> ?_);rw[Ly c e hc he heq];have hI:=pY i (y.ms k) ((y1.C c).e e).2;exact⟨by simpa using hI.st,λe=>absurd (by rw[hI.pe];rfl) e⟩
  have b2:Ends (y1.jQ k (jX i 3 (y.ms k))):=⟨b.ds,b.p3,λj=>by
   show(jI y1.R k _ j).n=3 \/y1.n<=j;by_cases e:j=k
   ·rw[e,iP];exact .inl rfl
   ·rw[iL _ _ e];exact b.rn j,b.en⟩
  have DE:jU (jl y1) [] [] (jl (y1.jQ k (jX i 3 (y.ms k)))):=by
   have kD:=mE.anew (a:=jl y1) k (y1.jA k).length (by show k<y1.n;omega) (λc e hc he heq=>by
    have h1:=Ly c e hc he heq;exact⟨h1,Bn a hc h1 (λd hd=>o1' c d hc hd) eH,Bn a hc h1 (λd hd=>o1' c d hc hd) eH⟩)
   have heq:jl (y1.jQ k (jX i 3 (y.ms k)))={jl y1 with R:=jI (jl y1).R k (jX ((k:Int)+1) 3 ((jl y1).ms k)),ib:=jI (jl y1).ib k (((jl y1).ib k).take (y1.jA k).length)}:=by
    refine AN.ext' rfl rfl rfl rfl rfl (funext λj=> ?_) (funext λc=>funext λe=> ?_) (funext λj=> ?_)
    ·show(jI y1.R k _ j).core=jI _ k (jX ((k:Int)+1) 3 (y1.ms k)) j;by_cases ej:j=k
     ·rw[ej,iP,iP,hik,s3];rfl
     ·rw[iL _ _ ej,iL _ _ ej];rfl
    ·show(if c<y1.nc/\e<2 then tK (y1.jQ k (jX i 3 (y.ms k))) c e else [])=if c<y1.nc/\e<2 then tK y1 c e else []
     split
     ·rename_i DI
      obtain⟨hc,he⟩:=DI;have hP:∀p,(((y1.jQ k (jX i 3 (y.ms k))).R k).P p).out=[] :=λp=>by
       show((jI y1.R k _ k).P p).out=[]
       rw[iP];rfl
      have hO:jH (((y1.jQ k (jX i 3 (y.ms k))).R ((y1.C c).e e).1).P ((y1.C c).e e).2)=jH ((y1.R ((y1.C c).e e).1).P ((y1.C c).e e).2):=by
       by_cases ek:((y1.C c).e e).1=k
       ·rw[jM (o1' c e hc he),ek,jM (hP _)]
       ·show jH ((jI y1.R k _ _).P _)=_;rw[iL _ _ ek]
      unfold tK;show(kx (kQ (y1.jQ k (jX i 3 (y.ms k))) c e) ((y1.C c).on e)).1++jH (((y1.jQ k (jX i 3 (y.ms k))).R ((y1.C c).e e).1).P ((y1.C c).e e).2)=_;rw[hO];congr 1;by_cases ek:((y1.C c).e (1-e)).1=k
      ·have h1:=Ly c (1-e) hc eE ek;rw[a.off c e hc he h1];rfl
      ·have hR:kQ (y1.jQ k (jX i 3 (y.ms k))) c e=kQ y1 c e:=by
        show((jI y1.R k _ ((y1.C c).e (1-e)).1).P ((y1.C c).e (1-e)).2).rd=_;rw[iL _ _ ek];rfl
       rw[hR]
     ·rfl
    ·show y1.jA j++(jI y1.R k (jX i 3 (y.ms k)) j).jA=jI _ k ((y1.jA k++(y1.R k).jA).take (y1.jA k).length) j;by_cases ej:j=k
     ·rw[ej,iP,iP,List.take_left];show y1.jA k++ [] =_;rw[aM]
     ·rw[iL _ _ ej,iL _ _ ej];rfl
   rw[heq];exact jU.one kD
  obtain⟨y2,hy2⟩:=gH (y1.jQ k (jX i 3 (y.ms k)));have ZZ:y2.C=y1.C:=by rw[<-hy2];rfl
  have adG:y2.nc=y1.nc:=by rw[<-hy2];rfl
  rw[hy2]at f2 a2 b2 DE⊢;have FC:∀c∈l,c<y2.nc/\(y2.C c).jG= !true:=λc hc=>⟨by rw[adG,s2];exact((sW c).1 hc).1,by rw[ZZ,d c,ag hc];rfl⟩
  have jw:∀j p,((y2.R j).P p).out=[] \/((y2.R j).P p).out=((y1.R j).P p).out:=λj p=>by
   rw[<-hy2];show((jI y1.R k _ j).P p).out=[] \/((jI y1.R k _ j).P p).out=_;by_cases ej:j=k
   ·rw[ej,iP];exact .inl rfl
   ·rw[iL _ _ ej];exact .inr rfl
  have p2:=(tZ true l f2 a2 b2 C4 FC (λc hc d hd=>by
   rw[ZZ];rcases jw ((y1.C c).e d).1 ((y1.C c).e d).2 with h|h
   ·exact h
   ·rw[h];exact o1' c d (by rw[<-adG];exact(FC c hc).1) hd)).1
  have g2:=GN.jS true l a2 b2 C4 FC;have f3:=j1.jS true l f2 a2 b2 C4 FC;have oA:=((p1.trans DE).trans p2).lost (qg f3 g2.2.1).1;rw[hpo y2 (λx=>by rw[ZZ,s5 x])]at oA;have hn:=vC hE l C4 (λc hc=>((sW c).1 hc).1);exact⟨mO y l,⟨hn.1,by rw[hn.2];omega⟩,by simpa using oA⟩
def r7(n:Nat)(f t:Int)(tx:List UInt8):List (Int×List UInt8):=if(1<=f/\f<=(n:Int))/\(1<=t/\t<=6)/\tx.length<=20 then [(t,tx)]else []
theorem PG(hF:j1 y)(jb:j6 y D 0)(hD:D<=900000000)(f t:Int)(tx:List UInt8):jU (jl y) [] (r7 y.n f t tx) (jl (y.send f t tx).1):=by
 unfold jc.send;split
 ·unfold r7;rw[ae eE];exact jU.nil _
 ·rename_i h
  obtain⟨k,hk⟩:=gH ((f-1).toNat);have FN:k<y.n:=eE;rw[hk];by_cases hv:t<1 \/6<t \/20<tx.length
  ·have e:kg (y.R k) t tx=(y.R k,1):=by unfold kg;rw[ag hv]
   rw[e,ag iC];unfold r7;rw[ae eE];exact jU.nil _
  ·have e:kg (y.R k) t tx=((y.R k).send (t,8,tx),0):=by unfold kg;rw[ae hv]
   have hE:=(jb.SI eE FN t tx).oQ;rw[e]at hE;rw[e,ae iC];unfold r7;rw[ag eE];have kD:=mH.send (y.R k).core (t,8,tx);have hr:(y.R k).send (t,8,tx)=((y.R k).core.send (t,8,tx)).pat (λp=>((y.R k).P p).rd) (λp=>((y.R k).P p).out) (y.R k).jA:=by rw[<-Jp,vy]
   have h1:=Tj hF.o k hr (kD.frN λ_=>rfl);have h2:jU (jl y) [] [(t,tx)] (jl (y.jQ k ((y.R k).send (t,8,tx)))):=by
    rw[h1];exact jU.one (mE.send k t tx FN eE eE eE)
   exact h2.lost (qg (hF.jQ k (mH.send (y.R k) (t,8,tx))) hE).1
def GD(k:Nat):List (Nat×Nat):=(gJ k).flatMap Uv
theorem Fa(k:Nat):GD (k+1)=GD k++Uv k:=by simp[GD,iN]
theorem Bo:∀k,(GD k).Nodup/\(GD k).length=3*k/\∀x∈GD k,x.1<k
 |0=>⟨dv,rfl,λ_ h=>by simp[GD]at h⟩
 |k+1=>by
  obtain⟨a,b,c⟩:=Bo k;rw[Fa];refine⟨cG.2 ⟨a,by simp[Uv],λx hx z hz e=> ?_⟩,by simp[b,Uv];omega,λx hx=> ?_⟩
  ·have h1:=c x hx;subst e;simp only[Uv,iJ,iK,or_false]at hz;rcases hz with rfl|rfl|rfl<;>simp at h1
  ·rcases aD.1 hx with h|h
   ·have:=c x h;omega
   ·simp only[Uv,iJ,iK,or_false]at h;rcases h with rfl|rfl|rfl<;>simp
theorem De {y:jc} {D:Nat} (hF:j1 y)(jb:j6 y D 0)(hD:D<=800000000):∀q,q<=y.n->jU (jl y) (GD q) [] (jl (y.jB q))
 |0,_=>jU.nil _
 |q+1,hq=>by
  have n6:=jb.n6;have h1:=De hF jb hD q eE;have h2:=E9 (j1.jB hF q) (jb.jB hD q eE) eE q (by rw[(qb y q).1];omega);rw[Fa];exact h1.trans h2
theorem Ap {y:jc} {D:Nat} (hF:j1 y)(jb:j6 y D 0)(hD:D<=890000000):∀q,q<=9->jU (jl y) [] [] (jl (y.kF q))
 |0,_=>jU.nil _
 |q+1,hq=>by
  have h1:=Ap hF jb hD q eE;have f1:=j1.kF hF jb hD q eE;have k1:=jb.kF hD q eE;have h2:=ub f1 k1 eE (q:Int) 0 2000;have h3:=ub (f1.deliver k1 (q:Int) 0 2000) (k1.deliver eE (q:Int) 0 2000) eE (q:Int) 1 2000;exact(h1.trans h2).trans h3
theorem Df {y:jc} {D:Nat} (hF:j1 y)(jb:j6 y D 0)(hD:D<=810000000):∀t,t<=12->jU (jl y) [] [] (jl (y.turns t))
 |0,_=>jU.nil _
 |t+1,ht=>(Df hF jb hD t eE).trans (Ap (j1.turns hF jb hD t eE) (jb.turns hD t eE) eE y.nc jb.c9)
theorem rG(hF:j1 y)(jb:j6 y D 0)(hD:D<=800000000):jU (jl y) (GD y.n) [] (jl y.round):=by
 have n6:=jb.n6;have h:=(De hF jb hD y.n (Nat.le_refl _)).trans (Df (hF.jB y.n) (jb.jB hD y.n n6) eE 12 (Nat.le_refl _));rw[aM]at h;exact h
def zB(v:AV):Bool:=v.kind.toList==[115,101,110,100]
def D8(n:Nat)(v:AV):List (Int×List UInt8):=if zB v=true then r7 n v.a v.b v.s.data.toList else []
theorem GF {v:AV} (n:Nat) {l:List UInt8} (h:(v.kind.toList==l)=true)(hl:(l==[115,101,110,100])=false):D8 n v=[] :=by
 unfold D8 zB;rw[di]at h;rw[h,hl];rfl
theorem yr(hF:j1 y)(hG:GN y)(jb:j6 y D 0)(hD:D<=800000000)(v:AV):∃T,PE T/\jU (jl y) T (D8 y.n v) (jl (rF y v)):=by
 unfold rF;split
 ·rename_i h
  rw[GF y.n h eH];exact PF hF hG jb _ _
 ·split
  ·rename_i h
   rw[GF y.n h eH];by_cases hi:v.a<1 \/(y.n:Int)<v.a
   ·refine⟨[],PE.nil,?_⟩;unfold jc.tick;rw[ag hi];exact jU.nil _
   ·have:=E9 hF jb eE (v.a-1).toNat eE;rw[show(((v.a-1).toNat:Nat):Int)+1=v.a by omega]at this;exact⟨_,⟨by simp[Uv],by simp[Uv]⟩,this⟩
  ·split
   ·rename_i h
    rw[GF y.n h eH];exact⟨[],PE.nil,ub hF jb eE _ _ _⟩
   ·split
    ·rename_i h
     rw[GF y.n h eH];exact Gz hF hG jb _
    ·split
     ·rename_i h
      unfold D8;rw[ag (show zB v=true from h)];exact⟨[],PE.nil,PG hF jb eE _ _ _⟩
     ·rename_i h
      unfold D8;rw[ae (show¬zB v=true from h)];split
      ·obtain⟨a,b,_⟩:=Bo y.n;have:=jb.n6;exact⟨_,⟨a,by rw[b];omega⟩,rG hF jb hD⟩
      ·exact⟨[],PE.nil,jU.nil _⟩
def Tq(m:Nat):List (Nat×Nat):=(gJ m).flatMap λc=>[(c,0),(c,1)]
theorem qV {m:Nat} {x:Nat×Nat}:x∈Tq m↔x.1<m/\x.2<2:=by
 obtain⟨c,d⟩:=x;unfold Tq;simp only[List.mem_flatMap,List.mem_range,iJ,Prod.mk.injEq,iK,or_false];constructor
 ·rintro⟨b,h1,h2|h2⟩<;>omega
 ·rintro⟨h1,h2⟩;exact⟨c,h1,eE⟩
theorem zC:∀m,(Tq m).Nodup
 |0=>dv
 |m+1=>by
  have e:Tq (m+1)=Tq m++ [(m,0),(m,1)] :=by simp[Tq,iN]
  rw[e];refine cG.2 ⟨zC m,iC,λx hx z hz h=> ?_⟩;have h1:=(qV.1 hx).1;subst h;simp only[iJ,iK,or_false]at hz;rcases hz with rfl|rfl<;>simp at h1
def sm {α:Type} (f:α->Nat)(l:List α):Nat:=(l.map f).sum
theorem tq {α:Type} {f g:α->Nat}:∀ {l:List α},(∀x∈l,f x<=g x)->sm f l<=sm g l
 |[],_=>Nat.le_refl _
 |x::l,h=>by
  have:=tq (l:=l) λy hy=>h y (by simp[hy]);have h1:=h x iC;simp only[sm,eU,iO]at*;omega
theorem zD {α:Type} (f g:α->Nat):∀l:List α,sm (λx=>f x+g x) l=sm f l+sm g l
 |[] =>rfl
 |x::l=>by
  have:=zD f g l;simp only[sm,eU,iO]at*;omega
theorem tr(f:α->Nat)(l m:List α):sm f (l++m)=sm f l+sm f m:=by simp[sm]
theorem Dg {α:Type} [DecidableEq α] (y:α)(k:Nat):∀ {l:List α},l.Nodup->sm (λx=>if x=y then k else 0) l=if y∈l then k else 0
 |[],_=>rfl
 |x::l,h=>by
  have h2:=bR.1 h;have:=Dg y k h2.2;have e:sm (λx=>if x=y then k else 0) (x::l)=(if x=y then k else 0)+sm (λx=>if x=y then k else 0) l:=rfl;rw[e,this];by_cases hx:x=y
  ·subst hx;rw[ag rfl,ae h2.1,ag iC];rfl
  ·rw[ae hx];by_cases hy:y∈l
   ·rw[ag hy,ag (by simp[hy])];omega
   ·rw[ae hy,ae (by simp[hy,Ne.symm hx])]
theorem GG [DecidableEq α] {f g:α->Nat} {y:α} {l:List α} (hn:l.Nodup)(hy:y∈l)(h:∀x∈l,f x+(if x=y then k else 0)<=g x):sm f l+k<=sm g l:=by
 have h1:=tq h;rw[zD,Dg y k hn,ag hy]at h1;exact h1
theorem Wg [DecidableEq α] {f g:α->Nat} {y:α} {l:List α} (hn:l.Nodup)(h:∀x∈l,f x<=g x+(if x=y then k else 0)):sm f l<=sm g l+k:=by
 have h1:=tq h;rw[zD,Dg y k hn]at h1;split at h1<;>omega
structure ux(a:AN):Prop where
 n6:a.n<=6
 c9:a.nc<=9
 ds:∀c d c' d',c<a.nc->d<2->c'<a.nc->d'<2->a.e c d=a.e c' d'->c=c'/\d=d'
 en:∀c d,c<a.nc->d<2->(a.e c d).1<a.n/\(a.e c d).2<3
theorem ux.same {a b:AN} (h:ux a)(h1:b.n=a.n)(h2:b.nc=a.nc)(h3:b.e=a.e):ux b:=
 ⟨by rw[h1];exact h.n6,by rw[h2];exact h.c9,by rw[h2,h3];exact h.ds,by rw[h1,h2,h3];exact h.en⟩
theorem j6.Tr(h:j6 y D k):ux (jl y):=⟨h.n6,h.c9,h.ds,h.en⟩
theorem Fb(e:Nat×Nat->Nat×Nat)(i:Nat)(h:Nat->Nat):∀l:List (Nat×Nat),l.Nodup->(∀x∈l,(e x).2<3)->(∀x∈l,∀y∈l,e x=e y->x=y)->sm (λx=>if(e x).1=i then h (e x).2 else 0) l<=sm (λp=>if(i,p)∈l.map e then h p else 0) [0,1,2]
 |[],_,_,_=>Nat.zero_le _
 |x::l,hn,hp,hi=>by
  have h2:=bR.1 hn;have ih:=Fb e i h l h2.2 (λy hy=>hp y (by simp[hy])) (λy hy z hz=>hi y (by simp[hy]) z (by simp[hz]));have e1:sm (λx=>if(e x).1=i then h (e x).2 else 0) (x::l)=(if(e x).1=i then h (e x).2 else 0)+sm (λx=>if(e x).1=i then h (e x).2 else 0) l:=rfl;rw[e1];by_cases hx:(e x).1=i
  ·rw[ag hx];have mr:(i,(e x).2)∉l.map e:=λhm=>by
    obtain⟨y,hy,hye⟩:=bI.1 hm;have:=hi x iC y (by simp[hy]) (by rw[hye,<-hx]);exact h2.1 (this▸hy)
   have h3:sm (λp=>if(i,p)∈l.map e then h p else 0) [0,1,2] +h (e x).2<=sm (λp=>if(i,p)∈(x::l).map e then h p else 0) [0,1,2] :=by
    refine GG (y:=(e x).2) eH ?_ λp _=> ?_
    ·have:=hp x iC;simp only[iJ,iK,or_false];omega
    ·by_cases vK:p=(e x).2
     ·subst vK;rw[ae mr,ag rfl,ag (by simp[<-hx])];omega
     ·rw[ae vK];by_cases hm:(i,p)∈l.map e
      ·rw[ag hm,ag (by simp only[eU,iJ];exact .inr hm)];omega
      ·rw[ae hm];omega
   omega
  ·rw[ae hx,Nat.zero_add];refine Nat.le_trans ih (tq λp _=> ?_);by_cases hm:(i,p)∈l.map e
   ·rw[ag hm,ag (by simp only[eU,iJ];exact .inr hm)];exact Nat.le_refl _
   ·rw[ae hm];exact Nat.zero_le _
def AN.W(a:AN)(w:mQ->Nat):Nat:=sm (λx:Nat×Nat=>sm w (a.F x.1 x.2)) (Tq a.nc)
theorem Ts {a b:AN} (h:xA a b)(w:mQ->Nat):b.W w<=a.W w:=by
 have e:b.nc=a.nc:=by rw[h.1]
 unfold AN.W;rw[e];refine tq λx _=> ?_;obtain⟨m,hm⟩:=h.2 x.1 x.2;show sm w (b.F x.1 x.2)<=sm w (a.F x.1 x.2);rw[hm];have:=tr w ((a.F x.1 x.2).take m) ((a.F x.1 x.2).drop m);rw[bX]at this;omega
theorem adH {a:AN} (hB:ux a)(i:Nat)(s:iY)(w:mQ->Nat):(a.op i s).W w<=a.W w+(sm w (jH (s.P 0))+sm w (jH (s.P 1))+sm w (jH (s.P 2))):=by
 have h1:∀x∈Tq a.nc,sm w ((a.op i s).F x.1 x.2)=sm w (a.F x.1 x.2)+(if(a.e x.1 x.2).1=i then sm w (jH (s.P (a.e x.1 x.2).2))else 0):=λx hx=>by
  have hm:=qV.1 hx;rw[zy];by_cases e:(a.e x.1 x.2).1=i
  ·rw[ag ⟨hm,e⟩,ag e,tr]
  ·rw[ae (λh=>e h.2),ae e];rfl
 unfold AN.W;refine Nat.le_trans (tq (g:=λx:Nat×Nat=>sm w (a.F x.1 x.2)+(if(a.e x.1 x.2).1=i then sm w (jH (s.P (a.e x.1 x.2).2))else 0)) λx hx=>Nat.le_of_eq (h1 x hx)) ?_;rw[zD];refine Nat.add_le_add_left ?_ _;refine Nat.le_trans (Fb (λx=>a.e x.1 x.2) i (λp=>sm w (jH (s.P p))) (Tq a.nc) (zC _) (λx hx=>(hB.en _ _ (qV.1 hx).1 (qV.1 hx).2).2) (λx hx z hz h=> ?_)) ?_
 ·have:=hB.ds _ _ _ _ (qV.1 hx).1 (qV.1 hx).2 (qV.1 hz).1 (qV.1 hz).2 h;exact bu this.1 this.2
 ·refine Nat.le_trans (tq (g:=λp=>sm w (jH (s.P p))) λp _=> ?_) ?_
  ·show(if _ then _ else 0)<=_;split
   ·exact Nat.le_refl _
   ·exact Nat.zero_le _
  ·show sm w (jH (s.P 0))+(sm w (jH (s.P 1))+(sm w (jH (s.P 2))+0))<=_;omega
theorem XI {a:AN} (w:mQ->Nat) {x:mQ} {l:List mQ} (hc:c<a.nc)(hd:d<2)(h:a.F c d=x::l):(a.lg c d l).W w+w x<=a.W w:=by
 unfold AN.W;refine GG (y:=(c,d)) (zC _) (qV.2 ⟨hc,hd⟩) λy _=> ?_;show sm w (if y.1=c/\y.2=d then l else a.F y.1 y.2)+(if y=(c,d)then w x else 0)<=sm w (a.F y.1 y.2);by_cases e:y.1=c/\y.2=d
 ·rw[ag e,ag (bu e.1 e.2),e.1,e.2,h];show sm w l+w x<=w x+sm w l;omega
 ·rw[ae e,ae (λh=>e (by rw[h];exact⟨rfl,rfl⟩))];exact Nat.le_refl _
theorem vV(a:AN)(w:mQ->Nat)(c d:Nat):(a.lg c d []).W w<=a.W w:=by
 unfold AN.W;refine tq λy _=> ?_;show sm w (if y.1=c/\y.2=d then []else a.F y.1 y.2)<=sm w (a.F y.1 y.2);split
 ·exact Nat.zero_le _
 ·exact Nat.le_refl _
def mw(k:Nat)(tx:List UInt8)(x:mQ):Nat:=if Tg k tx x=true then 1 else 0
theorem Dh(k:Nat)(tx:List UInt8):∀l:List mQ,sm (mw k tx) l=cP k tx l
 |[] =>rfl
 |x::l=>by
  have:=Dh k tx l;unfold cP at*;rw[List.countP_cons];show mw k tx x+sm (mw k tx) l=_;rw[this];unfold mw;omega
def AN.mu(a:AN)(k:Nat)(tx:List UInt8):Nat:=a.W (mw k tx)+sm (λi=>cI k tx (a.ib i)) (gJ a.n)
def cS(k:Nat)(tx:List UInt8)(S:List (Int×List UInt8)):Nat:=S.countP λs=>s.1==(k:Int)&&s.2==tx
theorem vW(k:Nat)(tx:List UInt8)(l m:List tV):cI k tx (l++m)=cI k tx l+cI k tx m:=by unfold cI;rw[cT]
theorem M9 {a:AN} (hB:ux a)(i:Nat)(s:iY)(k:Nat)(tx:List UInt8):(a.op i s).mu k tx<=a.mu k tx+vU k tx s:=by
 have h1:=adH hB i s (mw k tx);have h2:sm (λj=>cI k tx ((a.op i s).ib j)) (gJ a.n)<=sm (λj=>cI k tx (a.ib j)) (gJ a.n)+cI k tx s.jA:=by
  refine Wg (y:=i) bS λj _=> ?_;show cI k tx (jI a.ib i (a.ib i++s.jA) j)<=_;by_cases e:j=i
  ·subst e;rw[iP,ag rfl,vW];exact Nat.le_refl _
  ·rw[iL _ _ e];omega
 rw[Dh,Dh,Dh]at h1;unfold AN.mu;have h3:vU k tx s=cP k tx (jH (s.P 0))+cP k tx (jH (s.P 1))+cP k tx (jH (s.P 2))+cI k tx s.jA:=rfl;have h4:(a.op i s).n=a.n:=rfl;rw[h4];omega
theorem yt {a:AN} (h:Norm a)(i k:Nat)(tx:List UInt8):vU k tx (a.R i)=0/\D7 (a.R i):=by
 refine⟨?_,λp=>⟨[],by rw[h.out];exact Frames.nil⟩⟩;have h0:∀p,pc k tx ((a.R i).P p)=0:=λp=>by unfold pc;rw[jM (h.out i p)];rfl
 unfold vU;rw[h0,h0,h0,h.jA];rfl
theorem Jz {a:AN} (hB:ux a)(hN:Norm a)(c d:Nat)(up:Bool)(k:Nat)(tx:List UInt8):(a.lH c d up).mu k tx<=a.mu k tx:=by
 obtain⟨h1,h2⟩:=yt hN (a.e c d).1 k tx;have h3:=Tn (k:=k) (tx:=tx) h2 (a.e c d).2 up;have h4:=M9 hB (a.e c d).1 (((a.R (a.e c d).1).iW (a.e c d).2 up).1) k tx;unfold AN.lH;omega
theorem Na {a:AN} (hB:ux a)(hN:Norm a)(c:Nat)(up:Bool)(k:Nat)(tx:List UInt8):(a.iW c up).mu k tx<=a.mu k tx:=by
 obtain⟨b,hb⟩:=gH ((({a with jG:=jI a.jG c up}:AN).lg c 0 []).lg c 1 []);have J0:ux b:=hB.same (by rw[<-hb];rfl) (by rw[<-hb];rfl) (by rw[<-hb];rfl);have PH:Norm b:=by rw[<-hb];exact hN
 have h0:b.mu k tx<=a.mu k tx:=by
  have w1:=vV {a with jG:=jI a.jG c up} (mw k tx) c 0;have w2:=vV (({a with jG:=jI a.jG c up}:AN).lg c 0 []) (mw k tx) c 1;rw[hb]at w2;have e1:({a with jG:=jI a.jG c up}:AN).W (mw k tx)=a.W (mw k tx):=rfl;have e2:sm (λi=>cI k tx (b.ib i)) (gJ b.n)=sm (λi=>cI k tx (a.ib i)) (gJ a.n):=by rw[<-hb];rfl
  unfold AN.mu;omega
 unfold AN.iW;rw[hb];exact Nat.le_trans (Jz (a:=b.lH c 0 up) (J0.same rfl rfl rfl) (pI PH _ _) c 1 up k tx) (Nat.le_trans (Jz J0 PH c 0 up k tx) h0)
theorem Fc {a:AN} (h:Norm a)(c:Nat)(up:Bool):Norm (a.iW c up):=by
 unfold AN.iW AN.lH;exact pI (pI (a:=(({a with jG:=jI a.jG c up}:AN).lg c 0 []).lg c 1 []) h _ _) _ _
theorem mE.norm {a b:AN} (h:mE a T S b)(hN:Norm a):Norm b:=by
 cases h with
 |lost h=>rw[h.1];exact hN
 |tick i p _ _=>exact pI hN _ _
 |pop c d x l _ _ _=>exact pI (a:=a.lg c d l) hN _ _
 |send i t tx _ _ _ _=>exact pI hN _ _
 |iW c _ _ _ _=>exact Fc hN c true
 |draw c _ _=>exact Fc hN c false
 |anew i m _ _=>
  intro j;show(jI a.R i _ j).core=jI a.R i _ j;by_cases e:j=i
  ·subst e;rw[iP];rfl
  ·rw[iL _ _ e];exact hN j
theorem mE.mu {a b:AN} {T:List (Nat×Nat)} {S:List (Int×List UInt8)} (h:mE a T S b)(hB:ux a)(hN:Norm a)(k:Nat)(tx:List UInt8):b.mu k tx<=a.mu k tx+cS k tx S:=by
 cases h with
 |lost h=>
  have h1:=Ts h (mw k tx);have e1:sm (λi=>cI k tx (b.ib i)) (gJ b.n)=sm (λi=>cI k tx (a.ib i)) (gJ a.n):=by rw[h.1]
  unfold AN.mu;omega
 |tick i p _ _=>
  obtain⟨h1,h2⟩:=yt hN i k tx;have:=PA (k:=k) (tx:=tx) h2 p;have:=M9 hB i ((a.R i).jx p) k tx;omega
 |pop c d x l hc hd hF=>
  obtain⟨h1,h2⟩:=yt hN (a.e c (1-d)).1 k tx;have h3:=E8 (k:=k) (tx:=tx) [x] h2 (a.e c (1-d)).2;have e3:(a.R (a.e c (1-d)).1).takes (a.e c (1-d)).2 [x] =j7 (a.R (a.e c (1-d)).1) (a.e c (1-d)).2 x:=by cases x<;>rfl
  rw[e3,<-Dh]at h3;have h4:=M9 (a:=a.lg c d l) (hB.same rfl rfl rfl) (a.e c (1-d)).1 (j7 (a.R (a.e c (1-d)).1) (a.e c (1-d)).2 x) k tx;have h5:=XI (mw k tx) hc hd hF;have e5:sm (mw k tx) [x] =mw k tx x:=by simp[sm]
  have e6:(a.lg c d l).mu k tx=(a.lg c d l).W (mw k tx)+sm (λi=>cI k tx (a.ib i)) (gJ a.n):=rfl;unfold AN.pop;have e7:a.mu k tx=a.W (mw k tx)+sm (λi=>cI k tx (a.ib i)) (gJ a.n):=rfl;omega
 |send i t LM _ ht1 ht6 hl=>
  obtain⟨h1,h2⟩:=yt hN i k tx;have h3:=Jw (k:=k) (tx:=tx) h2 (t,8,LM) (by show 0<=t;omega) (by show t<=255;omega);have h4:=M9 hB i ((a.R i).send (t,8,LM)) k tx;have e:cS k tx [(t,LM)] =if Ut k tx (t,8,LM)=true then 1 else 0:=by
   unfold cS Ut;rw[bY]
  omega
 |iW c _ _ _ _=>exact Nat.le_trans (Na hB hN c true k tx) (Nat.le_add_right _ _)
 |draw c _ _=>exact Nat.le_trans (Na hB hN c false k tx) (Nat.le_add_right _ _)
 |anew i m _ _=>
  have h1:sm (λj=>cI k tx (jI a.ib i ((a.ib i).take m) j)) (gJ a.n)<=sm (λj=>cI k tx (a.ib j)) (gJ a.n):=tq λj _=>by
   show cI k tx (jI a.ib i _ j)<=_;by_cases e:j=i
   ·subst e;rw[iP];have:=vW k tx ((a.ib j).take m) ((a.ib j).drop m);rw[bX]at this;omega
   ·rw[iL _ _ e];exact Nat.le_refl _
  show a.W (mw k tx)+sm (λj=>cI k tx (jI a.ib i ((a.ib i).take m) j)) (gJ a.n)<=_;unfold AN.mu;omega
theorem Fe(k:Nat)(tx:List UInt8)(S V:List (Int×List UInt8)):cS k tx (S++V)=cS k tx S+cS k tx V:=by unfold cS;rw[cT]
theorem jU.Tr {a b:AN} (h:jU a T S b)(hB:ux a):ux b:=hB.same h.same.1 h.same.2.1 h.same.2.2.1
theorem jU.norm {a b:AN} {T:List (Nat×Nat)} {S:List (Int×List UInt8)} (h:jU a T S b)(hN:Norm a):Norm b:=by
 induction h with
 |nil=>exact hN
 |snoc _ s ih=>exact s.norm ih
theorem jU.mu {a b:AN} {T:List (Nat×Nat)} {S:List (Int×List UInt8)} (h:jU a T S b)(hB:ux a)(hN:Norm a)(k:Nat)(tx:List UInt8):b.mu k tx<=a.mu k tx+cS k tx S:=by
 induction h with
 |nil=>exact Nat.le_add_right _ _
 |snoc p s ih=>
  have h1:=s.mu (p.Tr hB) (p.norm hN) k tx;have h2:=ih;rw[Fe];omega
theorem adI(a:AN) {i:Nat} (hi:i<a.n)(k:Nat)(tx:List UInt8):cI k tx (a.ib i)<=a.mu k tx:=by
 have h1:0+cI k tx (a.ib i)<=sm (λj=>cI k tx (a.ib j)) (gJ a.n):=by
  have:=GG (f:=λ_:Nat=>0) (g:=λj=>cI k tx (a.ib j)) (y:=i) (k:=cI k tx (a.ib i)) bS (a7.2 hi) λx _=>by
   show 0+(if x=i then _ else 0)<=cI k tx (a.ib x);by_cases e:x=i
   ·subst e;rw[ag rfl];omega
   ·rw[ae e];omega
  have e0:sm (λ_:Nat=>0) (gJ a.n)=0:=by
   generalize gJ a.n=l
   induction l with
   |nil=>rfl
   |cons x l ih=>simpa[sm]using ih
  omega
 unfold AN.mu;omega
end Rt
end Go.Proofs.YtieklnlbljejdaaGreatDoor
