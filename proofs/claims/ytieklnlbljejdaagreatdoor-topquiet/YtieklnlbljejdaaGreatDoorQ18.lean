import Derived.Test.YtieklnlbljejdaaGreatDoorQ17
open Go.Value renaming int → ι, slice → σ, pointer → π, tuple → τ, nilIface → η
open Go.IntKind renaming i64 → κ
open Go.Ending renaming returned → ρ
open Go.Obj renaming cells → γ
open Option renaming none → ν, some → μ
open List renaming range → fR, mem_cons → gW, not_mem_nil → gX, map_cons → eE, sum_cons → gZ, length_cons → eM
open Go renaming World → dR, Calls → eT
open Go.Proofs.Tryz renaming prog → eU, results43 → ic
open Go.RowKit renaming intOf → eV
open Go.Instr renaming makeSlice → gQ
open Go.Value renaming bool → ia
set_option maxRecDepth 100000
set_option maxHeartbeats 8000000
namespace Go.Proofs.YtieklnlbljejdaaGreatDoor
open Go.RowKit St
namespace Rt
variable {B C N c d g i k m:Nat} {L:List oR} {S:List (Int×List UInt8)} {T:List (Nat×Nat)} {V:Nat->AV} {W' w w' w0:World} {X:Nat->Prop} {e:Ending} {l:List kM} {many:Int} {p:jl} {r s:iE} {x:kM} {α:Type}
def QD(m:Nat):List (Nat×Nat):=(fR m).flatMap λc=>[(c,0),(c,1)]
theorem pJ {x:Nat×Nat}:x∈QD m↔x.1<m/\x.2<2:=by
 obtain⟨c,d⟩:=x;unfold QD;simp only[List.mem_flatMap,List.mem_range,gW,Prod.mk.injEq,gX,or_false];constructor
 ·rintro⟨b,Y,Z|Z⟩<;>omega
 ·rintro⟨Y,Z⟩;exact⟨c,Y,dU⟩
theorem wI:∀m,(QD m).Nodup
 |0=>cY
 |m+1=>by
  have e:QD (m+1)=QD m++ [(m,0),(m,1)] :=by simp[QD,List.range_succ]
  rw[e];refine bE.2 ⟨wI m,gO,λx hx z Z h=> ?_⟩;have Y:=(pJ.1 hx).1;subst h;simp only[gW,gX,or_false]at Z;rcases Z with rfl|rfl<;>simp at Y
def sm {α:Type} (f:α->Nat)(l:List α):Nat:=(l.map f).sum
theorem uL {α:Type} {f g:α->Nat}:∀ {l:List α},(∀x∈l,f x<=g x)->sm f l<=sm g l
 |[],_=>Nat.le_refl _
 |x::l,h=>by
  have:=uL (l:=l) λy hy=>h y (by simp[hy]);have h1:=h x gO;simp only[sm,eE,gZ]at*;omega
theorem Ej {α:Type} (f g:α->Nat):∀l:List α,sm (λx=>f x+g x) l=sm f l+sm g l
 |[] =>rfl
 |x::l=>by
  have:=Ej f g l;simp only[sm,eE,gZ]at*;omega
theorem pz(f:α->Nat)(l m:List α):sm f (l++m)=sm f l+sm f m:=by simp[sm]
theorem H8 {α:Type} [DecidableEq α] (y:α)(k:Nat):∀ {l:List α},l.Nodup->sm (λx=>if x=y then k else 0) l=if y∈l then k else 0
 |[],_=>rfl
 |x::l,h=>by
  have Z:=bP.1 h;have:=H8 y k Z.2;have e:sm (λx=>if x=y then k else 0) (x::l)=(if x=y then k else 0)+sm (λx=>if x=y then k else 0) l:=rfl;rw[e,this];by_cases hx:x=y
  ·subst hx;rw[ag rfl,ae Z.1,ag gO];rfl
  ·rw[ae hx];by_cases hy:y∈l
   ·rw[ag hy,ag (by simp[hy])];omega
   ·rw[ae hy,ae (by simp[hy,Ne.symm hx])]
theorem zj [DecidableEq α] {f g:α->Nat} {y:α} {l:List α} (Y:l.Nodup)(hy:y∈l)(h:∀x∈l,f x+(if x=y then k else 0)<=g x):sm f l+k<=sm g l:=by
 have Z:=uL h;rw[Ej,H8 y k Y,ag hy]at Z;exact Z
structure sX(a:AN):Prop where
 n6:a.n<=6
 c9:a.nc<=9
 ds:∀c d c' d',c<a.nc->d<2->c'<a.nc->d'<2->a.e c d=a.e c' d'->c=c'/\d=d'
 en:∀c d,c<a.nc->d<2->(a.e c d).1<a.n/\(a.e c d).2<3
theorem sX.same {a b:AN} (h:sX a)(Y:b.n=a.n)(Z:b.nc=a.nc)(U:b.e=a.e):sX b:=
 ⟨by rw[Y];exact h.n6,by rw[Z];exact h.c9,by rw[Z,U];exact h.ds,by rw[Y,Z,U];exact h.en⟩
theorem jT.qw {y:iI} {D:Nat} (h:jT y D k):sX (iz y):=⟨h.n6,h.c9,h.ds,h.en⟩
theorem Gq(e:Nat×Nat->Nat×Nat)(i:Nat)(h:Nat->Nat):∀l:List (Nat×Nat),l.Nodup->(∀x∈l,(e x).2<3)->(∀x∈l,∀y∈l,e x=e y->x=y)->sm (λx=>if(e x).1=i then h (e x).2 else 0) l<=sm (λp=>if(i,p)∈l.map e then h p else 0) [0,1,2]
 |[],_,_,_=>Nat.zero_le _
 |x::l,hn,hp,hi=>by
  have U:=bP.1 hn;have ih:=Gq e i h l U.2 (λy hy=>hp y (by simp[hy])) (λy hy z H=>hi y (by simp[hy]) z (by simp[H]));have M:sm (λx=>if(e x).1=i then h (e x).2 else 0) (x::l)=(if(e x).1=i then h (e x).2 else 0)+sm (λx=>if(e x).1=i then h (e x).2 else 0) l:=rfl;rw[M];by_cases hx:(e x).1=i
  ·rw[ag hx];have J:(i,(e x).2)∉l.map e:=λZ=>by
    obtain⟨y,hy,Y⟩:=bH.1 Z;have:=hi x gO y (by simp[hy]) (by rw[Y,<-hx]);exact U.1 (this▸hy)
   have h3:sm (λp=>if(i,p)∈l.map e then h p else 0) [0,1,2] +h (e x).2<=sm (λp=>if(i,p)∈(x::l).map e then h p else 0) [0,1,2] :=by
    refine zj (y:=(e x).2) dX ?_ λp _=> ?_
    ·have:=hp x gO;simp only[gW,gX,or_false];omega
    ·by_cases Q:p=(e x).2
     ·subst Q;rw[ae J,ag rfl,ag (by simp[<-hx])];omega
     ·rw[ae Q];by_cases Z:(i,p)∈l.map e
      ·rw[ag Z,ag (by simp only[eE,gW];exact .inr Z)];omega
      ·rw[ae Z];omega
   omega
  ·rw[ae hx,Nat.zero_add];refine Nat.le_trans ih (uL λp _=> ?_);by_cases Z:(i,p)∈l.map e
   ·rw[ag Z,ag (by simp only[eE,gW];exact .inr Z)];exact Nat.le_refl _
   ·rw[ae Z];exact Nat.zero_le _
def AN.W(a:AN)(w:kM->Nat):Nat:=sm (λx:Nat×Nat=>sm w (a.F x.1 x.2)) (QD a.nc)
theorem abb {a b:AN} (h:vY a b)(w:kM->Nat):b.W w<=a.W w:=by
 have e:b.nc=a.nc:=by rw[h.1]
 unfold AN.W;rw[e];refine uL λx _=> ?_;obtain⟨m,Z⟩:=h.2 x.1 x.2;show sm w (b.F x.1 x.2)<=sm w (a.F x.1 x.2);rw[Z];have:=pz w ((a.F x.1 x.2).take m) ((a.F x.1 x.2).drop m);rw[cB]at this;omega
theorem abd {a:AN} (Y:sX a)(i:Nat)(s:iE)(w:kM->Nat):(a.op i s).W w<=a.W w+(sm w (je (s.P 0))+sm w (je (s.P 1))+sm w (je (s.P 2))):=by
 have U:∀x∈QD a.nc,sm w ((a.op i s).F x.1 x.2)=sm w (a.F x.1 x.2)+(if(a.e x.1 x.2).1=i then sm w (je (s.P (a.e x.1 x.2).2))else 0):=λx hx=>by
  have Q:=pJ.1 hx;rw[uR];by_cases e:(a.e x.1 x.2).1=i
  ·rw[ag ⟨Q,e⟩,ag e,pz]
  ·rw[ae (λh=>e h.2),ae e];rfl
 unfold AN.W;refine Nat.le_trans (uL (g:=λx:Nat×Nat=>sm w (a.F x.1 x.2)+(if(a.e x.1 x.2).1=i then sm w (je (s.P (a.e x.1 x.2).2))else 0)) λx hx=>Nat.le_of_eq (U x hx)) ?_;rw[Ej];refine Nat.add_le_add_left ?_ _;refine Nat.le_trans (Gq (λx=>a.e x.1 x.2) i (λp=>sm w (je (s.P p))) (QD a.nc) (wI _) (λx hx=>(Y.en _ _ (pJ.1 hx).1 (pJ.1 hx).2).2) (λx hx z Z h=> ?_)) ?_
 ·have:=Y.ds _ _ _ _ (pJ.1 hx).1 (pJ.1 hx).2 (pJ.1 Z).1 (pJ.1 Z).2 h;exact aR this.1 this.2
 ·refine Nat.le_trans (uL (g:=λp=>sm w (je (s.P p))) λp _=> ?_) ?_
  ·show(if _ then _ else 0)<=_;split
   ·exact Nat.le_refl _
   ·exact Nat.zero_le _
  ·show sm w (je (s.P 0))+(sm w (je (s.P 1))+(sm w (je (s.P 2))+0))<=_;omega
theorem YG {a:AN} (w:kM->Nat)(hc:c<a.nc)(hd:d<2)(h:a.F c d=x::l):(a.kZ c d l).W w+w x<=a.W w:=by
 unfold AN.W;refine zj (y:=(c,d)) (wI _) (pJ.2 ⟨hc,hd⟩) λy _=> ?_;show sm w (if y.1=c/\y.2=d then l else a.F y.1 y.2)+(if y=(c,d)then w x else 0)<=sm w (a.F y.1 y.2);by_cases e:y.1=c/\y.2=d
 ·rw[ag e,ag (aR e.1 e.2),e.1,e.2,h];show sm w l+w x<=w x+sm w l;omega
 ·rw[ae e,ae (λh=>e (by rw[h];exact⟨rfl,rfl⟩))];exact Nat.le_refl _
theorem Cy(a:AN)(w:kM->Nat)(c d:Nat):(a.kZ c d []).W w<=a.W w:=by
 unfold AN.W;refine uL λy _=> ?_;show sm w (if y.1=c/\y.2=d then []else a.F y.1 y.2)<=sm w (a.F y.1 y.2);split
 ·exact Nat.zero_le _
 ·exact Nat.le_refl _
theorem Gr {a:AN} (h:Norm a)(c:Nat)(up:Bool):Norm (a.iD c up):=by
 unfold AN.iD AN.mY;exact qv (qv (a:=(({a with iR:=jK a.iR c up}:AN).kZ c 0 []).kZ c 1 []) h _ _) _ _
theorem mc.norm {a b:AN} (h:mc a T S b)(Z:Norm a):Norm b:=by
 cases h with
 |lost h=>rw[h.1];exact Z
 |tick i p _ _=>exact qv Z _ _
 |pop c d x l _ _ _=>exact qv (a:=a.kZ c d l) Z _ _
 |send i t tx _ _ _ _=>exact qv Z _ _
 |iD c _ _ _ _=>exact Gr Z c true
 |draw c _ _=>exact Gr Z c false
 |anew i m _ _=>
  intro j;show(jK a.R i _ j).core=jK a.R i _ j;by_cases e:j=i
  ·subst e;rw[iu];rfl
  ·rw[iq _ _ e];exact Z j
theorem jL.qw {a b:AN} (h:jL a T S b)(Z:sX a):sX b:=Z.same h.same.1 h.same.2.1 h.same.2.2.1
theorem jL.norm {a b:AN} {T:List (Nat×Nat)} {S:List (Int×List UInt8)} (h:jL a T S b)(Z:Norm a):Norm b:=by
 induction h with
 |nil=>exact Z
 |snoc _ s ih=>exact s.norm ih
def IE(r:iE):Prop:=∀p,(r.P p).out=[]
theorem Norm.emp {a:AN} (h:Norm a)(i:Nat):IE (a.R i):=h.out i
def Fr(p:jl):Prop:=∃ps,Frames p.out ps
theorem IE.fr(h:IE r)(p:Nat):Fr (r.P p):=⟨[],by rw[h];exact Frames.nil⟩
theorem Fr.put {p:jl} (h:Fr p)(c:UInt8)(s:List UInt8):Fr (p.put c s):=(ry.put p c s).fr h
theorem mZ {q:jl} (h:q.out=p.out):je q=je p:=by unfold je;rw[h]
theorem tQ(h:Fr p)(c:UInt8)(s:List UInt8):je (p.put c s)=je p++(if(c≠76/\p.L.st≠9) \/60<s.length+1 then []else [c::s]):=by
 obtain⟨ps,Z⟩:=h;unfold jl.put;split
 ·rename_i g;rw[ag (.inl g)];simp
 ·rename_i g
  split
  ·rename_i hl
   rw[ae (λz=>z.elim g dU)];have Y:Frames ({p with out:=p.out++Plain.kF (c::s)}:jl).out (ps++ [c::s]):=Z.snoc ⟨gO,by simpa using hl⟩;rw[mF Y,mF Z]
  ·rw[ag (.inr dU)];simp
def nR(q:kG):List kM:=if jJ q.1 q.2.1 q.2.2=0/\(lR q.1 q.2.1 q.2.2).length+1<=60 then [76::lR q.1 q.2.1 q.2.2]else []
theorem wh:∀(l:List kG) {p:jl},Fr p->je (p.say l)=je p++l.flatMap nR/\Fr (p.say l)
 |[],p,h=>⟨by simp[jl.say],h⟩
 |q::r,p,h=>by
  show je ((if jJ q.1 q.2.1 q.2.2=0 then p.put 76 (lR q.1 q.2.1 q.2.2)else p).say r)=_/\Fr ((if jJ q.1 q.2.1 q.2.2=0 then p.put 76 (lR q.1 q.2.1 q.2.2)else p).say r);rw[bT];unfold nR;split
  ·rename_i g
   obtain⟨a,b⟩:=wh r (h.put 76 (lR q.1 q.2.1 q.2.2));refine⟨?_,b⟩;rw[a,tQ h,aD];congr 2;by_cases hl:(lR q.1 q.2.1 q.2.2).length+1<=60
   ·rw[ae (by simp;omega),ag ⟨g,hl⟩]
   ·rw[ag (.inr dU),ae (λz=>hl z.2)]
  ·rename_i g
   obtain⟨a,b⟩:=wh r h;exact⟨by rw[a,ae (λz=>g z.1)];rfl,b⟩
def Cz(q:Int×PS):List kM:=if(qC q.1 q.2.1 q.2.2).length+1<=60 then [83::qC q.1 q.2.1 q.2.2]else []
theorem Bp:∀(l:List (Int×PS)) {p:jl},Fr p->p.L.st=9->je (p.kh l)=je p++l.flatMap Cz
 |[],p,h,_=>by simp[jl.kh]
 |q::r,p,h,h9=>by
  show je ((p.put 83 (qC q.1 q.2.1 q.2.2)).kh r)=_;rw[Bp r (h.put 83 _) (by rw[vU];exact h9),tQ h,bT,aD];congr 2;unfold Cz;by_cases hl:(qC q.1 q.2.1 q.2.2).length+1<=60
  ·rw[ae dU,ag hl]
  ·rw[ag (.inr dU),ae hl]
theorem j1(r:iE)(i:Nat)(q:kN)(p:Nat):((r.meet i q).P p).out=(r.P p).out/\((r.meet i q).P p).L=(r.P p).L/\((r.meet i q).P p).m=(r.P p).m/\((r.meet i q).P p).pe=if p=i then q else(r.P p).pe:=by
 rw[(mC r i q).2.2.2];by_cases e:p=i
 ·subst e;rw[jk,ag rfl];exact⟨rfl,rfl,rfl,rfl⟩
 ·rw[jh _ _ e,ae e];exact⟨rfl,rfl,rfl,rfl⟩
theorem kx(r:iE)(i:Nat)(q:jl)(p:Nat):(r.iK i q).P p=if p=i then q else r.P p:=rfl
theorem zk(h:IE r)(i:Nat)(c:UInt8)(s:List UInt8):(∀p,je ((jS r i c s).P p)=if p=i/\c=76/\(iM s).2.2.2=0 then(jA (r.P i).L ((iM s).1,(iM s).2.1,(iM s).2.2.1)).2.1.flatMap nR else [])/\(∀p,Fr ((jS r i c s).P p))/\(∀p,((jS r i c s).P p).pe=(r.P p).pe/\((jS r i c s).P p).m=(r.P p).m/\((jS r i c s).P p).L=if p=i/\c=76/\(iM s).2.2.2=0 then(jA (r.P i).L ((iM s).1,(iM s).2.1,(iM s).2.2.1)).1 else(r.P p).L)/\(jS r i c s).K=r.K/\(jS r i c s).O=r.O/\(jS r i c s).jZ=r.jZ/\(jS r i c s).id=r.id/\(jS r i c s).n=r.n:=by
 unfold jS;by_cases hc:c=76
 ·rw[ag hc];obtain⟨E,Y⟩:=fW (jA (r.P i).L ((iM s).1,(iM s).2.1,(iM s).2.2.1));rw[Y];have Z:(r.P i).packet s=if(iM s).2.2.2=0 then({r.P i with L:=E.1}:jl).say E.2.1 else r.P i:=by
   unfold jl.packet;simp only;rw[Y]
  have hs:=wh E.2.1 (p:={r.P i with L:=E.1}) (show Fr _ from h.fr i);have M:je ({r.P i with L:=E.1}:jl)=[] :=jj (h i);have U:=vN E.2.1 ({r.P i with L:=E.1}:jl);have Q:=D6 E.2.1 ({r.P i with L:=E.1}:jl);refine⟨λp=> ?_,λp=> ?_,λp=> ?_,rfl,rfl,rfl,rfl,rfl⟩
  ·rw[kx];by_cases e:p=i
   ·rw[ag e,Z];by_cases f:(iM s).2.2.2=0
    ·rw[ag f,ag ⟨e,hc,f⟩,hs.1,M];rfl
    ·rw[ae f,ae (λz=>f z.2.2),jj (h i)]
   ·rw[ae e,ae (λz=>e z.1),jj (h p)]
  ·rw[kx,Z];split
   ·split
    ·exact hs.2
    ·exact h.fr i
   ·exact h.fr p
  ·rw[kx,Z];by_cases e:p=i
   ·subst e;rw[ag rfl];by_cases f:(iM s).2.2.2=0
    ·rw[ag f,ag ⟨rfl,hc,f⟩,U.1,U.2,Q];exact⟨rfl,rfl,rfl⟩
    ·rw[ae f,ae (λz=>f z.2.2)];exact⟨rfl,rfl,rfl⟩
   ·rw[ae e,ae (λz=>e z.1)];exact⟨rfl,rfl,rfl⟩
 ·rw[ae hc];refine⟨λp=> ?_,λp=>h.fr p,λp=> ?_,rfl,rfl,rfl,rfl,rfl⟩
  ·rw[ae (λz=>hc z.2.1),jj (h p)]
  ·rw[ae (λz=>hc z.2.1)];exact⟨rfl,rfl,rfl⟩
theorem tR(i:Nat) {c:UInt8} (s:List UInt8)(hc:c≠76):jS r i c s=r:=by unfold jS;rw[ae hc]
theorem Uy(h:IE r)(i:Nat)(s:List UInt8)(p:Nat):je ((jd r i s).P p)=[] \/(p=i/\(il s).2.2.2=0/\(r.P i).pe.both=true/\¬((il s).1=r.id/\0<newF r.K (il s).1 (il s).2.1 (il s).2.2.1)/\0<=newF r.K (il s).1 (il s).2.1 (il s).2.2.1/\je ((jd r i s).P p)=[65::qC (il s).1 (il s).2.1 (il s).2.2.1]):=by
 unfold jd;simp only;split
 ·exact .inl (jj (h p))
 ·rename_i Y
  split
  ·left;rw[(nW r _).2.2.2];exact jj (h p)
  ·rename_i Z
   split
   ·rename_i U
    rw[kx];by_cases e:p=i
    ·rw[ag e,tQ (h.fr i),jj (h i)];split
     ·exact .inl rfl
     ·refine .inr ⟨e,dU,?_,Z,U,rfl⟩;cases hb:(r.P i).pe.both
      ·exact absurd (.inr hb) Y
      ·rfl
    ·rw[ae e];exact .inl (jj (h p))
   ·exact .inl (jj (h p))
theorem CA(h:IE r)(t:yn):∃j,(∀p,p≠j->je ((r.send t).P p)=[])/\(je ((r.send t).P j)=[] \/(((r.P j).L.st=9/\1<=t.2.1)/\je ((r.send t).P j)=[77::jO t.1::jO (t.2.1-1)::t.2.2])):=by
 unfold iE.send;split
 ·exact⟨0,λp _=>jj (h p),.inl (jj (h 0))⟩
 ·cases hv:(if 1<=t.2.1 then(zN (pj r) t.1).bind λh=>jX r.P h.uF r.n else ν)with
  |none=>exact⟨0,λp _=>jj (h p),.inl (jj (h 0))⟩
  |some i=>
   have U:1<=t.2.1:=by
    by_cases g:1<=t.2.1
    ·exact g
    ·rw[ae g]at hv;simp at hv
   refine⟨i,λp Y=> ?_,?_⟩
   ·show je ((r.iK i _).P p)=[]
    rw[kx,ae Y];exact jj (h p)
   ·show je ((r.iK i _).P i)=[] \/(((r.P i).L.st=9/\1<=t.2.1)/\je ((r.iK i _).P i)=_);rw[kx,ag rfl,tQ (h.fr i),jj (h i)];split
    ·exact .inl rfl
    ·rename_i g
     refine .inr ⟨⟨?_,U⟩,rfl⟩;by_cases Z:(r.P i).L.st=9
     ·exact Z
     ·exact absurd (.inl ⟨dX,Z⟩) g
inductive Ek(r:iE)(i:Nat)(x:kM)(p:Nat)(l:List kM):Prop
 |none:l=[]->Ek r i x p l
 |link (s:List UInt8):x=76::s->p=i->(iM s).2.2.2=0->l=(jA (r.P i).L ((iM s).1,(iM s).2.1,(iM s).2.2.1)).2.1.flatMap nR->Ek r i x p l
 |heard (s:List UInt8):x=83::s->p=i->(r.P i).L.st=9->(il s).2.2.2=0->(r.P i).pe.both=true->¬((il s).1=r.id/\0<newF r.K (il s).1 (il s).2.1 (il s).2.2.1)->0<=newF r.K (il s).1 (il s).2.1 (il s).2.2.1->l=[65::qC (il s).1 (il s).2.1 (il s).2.2.1]->Ek r i x p l
 |H9 (a b:UInt8) (s:List UInt8):x=77::a::b::s->(r.P p).L.st=9->1<=b.toNat->s.length<=20->l=[77::a::jO ((b.toNat:Int)-1)::s]->Ek r i x p l
theorem pK(h:IE r)(i:Nat)(x:kM):(∀p,Ek r i x p (je ((jD r i x).P p)))/\∀p q,je ((jD r i x).P p)≠ []->je ((jD r i x).P q)≠ []->p=q:=by
 have U:∀r':iE,(∀p,je (r'.P p)=[])->(∀p,Ek r i x p (je (r'.P p)))/\∀p q,je (r'.P p)≠ []->je (r'.P q)≠ []->p=q:=λr' J=>⟨λp=>.none (J p),λp q Z=>absurd (J p) Z⟩
 cases x with
 |nil=>exact U r λp=>jj (h p)
 |cons c s=>
  show(∀p,Ek r i (c::s) p (je ((r.take i c s).P p)))/\_;have e0:jD r i (c::s)=r.take i c s:=rfl;rw[e0];by_cases hc:c=76
  ·obtain⟨H,a2,a3,_⟩:=zk h i c s;have G:∀p,je ((r.take i c s).P p)=je ((jS r i c s).P p):=λp=>by
    rw[lg];split
    ·exact mZ (j1 _ _ _ _).1
    ·unfold lO;rw[ae (by rw[hc];decide),ae (by rw[hc];decide),ae (by rw[hc];decide),ae (by rw[hc];decide)]
   refine⟨λp=> ?_,λp q Z Y=> ?_⟩
   ·rw[G,H];split
    ·rename_i g
     exact .link s (by rw[hc]) g.1 g.2.2 rfl
    ·exact .none rfl
   ·rw[G,H]at Z Y;split at Z
    ·rename_i g
     split at Y
     ·rename_i Q;exact g.1.trans Q.1.symm
     ·exact absurd rfl Y
    ·exact absurd rfl Z
  ·rw[lg,tR i s hc];by_cases M:(r.P i).L.st=9
   ·rw[ae (by rw[M];simp)];unfold lO;split
    ·split
     ·exact U _ λp=>by rw[mZ (j1 _ _ _ _).1];exact jj (h p)
     ·exact U _ λp=>jj (h p)
    ·split
     ·rename_i hS
      have hs:=Uy h i s;refine⟨λp=> ?_,λp q Z Y=> ?_⟩
      ·rcases hs p with g|⟨g1,Q,g3,g4,g5,g6⟩
       ·exact .none g
       ·exact .heard s (by rw[hS]) g1 M Q g3 g4 g5 g6
      ·rcases hs p with g|g
       ·exact absurd g Z
       ·rcases hs q with f|f
        ·exact absurd f Y
        ·exact g.1.trans f.1.symm
     ·split
      ·refine U _ λp=> ?_;unfold kd;simp only;split<;>exact jj (h p)
      ·split
       ·rename_i hM
        unfold qH;split
        ·rename_i hl
         match s,hl with
         |a::b::u,hl=>
          obtain⟨j,g1,Q⟩:=CA h (((((a::b::u).getD 0 0).toNat:Nat):Int),((((a::b::u).getD 1 0).toNat:Nat):Int),(a::b::u).drop 2);have e1:((a::b::u).getD 0 0)=a:=rfl;have y:((a::b::u).getD 1 0)=b:=rfl;have e3:(a::b::u).drop 2=u:=rfl;rw[e1,y,e3]at g1 Q⊢;refine⟨λp=> ?_,λp q Z Y=> ?_⟩
          ·by_cases e:p=j
           ·subst e;rcases Q with g|⟨g,f⟩
            ·exact .none g
            ·obtain⟨A,g⟩:=g;have D:jO ((a.toNat:Nat):Int)=a:=by unfold jO;simp
             refine .H9 a b u (by rw[hM]) A (by simp only at g;omega) ?_ ?_
             ·simp only[eM]at hl;omega
             ·rw[f];show [77::jO ((a.toNat:Nat):Int)::_::u] =_;rw[D]
           ·exact .none (g1 p e)
          ·by_cases e:p=j
           ·by_cases f:q=j
            ·rw[e,f]
            ·exact absurd (g1 q f) Y
           ·exact absurd (g1 p e) Z
        ·exact U _ λp=>jj (h p)
       ·exact U _ λp=>jj (h p)
   ·rw[ag M];exact U _ λp=>by rw[mZ (j1 _ _ _ _).1];exact jj (h p)
theorem wJ(h:IE r)(i:Nat):(∀p,p≠i->je ((r.iL i).P p)=[])/\je ((r.iL i).P i)=(iW (r.P i).L).2.flatMap nR++(if(iW (r.P i).L).1.st=9 then(72::[jO r.id,jO (iA (r.P i).pe).who])::(if(iA (r.P i).pe).both=true then(kO (((iT r i).meet i (iA (r.P i).pe)).O i)).flatMap Cz else [])else []):=by
 have hs:=wh (iW (r.P i).L).2 (p:={r.P i with L:=(iW (r.P i).L).1}) (show Fr _ from h.fr i);have j:je ({r.P i with L:=(iW (r.P i).L).1}:jl)=[] :=jj (h i);have hm:=(vN (iW (r.P i).L).2 ({r.P i with L:=(iW (r.P i).L).1}:jl)).2;have hL:=D6 (iW (r.P i).L).2 ({r.P i with L:=(iW (r.P i).L).1}:jl);have Y:∀p,(iT r i).P p=if p=i then({r.P i with L:=(iW (r.P i).L).1}:jl).say (iW (r.P i).L).2 else r.P p:=λp=>by
  unfold iT;rw[kx];rfl
 have u:((iT r i).P i).pe=(r.P i).pe:=by rw[Y,ag rfl,hm]
 have A:((iT r i).P i).L.st=(iW (r.P i).L).1.st:=by rw[Y,ag rfl,hL]
 have qd:(iT r i).id=r.id:=rfl;have H:je ((iT r i).P i)=(iW (r.P i).L).2.flatMap nR/\Fr ((iT r i).P i):=by
  rw[Y,ag rfl,hs.1,j];exact⟨rfl,hs.2⟩
 rw[kP,A,u];by_cases Z:(iW (r.P i).L).1.st=9
 ·rw[ae (by rw[Z];simp),ag Z];obtain⟨x,hx⟩:=fW ((iT r i).meet i (iA (r.P i).pe));obtain⟨m1,m2,_,J⟩:=j1 (iT r i) i (iA (r.P i).pe) i;have M:x.id=r.id:=by rw[<-hx];exact(jx.meet (iT r i) i _).id
  rw[hx]at m1 m2 J;rw[ag rfl]at J;have G:je (x.P i)=(iW (r.P i).L).2.flatMap nR:=by rw[mZ m1];exact H.1
  have y:Fr (x.P i):=by obtain⟨ps,tW⟩:=H.2;exact⟨ps,by rw[m1];exact tW⟩
  have U:(x.P i).L.st=9:=by rw[m2,A];exact Z
  rw[hx];unfold lZ;simp only;refine⟨λp Q=> ?_,?_⟩
  ·rw[kx,ae Q,<-hx,mZ (j1 _ _ _ _).1,Y,ae Q];exact jj (h p)
  ·rw[kx,ag rfl,J,M];have D:=tQ y 72 [jO r.id,jO (iA (r.P i).pe).who];rw[ae (by rw[U];simp),G]at D;split
   ·rw[Bp _ (y.put 72 _) (by rw[vU];exact U),D,aD];rfl
   ·rw[D]
 ·rw[ag Z,ae Z];refine⟨λp Q=> ?_,?_⟩
  ·rw[mZ (j1 _ _ _ _).1,Y,ae Q];exact jj (h p)
  ·rw[mZ (j1 _ _ _ _).1,H.1,aC]
theorem Ia(h:IE r)(i:Nat)(up:Bool)(U:(kL (r.P i).L (if up=true then 0 else 1)).2.2=0):(∀p,p≠i->je ((r.iD i up).1.P p)=[])/\je ((r.iD i up).1.P i)=(kL (r.P i).L (if up=true then 0 else 1)).2.1.flatMap nR/\(r.iD i up).1=((r.iK i (({r.P i with L:=(kL (r.P i).L (if up=true then 0 else 1)).1,rd:=k9}:jl).say (kL (r.P i).L (if up=true then 0 else 1)).2.1)).meet i nobody):=by
 obtain⟨E,Y⟩:=fW (kL (r.P i).L (if up=true then 0 else 1));rw[Y]at U⊢;have hs:=wh E.2.1 (p:={r.P i with L:=E.1,rd:=k9}) (show Fr _ from h.fr i);have Q:je ({r.P i with L:=E.1,rd:=k9}:jl)=[] :=jj (h i);have e:(r.P i).iD up=(({r.P i with L:=E.1,rd:=k9}:jl).say E.2.1,0):=by
  unfold jl.iD;rw[Y];simp only;rw[ae (by simp[U])];rfl
 have Z:(r.iD i up).1=(r.iK i (({r.P i with L:=E.1,rd:=k9}:jl).say E.2.1)).meet i nobody:=by
  unfold iE.iD;rw[e];simp only;rw[ae gO]
 refine⟨λp M=> ?_,?_,Z⟩
 ·rw[Z,mZ (j1 _ _ _ _).1,kx,ae M];exact jj (h p)
 ·rw[Z,mZ (j1 _ _ _ _).1,kx,ag rfl,hs.1,Q];rfl
structure Own(r:iE):Prop where
 tie:∀p x q,r.O p x=μ q->r.K x=μ q
 val:∀x q,r.K x=μ q->oD x q.1 q.2=0
 own:Dp r.K r.id=jC r
def lK(B:Nat)(r:iE):Prop:=∀x q,r.K x=μ q->q.1<=(B:Int)
theorem lK.mono(h:lK B r)(hc:B<=C):lK C r:=λx q Z=>by have:=h x q Z;omega
theorem Bq {P Q:Nat->jl} (n:Int)(h:∀p,(Q p).m=(P p).m/\(Q p).pe.who=(P p).pe.who/\(Q p).pe.both=(P p).pe.both):∀k,jX Q n k=jX P n k
 |0=>rfl
 |k+1=>by
  have ih:=Bq n h k;unfold jX;rw[ih,(h k).1,(h k).2.1,(h k).2.2];cases jX P n k with
  |none=>rfl
  |some b=>simp only[(h b).1]
theorem pL(Z:s.n=r.n)(h:∀p,(s.P p).m=(r.P p).m/\(s.P p).pe.who=(r.P p).pe.who/\(s.P p).pe.both=(r.P p).pe.both):jC s=jC r:=by
 unfold jC;congr 1
 funext j
 rw[Z,Bq _ h];cases jX r.P ((j:Int)+1) r.n with
 |none=>rfl
 |some b=>simp only[Option.map_some,(h b).1]
theorem Own.alike(h:Own r)(Z:s.K=r.K)(U:s.O=r.O)(hi:s.id=r.id)(Q:s.n=r.n)(Y:∀p,(s.P p).m=(r.P p).m/\(s.P p).pe.who=(r.P p).pe.who/\(s.P p).pe.both=(r.P p).pe.both):Own s:=
 ⟨by rw[Z,U];exact h.tie,by rw[Z];exact h.val,by rw[Z,hi,pL Q Y];exact h.own⟩
theorem lK.alike(h:lK B r)(Z:s.K=r.K):lK B s:=by unfold lK;rw[Z];exact h
structure abe(r:iE):Prop where
 tie:∀p x q,r.O p x=μ q->r.K x=μ q
 val:∀x q,r.K x=μ q->oD x q.1 q.2=0
theorem Em(h:abe r)(U:kU r)(hs:lK B r) {q:Int} (h0:0<=q)(hq:q<=B)(hB:B<1000000):Own (r.behind q)/\lK (B+1) (r.behind q):=by
 unfold iE.behind;rw[ag dU];have hv:=Dv U (seq:=q+1) dU;refine⟨⟨λp x u Z=> ?_,λx u Z=> ?_,?_⟩,λx u Z=> ?_⟩
 ·have e:(if x=r.id then μ (q+1,jC r)else r.O p x)=μ u:=Z;show(if x=r.id then μ (q+1,jC r)else r.K x)=μ u;split
  ·rename_i g;rw[ag g]at e;exact e
  ·rename_i g;rw[ae g]at e;exact h.tie p x u e
 ·have e:(if x=r.id then μ (q+1,jC r)else r.K x)=μ u:=Z;by_cases g:x=r.id
  ·rw[ag g]at e;injection e with e;rw[<-e,g];exact hv
  ·rw[ae g]at e;exact h.val x u e
 ·have Y:jC (r.Dq (q+1) (jC r))=jC r:=pL rfl λ_=>⟨rfl,rfl,rfl⟩
  rw[Y];show Dp (vD r.K r.id (q+1,jC r)) r.id=_;unfold Dp vD;rw[ag rfl]
 ·have e:(if x=r.id then μ (q+1,jC r)else r.K x)=μ u:=Z;by_cases g:x=r.id
  ·rw[ag g]at e;injection e with e;rw[<-e];push_cast;show q+1<=_;omega
  ·rw[ae g]at e;have:=hs x u e;push_cast;omega
theorem N5(h:lK B r)(Y:kU r):zX r.K r.id<=B/\0<=zX r.K r.id:=by
 obtain⟨q,Z,_⟩:=Y.own;have h2:=Y.seq;refine⟨?_,dU⟩;unfold zX;rw[Z];exact h _ _ Z
theorem MP(h:abe r)(Z:kU r)(hs:lK B r)(Y:B<1000000):Own r.change/\lK (B+1) r.change:=by
 unfold iE.change;split
 ·rename_i g;exact⟨⟨h.tie,h.val,g⟩,hs.mono dU⟩
 ·exact Em h Z hs (N5 hs Z).2 (N5 hs Z).1 Y
def YH(a b:kN):Nat:=if a.who=b.who/\a.both=b.both then 0 else 1
theorem En(h:Own r)(M:kU r)(hs:lK B r)(J:B<1000000)(i:Nat) {q:kN} (U:nQ r.id q):Own (r.meet i q)/\lK (B+YH q (r.P i).pe) (r.meet i q):=by
 unfold iE.meet YH;simp only;split
 ·rename_i g
  refine⟨h.alike rfl rfl rfl rfl λp=> ?_,hs.alike rfl⟩;rw[kx];split
  ·rename_i e;rw[e];exact⟨rfl,g.1,g.2⟩
  ·exact⟨rfl,rfl,rfl⟩
 ·have Q:kU (r.iK i {r.P i with pe:=q}):=M.iK i _ rfl λ_=>U;obtain⟨x,hx⟩:∃x:iE,({r.iK i {r.P i with pe:=q}with O:=λx=>if x=i then λ_=>ν else(r.iK i {r.P i with pe:=q}).O x}:iE)=x:=⟨_,rfl⟩
  have Y:kU x:=by rw[<-hx];exact Q.xR _
  have o2:abe x:=by
   refine⟨λp y u Z=> ?_,λy u Z=> ?_⟩
   ·rw[<-hx]at Z⊢;have e:(if p=i then λ_=>ν else r.O p) y=μ u:=Z;split at e
    ·exact absurd e gO
    ·exact h.tie p y u e
   ·rw[<-hx]at Z;exact h.val y u Z
  have H:lK B x:=by rw[<-hx];exact hs.alike rfl
  obtain⟨c1,c2⟩:=MP o2 Y H J;rw[hx];split
  ·refine⟨⟨λp y u Z=> ?_,c1.val,?_⟩,c2⟩
   ·have e:(if p=i then pQ (x.change.O i) x.change.K else x.change.O p) y=μ u:=Z;show x.change.K y=μ u;split at e
    ·unfold pQ at e;split at e
     ·exact e
     ·exact c1.tie i y u e
    ·exact c1.tie p y u e
   ·exact(c1.own).trans (pL rfl λ_=>⟨rfl,rfl,rfl⟩).symm
  ·exact⟨c1,c2⟩
theorem QE(h:Own r)(iF:kU r)(hs:lK B r)(hB:B<1000000)(i:Nat)(l:List UInt8)(hl:(il l).2.2.2=0->(il l).2.1<=B):Own (jd r i l)/\lK (B+1) (jd r i l):=by
 unfold jd;simp only;split
 ·exact⟨h,hs.mono dU⟩
 ·rename_i h1
  have A:(il l).2.2.2=0:=dU;have hv:oD (il l).1 (il l).2.1 (il l).2.2.1=0:=pv (by rw[<-A]);have M:=hl A;have ti:=(jw hv).2.1;split
  ·exact Em ⟨h.tie,h.val⟩ iF hs dU M hB
  ·rename_i y
   generalize (il l).1=own,(il l).2.1=seq,(il l).2.2.1=es at*;have G:∀x u,kY r.K own seq es x=μ u->r.K x=μ u \/(x=own/\u=(seq,es)/\0<newF r.K own seq es):=λx u U=>by
    unfold kY at U;split at U
    ·rename_i g
     have e:(if x=own then μ (seq,es)else r.K x)=μ u:=U;split at e
     ·rename_i Z;injection e with e;exact .inr ⟨Z,e.symm,g⟩
     ·exact .inl e
    ·exact .inl U
   have J:Own {r with K:=kY r.K own seq es,O:=oq r.K r.O i own seq es} /\lK B {r with K:=kY r.K own seq es,O:=oq r.K r.O i own seq es}:=by
    refine⟨⟨λp x u U=> ?_,λx u U=> ?_,?_⟩,λx u U=> ?_⟩
    ·have Y:oq r.K r.O i own seq es p x=μ u:=U;show kY r.K own seq es x=μ u;unfold oq at Y;unfold kY;by_cases g:0<newF r.K own seq es
     ·rw[ag g]at Y⊢;show(if x=own then μ (seq,es)else r.K x)=μ u;split at Y
      ·have e:(if x=own then ν else if x=own then μ (seq,es)else r.O i x)=μ u:=Y;by_cases Z:x=own
       ·rw[ag Z]at e;exact absurd e gO
       ·rw[ae Z,ae Z]at e;rw[ae Z];exact h.tie i x u e
      ·have e:(if x=own then μ (seq,es)else r.O p x)=μ u:=Y;by_cases Z:x=own
       ·rw[ag Z]at e⊢;exact e
       ·rw[ae Z]at e⊢;exact h.tie p x u e
     ·rw[ae g]at Y⊢;by_cases Q:newF r.K own seq es<0
      ·rw[ag Q]at Y;split at Y
       ·cases H:r.K own with
        |none=>rw[H]at Y;exact h.tie i x u Y
        |some q=>
         rw[H]at Y;have e:(if x=own then μ q else r.O i x)=μ u:=Y;by_cases Z:x=own
         ·rw[ag Z]at e;rw[Z,H];exact e
         ·rw[ae Z]at e;exact h.tie i x u e
       ·exact h.tie p x u Y
      ·rw[ae Q]at Y;split at Y
       ·have e:(if x=own then ν else r.O i x)=μ u:=Y;by_cases Z:x=own
        ·rw[ag Z]at e;exact absurd e gO
        ·rw[ae Z]at e;exact h.tie i x u e
       ·exact h.tie p x u Y
    ·rcases G x u U with g|⟨g1,Q,_⟩
     ·exact h.val x u g
     ·rw[g1,Q];exact hv
    ·have j:jC {r with K:=kY r.K own seq es,O:=oq r.K r.O i own seq es}=jC r:=pL rfl λ_=>⟨rfl,rfl,rfl⟩
     rw[j,<-h.own];show Dp (kY r.K own seq es) r.id=_;have:kY r.K own seq es r.id=r.K r.id:=by
      unfold kY;split
      ·rename_i g
       have Z:r.id≠own:=λe=>y ⟨e.symm,g⟩;show(if r.id=own then _ else _)=_;rw[ae Z]
      ·rfl
     unfold Dp;rw[this]
    ·rcases G x u U with g|⟨_,Q,_⟩
     ·exact hs x u g
     ·rw[Q];exact M
   split
   ·refine⟨J.1.alike rfl rfl rfl rfl λp=> ?_,(J.2.alike (s:=iE.iK _ i _) rfl).mono dU⟩;rw[kx];split
    ·rename_i e
     rw[e];have D:∀(p:jl) c s,(p.put c s).m=p.m/\(p.put c s).pe=p.pe:=λp c s=>by unfold jl.put;split<;>(try split)<;>exact⟨rfl,rfl⟩
     rw[(D _ _ _).1,(D _ _ _).2];exact⟨rfl,rfl,rfl⟩
    ·exact⟨rfl,rfl,rfl⟩
   ·exact⟨J.1,J.2.mono dU⟩
theorem QF(h:Own r)(i:Nat)(l:List UInt8):Own (kd r i l)/\(kd r i l).K=r.K:=by
 unfold kd;simp only;split
 ·refine⟨⟨λp x u Y=> ?_,h.val,h.own.trans (pL rfl λ_=>⟨rfl,rfl,rfl⟩).symm⟩,rfl⟩;have e:(if p=i/\0<=newF r.K (il l).1 (il l).2.1 (il l).2.2.1 then xN (r.O i) (il l).1 else r.O p) x=μ u:=Y;show r.K x=μ u;split at e
  ·have Z:(if x=(il l).1 then ν else r.O i x)=μ u:=e;split at Z
   ·exact absurd Z gO
   ·exact h.tie i x u Z
  ·exact h.tie p x u e
 ·exact⟨h,rfl⟩
theorem rz(p:jl)(c:UInt8)(s:List UInt8):(p.put c s).m=p.m/\(p.put c s).pe=p.pe:=by unfold jl.put;split<;>(try split)<;>exact⟨rfl,rfl⟩
theorem mJ(r:iE)(t:yn):(r.send t).K=r.K/\(r.send t).O=r.O/\(r.send t).id=r.id/\(r.send t).n=r.n/\∀p,((r.send t).P p).m=(r.P p).m/\((r.send t).P p).pe=(r.P p).pe/\((r.send t).P p).L=(r.P p).L:=by
 unfold iE.send;split
 ·exact⟨rfl,rfl,rfl,rfl,λ_=>⟨rfl,rfl,rfl⟩⟩
 ·split
  ·exact⟨rfl,rfl,rfl,rfl,λ_=>⟨rfl,rfl,rfl⟩⟩
  ·refine⟨rfl,rfl,rfl,rfl,λp=> ?_⟩;rw[kx];split
   ·rename_i e;rw[e,(rz _ _ _).1,(rz _ _ _).2,vU];exact⟨rfl,rfl,rfl⟩
   ·exact⟨rfl,rfl,rfl⟩
theorem Kx(h:Own r)(t:yn):Own (r.send t):=by
 obtain⟨a,b,c,d,e⟩:=mJ r t;exact h.alike a b c d λp=>by rw[(e p).1,(e p).2.1];exact⟨rfl,rfl,rfl⟩
def QG(q:kN):Nat:=if q.who=0/\q.both=false then 0 else 1
def qx(r:iE):Nat:=QG (r.P 0).pe+QG (r.P 1).pe+QG (r.P 2).pe
theorem pA(h:∀p,(s.P p).pe=(r.P p).pe):qx s=qx r:=by unfold qx;rw[h,h,h]
theorem Eo(hi:i<3)(q:kN):qx (r.meet i q)+QG (r.P i).pe=qx r+QG q:=by
 have h:=λp=>(j1 r i q p).2.2.2;unfold qx;rw[h,h,h];have:i=0 \/i=1 \/i=2:=dU;rcases this with rfl|rfl|rfl
 ·rw[ag rfl,ae dX,ae dX];omega
 ·rw[ae dX,ag rfl,ae dX];omega
 ·rw[ae dX,ae dX,ag rfl];omega
theorem abf(a b:kN):YH a b<=1:=by unfold YH;split<;>decide
theorem abg(a:kN):QG a<=1:=by unfold QG;split<;>decide
theorem Ep(q:kN):YH nobody q+QG nobody<=QG q:=by
 unfold YH QG;show(if(0:Int)=q.who/\false=q.both then 0 else 1)+(if(0:Int)=0/\false=false then 0 else 1)<=_;rw[ag (⟨rfl,rfl⟩:(0:Int)=0/\false=false)];by_cases e:q.who=0/\q.both=false
 ·rw[ag ⟨e.1.symm,e.2.symm⟩];omega
 ·rw[ae (λh=>e ⟨h.1.symm,h.2.symm⟩),ae e];exact Nat.le_refl _
theorem Uz(q:kN):YH (iA q) q+QG (iA q)<=QG q:=by
 unfold iA;split
 ·exact Ep q
 ·unfold YH QG;rw[ag ⟨rfl,rfl⟩];simp
def sw:kM->Nat
 |72::_=>2
 |83::_=>1
 |_=>0
def zm(B:Nat)(x:kM):Prop:=∀s,x=83::s->(il s).2.2.2=0->(il s).2.1<=(B:Int)
theorem zm.mono(h:zm B x)(hc:B<=C):zm C x:=λs e Z=>by have:=h s e Z;omega
theorem Ax(h:Own r)(Z:kU r)(hs:lK B r)(Y:B<1000000)(hi:i<3):∃C,Own (r.meet i nobody)/\lK C (r.meet i nobody)/\B<=C/\C+qx (r.meet i nobody)<=B+qx r:=by
 obtain⟨a,b⟩:=En h Z hs Y i (nQ.nobody Z.id.1);have h1:=Eo (r:=r) hi nobody;have h2:=Ep (r.P i).pe;exact⟨_,a,b,dU,dU⟩
theorem QH(h:Own r)(J:kU r)(hs:lK B r)(U:B<1000000)(hi:i<3)(x:kM)(hx:zm B x):∃C,Own (jD r i x)/\lK C (jD r i x)/\B<=C/\C+qx (jD r i x)<=B+qx r+sw x:=by
 cases x with
 |nil=>exact⟨B,h,hs,Nat.le_refl _,by show B+qx r<=_;omega⟩
 |cons c s=>
  show∃C,Own (r.take i c s)/\lK C (r.take i c s)/\B<=C/\C+qx (r.take i c s)<=B+qx r+sw (c::s);have hl:Own (jS r i c s)/\lK B (jS r i c s)/\qx (jS r i c s)=qx r:=by
   unfold jS;split
   ·have e:∀p,((r.iK i ((r.P i).packet s)).P p).m=(r.P p).m/\((r.iK i ((r.P i).packet s)).P p).pe=(r.P p).pe:=λp=>by
     rw[kx];split
     ·rename_i e;rw[e,(tM _ _).1,(tM _ _).2];exact⟨rfl,rfl⟩
     ·exact⟨rfl,rfl⟩
    exact⟨h.alike rfl rfl rfl rfl λp=>by rw[(e p).1,(e p).2];exact⟨rfl,rfl,rfl⟩,hs.alike rfl,pA λp=>(e p).2⟩
   ·exact⟨h,hs,rfl⟩
  have Z:=J.link i c s;rw[lg];obtain⟨r1,M⟩:=fW (jS r i c s);have qd:r1.id=r.id:=by rw[<-M];exact(jx.link r i c s).id
  rw[M]at hl Z⊢;obtain⟨l1,l2,l3⟩:=hl;split
  ·obtain⟨C,a,b,c1,c2⟩:=Ax l1 Z l2 U hi;exact⟨C,a,b,c1,dU⟩
  ·unfold lO;split
   ·rename_i hc
    split
    ·rename_i Q
     obtain⟨a,b⟩:=En l1 Z l2 U i (nQ.Wu (s:=(kg s).2.1) Z.id.1 (DM Q));have h1:=Eo (r:=r1) hi (iY r1.id (kg s).1 (kg s).2.1);have h2:=abf (iY r1.id (kg s).1 (kg s).2.1) (r1.P i).pe;have h3:=abg (iY r1.id (kg s).1 (kg s).2.1);exact⟨_,a,b,dU,by rw[hc];show _<=B+qx r+2;omega⟩
    ·exact⟨B,l1,l2,Nat.le_refl _,dU⟩
   ·split
    ·rename_i hc
     obtain⟨a,b⟩:=QE l1 Z l2 U i s λQ=>hx s (by rw[hc]) Q;have e:qx (jd r1 i s)=qx r1:=pA λp=>(j4.state r1 i s p).2;exact⟨_,a,b,dU,by rw[hc,e];show _<=B+qx r+1;omega⟩
    ·split
     ·obtain⟨a,b⟩:=QF l1 i s;have e:qx (kd r1 i s)=qx r1:=pA λp=>by unfold kd;simp only;split<;>rfl
      exact⟨B,a,l2.alike b,Nat.le_refl _,by rw[e];omega⟩
     ·split
      ·unfold qH;split
       ·have Y:=mJ r1 (((s.getD 0 0).toNat:Int),((s.getD 1 0).toNat:Int),s.drop 2);exact⟨B,Kx l1 _,l2.alike Y.1,Nat.le_refl _,by rw[pA λp=>(Y.2.2.2.2 p).2.1];omega⟩
       ·exact⟨B,l1,l2,Nat.le_refl _,dU⟩
      ·exact⟨B,l1,l2,Nat.le_refl _,dU⟩
theorem lq(r:iE)(i p:Nat):((iT r i).P p).m=(r.P p).m/\((iT r i).P p).pe=(r.P p).pe:=by
 unfold iT;rw[kx];split
 ·rename_i e;rw[e,(rR _).1,(rR _).2.1];exact⟨rfl,rfl⟩
 ·exact⟨rfl,rfl⟩
theorem oV(r:iE)(i:Nat):(lZ r i).K=r.K/\(lZ r i).O=r.O/\(lZ r i).id=r.id/\(lZ r i).n=r.n/\∀p,((lZ r i).P p).m=(r.P p).m/\((lZ r i).P p).pe=(r.P p).pe/\((lZ r i).P p).L=(r.P p).L:=by
 have hA:∀(l:List (Int×PS)) (p:jl),(p.kh l).m=p.m:=λl=>by
  induction l with
  |nil=>intro p;rfl
  |cons q r ih=>intro p;show((p.put 83 _).kh r).m=_;rw[ih,(rz _ _ _).1]
 refine⟨rfl,rfl,rfl,rfl,λp=> ?_⟩;unfold lZ;simp only;rw[kx];split
 ·rename_i e
  rw[e];split
  ·rw[hA,(vV _ _).1,(vV _ _).2,(rz _ _ _).1,(rz _ _ _).2,vU];exact⟨rfl,rfl,rfl⟩
  ·rw[(rz _ _ _).1,(rz _ _ _).2,vU];exact⟨rfl,rfl,rfl⟩
 ·exact⟨rfl,rfl,rfl⟩
theorem Ay(h:Own r)(J:kU r)(hs:lK B r)(U:B<1000000)(hi:i<3)(hn:r.n=3):∃C,Own (r.iL i)/\lK C (r.iL i)/\B<=C/\C+qx (r.iL i)<=B+qx r/\kU (r.iL i):=by
 rw[kP];have Y:Own (iT r i):=h.alike rfl rfl rfl rfl λp=>by rw[(lq r i p).1,(lq r i p).2];exact⟨rfl,rfl,rfl⟩
 have s1:lK B (iT r i):=hs.alike rfl;have k1:=J.iT i;have c1:qx (iT r i)=qx r:=pA λp=>(lq r i p).2;have n1:(iT r i).n=r.n:=rfl;obtain⟨r1,M⟩:=fW (iT r i);rw[M]at Y s1 k1 c1 n1⊢;split
 ·obtain⟨C,a,b,c,d⟩:=Ax Y k1 s1 U hi;exact⟨C,a,b,c,dU,k1.meet i (nQ.nobody k1.id.1)⟩
 ·have Q:=nQ.tick k1.id.1 (k1.pe i dU);obtain⟨a,b⟩:=En Y k1 s1 U i Q;have h2:=Eo (r:=r1) hi (iA (r1.P i).pe);have h3:=Uz (r1.P i).pe;obtain⟨t1,t2,H,G,Z⟩:=oV (r1.meet i (iA (r1.P i).pe)) i;refine⟨_,a.alike t1 t2 H G λp=> ?_,b.alike t1,dU,?_,(k1.meet i Q).tell i⟩
  ·rw[(Z p).1,(Z p).2.1];exact⟨rfl,rfl,rfl⟩
  ·rw[pA λp=>(Z p).2.1];omega
theorem UA(h:Own r)(Y:kU r)(hs:lK B r)(U:B<1000000)(hi:i<3)(up:Bool):∃C,Own (r.iD i up).1/\lK C (r.iD i up).1/\B<=C/\C+qx (r.iD i up).1<=B+qx r/\kU (r.iD i up).1:=by
 unfold iE.iD;simp only;split
 ·exact⟨B,h,hs,Nat.le_refl _,Nat.le_refl _,Y⟩
 ·have e:((r.P i).iD up).1.m=(r.P i).m/\((r.P i).iD up).1.pe=(r.P i).pe:=by
   unfold jl.iD;generalize kL (r.P i).L (if up=true then 0 else 1)=E;simp only;split
   ·exact⟨rfl,rfl⟩
   ·rw[(vN _ _).1,(vN _ _).2];exact⟨rfl,rfl⟩
  have Z:∀p,((r.iK i ((r.P i).iD up).1).P p).m=(r.P p).m/\((r.iK i ((r.P i).iD up).1).P p).pe=(r.P p).pe:=λp=>by
   rw[kx];split
   ·rename_i g;rw[g];exact e
   ·exact⟨rfl,rfl⟩
  have Q:Own (r.iK i ((r.P i).iD up).1):=h.alike rfl rfl rfl rfl λp=>by rw[(Z p).1,(Z p).2];exact⟨rfl,rfl,rfl⟩
  have k1:kU (r.iK i ((r.P i).iD up).1):=Y.iK i _ e.1 λhi=>by rw[e.2];exact Y.pe i hi
  obtain⟨C,a,b,c,d⟩:=Ax Q k1 (hs.alike (s:=r.iK i _) rfl) U hi;exact⟨C,a,b,c,by rw[pA λp=>(Z p).2]at d;exact d,k1.meet i (nQ.nobody k1.id.1)⟩
structure uS(B N:Nat)(a:AN):Prop where
 r:∀i,i<a.n->Own (a.R i)/\kU (a.R i)/\lK B (a.R i)/\(a.R i).id=(i:Int)+1/\(a.R i).n=3
 f:∀c d,c<a.nc->d<2->∀x∈a.F c d,zm B x
 b:B+a.W sw+sm (λi=>qx (a.R i)) (fR a.n)<=N
 one:1<=B
 ms:∀i p,i<a.n->p<3->1<=a.ms i p/\a.ms i p<=20
theorem UB(h:Own s):Own s.core:=h.alike rfl rfl rfl rfl λ_=>⟨rfl,rfl,rfl⟩
theorem Xi(h:kU s):kU s.core:=⟨h.id,h.m,h.pe,h.own,h.Pr⟩
theorem own_op {a:AN} (hB:sX a)(h:uS B N a)(i:Nat)(hi:i<a.n)(s:iE)(C k:Nat)(D:Own s)(U:kU s)(y:lK C s)(A:s.id=(i:Int)+1)(J:s.n=3)(Z:B<=C)(u:∀p,∀x∈je (s.P p),zm C x)(hb:C+qx s+(sm sw (je (s.P 0))+sm sw (je (s.P 1))+sm sw (je (s.P 2)))<=B+qx (a.R i)+k):uS C (N+k) (a.op i s):=by
 refine⟨λj hj=> ?_,λc d hc hd x hx=> ?_,?_,by have:=h.one;omega,h.ms⟩
 ·show Own (jK a.R i s.core j)/\kU (jK a.R i s.core j)/\lK C (jK a.R i s.core j)/\(jK a.R i s.core j).id=_/\(jK a.R i s.core j).n=3;by_cases e:j=i
  ·rw[e,iu];exact⟨UB D,Xi U,y.alike (s:=s.core) rfl,A,J⟩
  ·rw[iq _ _ e];obtain⟨M,a2,H,G,Q⟩:=h.r j hj;exact⟨M,a2,H.mono Z,G,Q⟩
 ·rw[uR]at hx;split at hx
  ·rcases av.1 hx with e|e
   ·exact(h.f c d hc hd x e).mono Z
   ·exact u _ x e
  ·exact(h.f c d hc hd x hx).mono Z
 ·have h6:=abd hB i s sw;have h7:sm (λj=>qx ((a.op i s).R j)) (fR a.n)+qx (a.R i)<=sm (λj=>qx (a.R j)) (fR a.n)+qx s:=by
   have Y:sm (λj=>qx ((a.op i s).R j)+(if j=i then qx (a.R i)else 0)) (fR a.n)<=sm (λj=>qx (a.R j)+(if j=i then qx s else 0)) (fR a.n):=uL λj _=>by
    show qx (jK a.R i s.core j)+_<=_;by_cases e:j=i
    ·subst e;rw[iu,ag rfl,ag rfl];have:qx s.core=qx s:=rfl;omega
    ·rw[iq _ _ e,ae e,ae e];exact Nat.le_refl _
   rw[Ej,Ej,H8 i _ bQ,H8 i _ bQ,ag (aS.2 hi),ag (aS.2 hi)]at Y;exact Y
  have h8:=h.b;show C+(a.op i s).W sw+sm (λj=>qx ((a.op i s).R j)) (fR a.n)<=N+k;omega
theorem wK {F:Int->Option PS} {y:Int×PS} (h:y∈kO F):F y.1=μ y.2:=by
 unfold kO at h;obtain⟨j,_,Z⟩:=cO.1 h;cases e:F ((j:Int)+1)with
 |none=>rw[e]at Z;simp at Z
 |some q=>rw[e]at Z;simp only[Option.map_some,Option.some.injEq]at Z;rw[<-Z];exact e
theorem qV {l:List kG} (h:x∈l.flatMap nR):∃s,x=76::s:=by
 obtain⟨q,_,Z⟩:=aV.1 h;unfold nR at Z;split at Z
 ·exact⟨_,ar.1 Z⟩
 ·simp at Z
theorem zn:∀ {l:List kM},(∀x∈l,sw x=0)->sm sw l=0
 |[],_=>rfl
 |x::l,h=>by
  have:=zn (l:=l) λy hy=>h y (by simp[hy]);have h1:=h x gO;show sw x+sm sw l=0;omega
theorem N8:∀l:List (Int×PS),sm sw (l.flatMap Cz)<=l.length
 |[] =>Nat.le_refl _
 |q::l=>by
  have:=N8 l;rw[bT,pz];have h1:sm sw (Cz q)<=1:=by
   unfold Cz;split
   ·exact Nat.le_refl _
   ·exact Nat.zero_le _
  simp only[eM];omega
theorem N9 {p:Nat} (h:Ek r i x p l):(∀y∈l,sw y=0)/\∀B,∀y∈l,zm B y:=by
 have Z:∀(c:UInt8) (s:List UInt8),c≠72->c≠83->sw (c::s)=0/\∀B,zm B (c::s):=λc s U Y=>by
  refine⟨?_,λB t e=>absurd (aB e).1 Y⟩;unfold sw;split
  ·rename_i e;exact absurd (aB e).1 U
  ·rename_i e;exact absurd (aB e).1 Y
  ·rfl
 cases h with
 |none h=>rw[h];exact⟨λ_ h=>by simp at h,λ_ _ h=>by simp at h⟩
 |link s _ _ _ h=>
  rw[h];exact⟨λy hy=>by obtain⟨s,rfl⟩:=qV hy;exact(Z 76 s dX dX).1,λB y hy=>by obtain⟨s,rfl⟩:=qV hy;exact(Z 76 s dX dX).2 B⟩
 |heard s _ _ _ _ _ _ _ h=>
  rw[h];exact⟨λy hy=>by rw[ar.1 hy];exact(Z 65 _ dX dX).1,λB y hy=>by rw[ar.1 hy];exact(Z 65 _ dX dX).2 B⟩
 |H9 a b s _ _ _ _ h=>
  rw[h];exact⟨λy hy=>by rw[ar.1 hy];exact(Z 77 _ dX dX).1,λB y hy=>by rw[ar.1 hy];exact(Z 77 _ dX dX).2 B⟩
theorem Ky(h:kU r)(i:Nat)(x:kM):kU (jD r i x)/\(jD r i x).id=r.id/\(jD r i x).n=r.n:=by
 cases x with
 |nil=>exact⟨h,rfl,rfl⟩
 |cons c s=>exact⟨h.take i c s,(Mx r i c s).2,(Mx r i c s).1⟩
theorem Ib(r:iE)(i:Nat)(up:Bool):(r.iD i up).1.id=r.id/\(r.iD i up).1.n=r.n:=⟨(jx.iD r i up).id,(jx.iD r i up).n⟩
theorem Ic(h:∀p,∀y∈je (s.P p),sw y=0):sm sw (je (s.P 0))+sm sw (je (s.P 1))+sm sw (je (s.P 2))=0:=by
 rw[zn (h 0),zn (h 1),zn (h 2)]
theorem Oa(h:IE r)(i:Nat)(up:Bool):∀p,∀y∈je ((r.iD i up).1.P p),∃s,y=76::s:=λp y hy=>by
 by_cases Z:(kL (r.P i).L (if up=true then 0 else 1)).2.2=0
 ·obtain⟨a,b,_⟩:=Ia h i up Z;by_cases e:p=i
  ·subst e;rw[b]at hy;exact qV hy
  ·rw[a p e]at hy;simp at hy
 ·have:(r.iD i up).1=r:=by
   unfold iE.iD jl.iD;generalize kL (r.P i).L (if up=true then 0 else 1)=E at*;simp only;rw[ag Z];simp only;rw[ag Z]
  rw[this,jj (h p)]at hy;simp at hy
theorem UC(s:List UInt8):sw (76::s)=0/\∀B,zm B (76::s):=⟨rfl,λB t e=>absurd (aB e).1 dX⟩
theorem Az {a:AN} (Y:sX a)(G:Norm a)(h:uS B N a)(hl:N<1000000)(hc:c<a.nc)(hd:d<2)(up:Bool):∃C,uS C N (a.mY c d up):=by
 obtain⟨hi,D⟩:=Y.en c d hc hd;obtain⟨Q,A,M,J,U⟩:=h.r _ hi;obtain⟨C,c1,c2,c3,c4,H⟩:=UA Q A M (by have:=h.b;omega) D up;have Z:=Oa (G.emp (a.e c d).1) (a.e c d).2 up;refine⟨C,own_op Y h _ hi _ C 0 c1 H c2 ((Ib _ _ _).1.trans J) ((Ib _ _ _).2.trans U) c3 (λp x hx=> ?_) ?_⟩
 ·obtain⟨s,rfl⟩:=Z p x hx;exact(UC s).2 C
 ·rw[Ic λp y hy=>by obtain⟨s,rfl⟩:=Z p y hy;rfl];omega
theorem Kz {a:AN} (D:sX a)(A:Norm a)(h:uS B N a)(hl:N<1000000)(hc:c<a.nc)(up:Bool):∃C,uS C N (a.iD c up):=by
 obtain⟨b,hb⟩:=fW ((({a with iR:=jK a.iR c up}:AN).kZ c 0 []).kZ c 1 []);have U:sX b:=D.same (by rw[<-hb];rfl) (by rw[<-hb];rfl) (by rw[<-hb];rfl);have Q:Norm b:=by rw[<-hb];exact A
 have Y:c<b.nc:=by rw[<-hb];exact hc
 have G:uS B N b:=by
  have w1:=Cy {a with iR:=jK a.iR c up} sw c 0;have M:=Cy (({a with iR:=jK a.iR c up}:AN).kZ c 0 []) sw c 1;have w3:=h.b;rw[hb]at M;have e1:({a with iR:=jK a.iR c up}:AN).W sw=a.W sw:=rfl;refine⟨by rw[<-hb];exact h.r,λx f hx hf y hy=> ?_,?_,h.one,by rw[<-hb];exact h.ms⟩
  ·have H:y∈a.F x f \/y∈([] :List kM):=by
    rw[<-hb]at hy;have Z:y∈(if x=c/\f=1 then []else if x=c/\f=0 then []else a.F x f):=hy;split at Z
    ·exact .inr Z
    ·split at Z
     ·exact .inr Z
     ·exact .inl Z
   rcases H with g|g
   ·exact h.f x f (by rw[<-hb]at hx;exact hx) hf y g
   ·simp at g
  ·have Z:sm (λi=>qx (b.R i)) (fR b.n)=sm (λi=>qx (a.R i)) (fR a.n):=by rw[<-hb];rfl
   omega
 obtain⟨C,J⟩:=Az U Q G hl Y (by decide:0<2) up;unfold AN.iD;rw[hb];exact Az (a:=b.mY c 0 up) (U.same rfl rfl rfl) (qv Q _ _) J hl Y (by decide:1<2) up
theorem mc.own {a b:AN} (h:mc a T S b)(U:sX a)(D:Norm a)(Z:uS B N a)(hl:N<1000000):∃C,uS C (N+8*T.length) b:=by
 have hBl:=Z.b;cases h with
 |lost h=>
  refine⟨B,by rw[h.1];exact Z.r,λc d hc hd x hx=> ?_,?_,Z.one,by rw[h.1];exact Z.ms⟩
  ·obtain⟨m,hm⟩:=h.2 c d;rw[hm]at hx;rw[h.1]at hc;exact Z.f c d hc hd x (cU hx)
  ·have h1:=abb h sw;have e:sm (λi=>qx (b.R i)) (fR b.n)=sm (λi=>qx (a.R i)) (fR a.n):=by rw[h.1]
   show _<=N+0;omega
 |tick i p hi hp=>
  obtain⟨a1,M,H,u,J⟩:=Z.r i hi;obtain⟨C,c1,c2,c3,c4,c5⟩:=Ay a1 M H dU hp J;obtain⟨A,e2⟩:=wJ (D.emp i) p;have qd:((a.R i).iL p).id=(i:Int)+1/\((a.R i).iL p).n=3:=⟨(jx.iL (a.R i) p).id.trans u,(jx.iL (a.R i) p).n.trans J⟩
  have hOp:((a.R i).iL p).O=((iT (a.R i) p).meet p (iA ((a.R i).P p).pe)).O \/(iW ((a.R i).P p).L).1.st≠9:=by
   by_cases h9:(iW ((a.R i).P p).L).1.st=9
   ·left;have jY:((iT (a.R i) p).P p).L.st=9:=by
     unfold iT;rw[kx,ag rfl];rw[rT];exact h9
    rw[kP,ae (by rw[jY];simp),(lq _ _ _).2];rfl
   ·exact .inr h9
  refine⟨C,own_op U Z i hi _ C 8 c1 c5 c2 qd.1 qd.2 c3 (λq x hx=> ?_) ?_⟩
  ·by_cases e:q=p
   ·subst e;rw[e2]at hx;rcases av.1 hx with g|g
    ·obtain⟨s,rfl⟩:=qV g;exact(UC s).2 C
    ·split at g
     ·rename_i h9
      rcases aQ.1 g with g|g
      ·rw[g];intro s e;exact absurd (aB e).1 dX
      ·split at g
       ·obtain⟨y,hy,BZ⟩:=aV.1 g;unfold Cz at BZ;split at BZ
        ·rw[ar.1 BZ];intro s e G;rw[<-(aB e).2];have hK:=c1.tie q y.1 y.2 (by rw[hOp.resolve_right (by rw[h9];simp)];exact wK hy);rw[nh _ _ _ (c1.val _ _ hK)];exact c2 _ _ hK
        ·simp at BZ
       ·simp at g
     ·simp at g
   ·rw[A q e]at hx;simp at hx
  ·have hp3:p=0 \/p=1 \/p=2:=dU;have hs:sm sw (je (((a.R i).iL p).P p))<=8:=by
    rw[e2,pz,zn λx hx=>by obtain⟨s,rfl⟩:=qV hx;rfl];split
    ·have e3:∀(x:kM) l,sm sw (x::l)=sw x+sm sw l:=λ_ _=>rfl;rw[e3];have e4:sw (72::[jO (a.R i).id,jO (iA ((a.R i).P p).pe).who])=2:=rfl;split
     ·have:=N8 (kO (((iT (a.R i) p).meet p (iA ((a.R i).P p).pe)).O p));have:=Af (((iT (a.R i) p).meet p (iA ((a.R i).P p).pe)).O p);omega
     ·have e5:sm sw [] =0:=rfl;omega
    ·have e5:sm sw [] =0:=rfl;omega
   have Q:∀q,q≠p->sm sw (je (((a.R i).iL p).P q))=0:=λq hq=>by rw[A q hq];rfl
   rcases hp3 with rfl|rfl|rfl
   ·rw[Q 1 dX,Q 2 dX];omega
   ·rw[Q 0 dX,Q 2 dX];omega
   ·rw[Q 0 dX,Q 1 dX];omega
 |pop c d x l hc hd hF=>
  obtain⟨hi,hp⟩:=U.en c (1-d) hc dU;have hw:=YG sw hc hd hF;have h1:uS B (N-sw x) (a.kZ c d l):=by
   refine⟨Z.r,λy f hy hf z G=> ?_,?_,Z.one,Z.ms⟩
   ·rw[rU]at G;split at G
    ·rename_i e
     exact Z.f c d hc hd z (by rw[hF];simp[G])
    ·exact Z.f y f hy hf z G
   ·show B+(a.kZ c d l).W sw+sm (λi=>qx (a.R i)) (fR a.n)<=_;omega
  obtain⟨a1,M,H,u,J⟩:=Z.r _ hi;obtain⟨C,c1,c2,c3,c4⟩:=QH a1 M H dU hp x (Z.f c d hc hd x (by rw[hF];simp));obtain⟨t1,t2,t3⟩:=Ky M (a.e c (1-d)).2 x;obtain⟨m1,_⟩:=pK (D.emp (a.e c (1-d)).1) (a.e c (1-d)).2 x;have h2:=own_op (a:=a.kZ c d l) (U.same rfl rfl rfl) h1 _ hi (jD (a.R (a.e c (1-d)).1) (a.e c (1-d)).2 x) C (sw x) c1 t1 c2 (t2.trans u) (t3.trans J) c3 (λq y hy=>(N9 (m1 q)).2 C y hy) (by
   rw[Ic λq y hy=>(N9 (m1 q)).1 y hy];show C+_+0<=B+qx (a.R (a.e c (1-d)).1)+sw x;omega)
  refine⟨C,?_⟩;have e:N-sw x+sw x=N+8*0:=dU;rw[e]at h2;exact h2
 |send i t tx hi _ _ _=>
  obtain⟨a1,M,H,u,J⟩:=Z.r i hi;obtain⟨s1,s2,s3,s4,s5⟩:=mJ (a.R i) (t,8,tx);obtain⟨j,g1,g2⟩:=CA (D.emp i) (t,8,tx);have hq:∀p,∀y∈je (((a.R i).send (t,8,tx)).P p),∃s,y=77::s:=λp y hy=>by
   by_cases e:p=j
   ·subst e;rcases g2 with g|⟨_,g⟩
    ·rw[g]at hy;simp at hy
    ·rw[g]at hy;exact⟨_,ar.1 hy⟩
   ·rw[g1 p e]at hy;simp at hy
  refine⟨B,own_op U Z i hi _ B 0 (Kx a1 _) (M.send _) (H.alike s1) (s3.trans u) (s4.trans J) (Nat.le_refl _) (λp x hx=> ?_) ?_⟩
  ·obtain⟨s,rfl⟩:=hq p x hx;intro t e;exact absurd (aB e).1 dX
  ·rw[Ic λp y hy=>by obtain⟨s,rfl⟩:=hq p y hy;rfl,pA λp=>(s5 p).2.1];omega
 |iD c hc _ _ _=>
  obtain⟨C,h⟩:=Kz U D Z hl hc true;exact⟨C,h.r,h.f,Nat.le_trans h.b (Nat.le_add_right _ _),h.one,h.ms⟩
 |draw c hc _=>exact Kz U D Z hl hc false
 |anew i m hi hd=>
  have qd:(1:Int)<=(i:Int)+1/\(i:Int)+1<=6:=by have:=U.n6;omega
  have hR:∀j,({a with R:=jK a.R i (jE ((i:Int)+1) 3 (a.ms i)),ib:=jK a.ib i ((a.ib i).take m)}:AN).R j=if j=i then jE ((i:Int)+1) 3 (a.ms i)else a.R j:=λj=>rfl
  refine⟨B,λj hj=> ?_,Z.f,?_,Z.one,Z.ms⟩
  ·rw[hR];by_cases e:j=i
   ·subst e;rw[ag rfl];refine⟨⟨λp x q h=>h,λx q h=> ?_,?_⟩,y8 qd (Z.ms j · hi),λx q h=> ?_,rfl,rfl⟩
    ·have Y:(if x=(j:Int)+1 then μ ((1:Int),([] :List jG))else ν)=μ q:=h;split at Y
     ·rename_i e;injection Y with Y;rw[<-Y,e]
      unfold oD;rw[ae dU,ae gO];rfl
     ·exact absurd Y gO
    ·have A:Dp (jE ((j:Int)+1) 3 (a.ms j)).K (jE ((j:Int)+1) 3 (a.ms j)).id=[] :=by
      show(match (if(j:Int)+1=(j:Int)+1 then some ((1:Int),([] :List jG))else none)with|none=>[] |some q=>q.2)=_;rw[ag rfl]
     rw[A];have e2:∀n k,jX (jE ((j:Int)+1) 3 (a.ms j)).P n k=ν:=λn k=>by
      induction k with
      |zero=>rfl
      |succ k ih=>unfold jX;rw[ae (λh=>absurd h.1 (show¬false=true by simp)),ih]
     unfold jC;simp only[e2,Option.map_none];rfl
    ·have Y:(if x=(j:Int)+1 then μ ((1:Int),([] :List jG))else ν)=μ q:=h;split at Y
     ·injection Y with Y;rw[<-Y];have:=Z.one;show(1:Int)<=_;omega
     ·exact absurd Y gO
   ·rw[ae e];exact Z.r j hj
  ·have A:sm (λj=>qx (({a with R:=jK a.R i (jE ((i:Int)+1) 3 (a.ms i)),ib:=jK a.ib i ((a.ib i).take m)}:AN).R j)) (fR a.n)<=sm (λj=>qx (a.R j)) (fR a.n):=uL λj _=>by
    rw[hR];split
    ·exact Nat.zero_le _
    ·exact Nat.le_refl _
   show B+a.W sw+sm (λj=>qx (({a with R:=jK a.R i (jE ((i:Int)+1) 3 (a.ms i)),ib:=jK a.ib i ((a.ib i).take m)}:AN).R j)) (fR a.n)<=N+0;omega
structure n8(w0 w:dR)(N:Nat)(X:Nat->Prop)(n:iI):Prop where
 ex:∃y,ju w y n/\y.N=N/\(∀b,y.all n.n b->w0.heap.size<=b)/\∀b,y.ext b↔X b
 ny:eh w0 w
theorem n8.UD(h:Qk w many L X e w')(Q:ng many L=0)(hb:eh w0 w):∃N,e=ρ (τ #[π (μ ⟨N,0,ν⟩),η])/\n8 w0 w' N X (jH many.toNat L):=by
 obtain⟨_,Z,U⟩:=h;obtain⟨y,Y,M,H,hx⟩:=Z Q;exact⟨y.N,Y,⟨y,M,rfl,λb J=>Nat.le_trans hb.size (H b J),hx⟩,fY hb U⟩
theorem n8.abh(h:Qk w many L X e w')(Z:ng many L≠0)(hb:eh w0 w):e=ρ (τ #[π ν,jb (ng many L)])/\eh w0 w':=by
 obtain⟨Y,_,U⟩:=h;exact⟨Y Z,fY hb U⟩
theorem n8.still {n:iI} (h:n8 w0 w N X n)(hb:eh w w'):n8 w0 w' N X n:=by
 obtain⟨⟨y,Y,Z,Q,hx⟩,U⟩:=h;exact⟨⟨y,Y.below hb,Z,Q,hx⟩,fY U hb⟩
theorem n8.tab {n:iI} (h:n8 w0 w N X n)(Z:iV w0):iV w:=Z.below h.ny
theorem n8.went {W:dR} {y:Yt} {n n':iI} (Q:ju W y n)(M:∀b,y.all n.n b->w0.heap.size<=b)(hx:∀b,y.ext b↔X b)(hb:eh w0 W)(A:n'.n=n.n)(h:iy W w' y n' n.n):
 n8 w0 w' y.N X n'/\∀b,X b->w'.heap[b]? =W.heap[b]? :=by
 obtain⟨⟨y',D,hs,u,J⟩,Y⟩:=h;have H:∀b,X b->b<W.heap.size:=λb Z=>Q.lt (.inr ((hx b).2 Z));have U:∀b,X b->¬y.all n.n b:=λb Z e=>by
  rcases e with e|⟨j,G,e⟩
  ·exact Q.nx b ((hx b).2 Z) e
  ·exact Q.JR G (.inr (.inl ((hx b).2 Z))) e
 refine⟨⟨⟨y',D,hs.N,λb Z=> ?_,λb=>(J b).trans (hx b)⟩,?_⟩,λb Z=>Y.block b (H b Z) (U b Z)⟩
 ·rw[A]at Z;rcases u b Z with e|e
  ·exact M b e
  ·exact Nat.le_trans hb.size e
 ·refine⟨Y.os.trans hb.os,Y.tape.trans hb.tape,Y.output.trans hb.output,Nat.le_trans hb.size Y.size,λb Z=> ?_⟩;refine(Y.block b (Nat.lt_of_lt_of_le Z hb.size) (λe=> ?_)).trans (hb.block b Z);have:=M b e;omega
theorem n8.call {W:dR} {n n':iI} {f:FuncId} {args:Array Value} {E:Ending->Prop} (h:n8 w0 W N X n)(J:n'.n=n.n)
 (k:∀y,ju W y n->y.N=N->eT eU f args W λe w'=>E e/\iy W w' y n' n.n):eT eU f args W λe w'=>E e/\n8 w0 w' N X n'/\∀b,X b->w'.heap[b]? =W.heap[b]? :=by
 obtain⟨⟨y,Y,Z,Q,hx⟩,hb⟩:=h;refine(k y Y Z).mono ?_;rintro e w' ⟨U,M⟩;have:=n8.went Y Q hx hb J M;rw[Z]at this;exact⟨U,this⟩
def iI.rounds(y:iI):Nat->iI
 |0=>y
 |k+1=>(y.rounds k).round
def Vx:List oR:=[⟨1,0,2,0,3⟩]
def MQ:iI:=((jH 2 Vx).iD 0 true).1
theorem Xj:pj ((MQ.rounds 6).R 1)=[⟨1,3,1⟩] :=gL
theorem Xk:((jH 2 Vx).iD 0 true).2=0:=gL
theorem MR:ng 2 Vx=0:=gL
theorem KA(y:iI):∀k,(y.rounds k).n=y.n
 |0=>rfl
 |k+1=>(kr (y.rounds k)).1.trans (KA y k)
theorem AA {y:iI} {D:Nat} (h:jT y D 0)(Z:D<=100000000):∀k,k<=100->jT (y.rounds k) (D+1300000*k) 0
 |0,_=>h
 |k+1,hk=>((AA h Z k dU).round dU).mono dU (Nat.le_refl _)
theorem YI:jT MQ 2 0:=(ze (uy MR)).iD dU 0 true
theorem QI(w:dR)(hT:iV w):eT eU 42 #[] w λe w'=>e=ρ (.bool true)/\eh w w':=by
 obtain⟨W0,A⟩:=fW (w.alloc (γ #[ι κ 1,ι κ 0,ι κ 2,ι κ 0,ι κ 3] 81));have hb:=gN w (γ #[ι κ 1,ι κ 0,ι κ 2,ι κ 0,ι κ 3] 81);have hc:=λj=>aj w #[ι κ 1,ι κ 0,ι κ 2,ι κ 0,ι κ 3] 81 (0,0) j;rw[A]at hb;rw[A]at hc;have hL:B1 W0 (μ ⟨w.heap.size,0,ν⟩) Vx:=λj D=>by
  obtain rfl:j=0:=by simp[Vx]at D;exact D
  exact⟨w.heap.size,0,rfl,hc 0,hc 1,hc 2,hc 3,hc 4⟩
 have iZ:eT eU 36 #[ι κ 2,σ (μ ⟨w.heap.size,0,ν⟩) 1 1] W0 λe w'=>∃N,e=ρ (τ #[π (μ ⟨N,0,ν⟩),η])/\n8 w w' N (λ_=>False) (jH 2 Vx):=by
  refine(N1 2 (μ ⟨w.heap.size,0,ν⟩) 1 Vx W0 hL dX (iV.below (w:=w) hT hb) (λ_=>False) (λb qU=>qU.elim)).mono ?_;rintro e w' h;exact n8.UD h MR hb
 have Ob:∀W N,n8 w W N (λ_=>False) (jH 2 Vx)->eT eU 57 #[π (μ ⟨N,0,ν⟩),ι κ 0,.bool true] W λe w'=>e=ρ η/\n8 w w' N (λ_=>False) (MQ.rounds 0):=by
  intro W N hA;refine(hA.call (E:=λe=>e=ρ η) (n':=MQ) rfl λy Y M=> ?_).mono (λe w' h=>⟨h.1,h.2.1⟩);rw[<-M];refine(Ka y (jH 2 Vx) 0 0 true W Y (hA.tab hT) (ze (uy MR)) dU).mono ?_;rintro e w' ⟨rfl,hw⟩;rw[Xk];exact⟨rfl,hw⟩
 have Er:∀W N k,k<6->n8 w W N (λ_=>False) (MQ.rounds k)->eT eU 54 #[π (μ ⟨N,0,ν⟩)] W λe w'=>e=ρ (τ #[])/\n8 w w' N (λ_=>False) (MQ.rounds (k+1)):=by
  intro W N k hk hA;refine(hA.call (E:=λe=>e=ρ (τ #[])) (n':=MQ.rounds (k+1)) (kr (MQ.rounds k)).1 λy Y M=> ?_).mono (λe w' h=>⟨h.1,h.2.1⟩);rw[<-M];exact Am y (MQ.rounds k) (2+1300000*k) W Y (hA.tab hT) (AA YI dU k dU) dU
 have Ie:∀W N,n8 w W N (λ_=>False) (MQ.rounds 6)->eT eU 40 #[π (μ ⟨N,0,ν⟩),ι κ 2] W λe w'=>∃R,e=ρ (τ #[π (μ ⟨R,0,ν⟩),η])/\eh w w'/\eT eU 64 #[π (μ ⟨R,0,ν⟩)] w' λe G=>∃b c,e=ρ (σ b 1 c)/\Sh G b 1 [⟨1,3,1⟩] /\eh w G:=by
  intro W N hA;obtain⟨⟨y,Y,M,ha,hx⟩,iG⟩:=hA;rw[<-M];have hn:(MQ.rounds 6).n=2:=KA MQ 6;refine(xY y (MQ.rounds 6) 1 W Y (by rw[hn];decide)).mono ?_;rintro e w' ⟨rfl,rfl⟩;refine⟨(y.z 1).R,rfl,iG,?_⟩;have iF:=(AA YI dU 6 dU).ok 1 (by rw[hn];decide);refine(F8 (y.z 1) ((MQ.rounds 6).R 1) W (Y.rt 1 (by rw[hn];decide)) iF.Pr).mono ?_;rintro e G ⟨b,c,rfl,⟨Z,_⟩,lN⟩;rw[Xj]at Z⊢;exact⟨b,c,rfl,Z,fY iG lN⟩
 have kf:∀W b c W2,eh w W->Sh W b 1 [⟨1,3,1⟩]->W2=W.alloc (γ #[ι κ 1,ι κ 3,ι κ 1] 98)->eT eU 46 #[σ b 1 c,σ (μ ⟨W.heap.size,0,ν⟩) 1 1] W2 λe w'=>e=ρ (.bool true)/\eh w w':=by
  rintro W b c W2 hbW Z rfl;have lN:=gN W (γ #[ι κ 1,ι κ 3,ι κ 1] 98);have FD:=λj=>aj W #[ι κ 1,ι κ 3,ι κ 1] 98 (0,0) j;refine(He b (μ ⟨W.heap.size,0,ν⟩) 1 c 1 [⟨1,3,1⟩] _ (Z.below lN) ⟨rfl,.inr ⟨W.heap.size,0,rfl,λj h D=> ?_⟩⟩ dU).mono ?_
  ·obtain⟨l,v⟩:=aI.1 D;obtain rfl:j=0:=by simp at l;exact l
   obtain rfl:_=h:=v;exact⟨FD 0,FD 1,FD 2⟩
  ·rintro e w' ⟨rfl,qO⟩;exact⟨rfl,fY hbW (fY lN qO)⟩
 have Cq:Hid _:=A;have HR:Hid _:=Er;obtain⟨Q,hQ⟩:∃Q:Nat->iI,Q=MQ.rounds:=⟨_,rfl⟩
 clear A hb hc hL Er;rw[<-hQ]at Ob HR Ie;generalize jH 2 Vx=z0 at iZ Ob;clear hQ
 go_in
 go_wp2_with(fail)
 try rw[Cq.out]
 go_wp2_with(fail);refine iZ.mono ?_;rintro e w1 ⟨N,rfl,hA⟩;have h1:=Ob w1 N hA;clear iZ Ob hA;go_wp2_with(fail);refine h1.mono ?_;rintro e G ⟨rfl,hA⟩;have HA:Hid _:=hA;clear h1 hA
 go_wp2
 go_loopw [3] (λx wr=>∃k:Nat,k<=6/\x=ι κ k/\n8 w wr N (λ_=>False) (Q k)) (λx _=>6-(eV x).toNat)
 case atStart=>exact⟨0,Nat.zero_le _,rfl,HA.out⟩
 case round=>
  obtain⟨k,hk,rfl,u⟩:=hrel;obtain⟨V,rfl⟩:∃V,V=wr:=⟨_,rfl⟩
  by_cases ka:k<6
  ·have m8:(k:Int)<6:=dU;have H:=HR.out V N k ka u;clear u;go_wp2_with(fail);refine H.mono ?_;rintro e w3 ⟨rfl,hA3⟩;have HA3:Hid _:=hA3;clear H hA3
   go_wp2
   go_roundw
   case rel=>exact⟨k+1,dU,by go_num,HA3.out⟩
   case measure=>simp[eV];omega
  ·have yt:¬(k:Int)<6:=dU;obtain rfl:k=6:=dU;have H:=Ie V N u;clear u Ie;go_wp2_with(fail);refine H.mono ?_;rintro e w3 ⟨R,rfl,qO,hh⟩;have KX:Hid _:=qO;clear H qO;go_wp2_with(fail);refine hh.mono ?_;rintro e w4 ⟨b,c,rfl,Z,U⟩;obtain⟨W5,KZ⟩:∃W5,W5=w4.alloc (γ #[ι κ 1,ι κ 3,ι κ 1] 98):=⟨_,rfl⟩
   have hs:=kf w4 b c W5 U Z KZ;have HW5:Hid _:=KZ.symm;clear hh Z U kf KZ;go_wp2_with(fail)
   try rw[HW5.out]
   go_wp2_with(fail);refine hs.mono ?_;rintro e w6 ⟨rfl,J⟩;have HB6:Hid _:=J;clear hs J
   go_wp2
   go_ret;exact⟨rfl,HB6.out⟩
theorem B3(a:Option Addr)(n cap:Nat)(w:dR)(_hn:n<=maxLen):eT eU 35 #[σ a n cap] w λe w'=>e=ρ (.bool (decide (n<=12)))/\w=w':=by
 by_cases h:n<=12
 ·have Z:(n:Int)<=12:=dU
  go_in
  go_wp2
  go_ret;exact⟨by simp[h],rfl⟩
 ·have Z:¬(n:Int)<=12:=dU
  go_in
  go_wp2
  go_ret;exact⟨gO,rfl⟩
structure ai1(W:dR)(N m nc:Nat)(Rp:Nat->Nat)(st:Nat->Nat->Int)(pe:Nat->Nat->kN)(on:Nat->Nat->Nat):Prop where
 Aa:∀k:Nat,k<m->∀w,eh W w->eT eU 40 #[π (μ ⟨N,0,ν⟩),ι κ ((k:Int)+1)] w λe w'=>e=ρ (τ #[π (μ ⟨Rp k,0,ν⟩),η])/\w=w'
 link:∀k p:Nat,k<m->p<3->∀w,eh W w->eT eU 60 #[π (μ ⟨Rp k,0,ν⟩),ι κ (p:Int)] w λe w'=>e=ρ (τ #[ι κ (st k p),η])/\w=w'
 peer:∀k p:Nat,k<m->p<3->∀w,eh W w->eT eU 61 #[π (μ ⟨Rp k,0,ν⟩),.int .i64 (p:Int)] w λe w'=>e=ρ (τ #[.agg #[.int .i64 (pe k p).who,.bool (pe k p).both,.int .i64 (pe k p).left],η])/\eh w w'
 on:∀c d:Nat,c<nc->d<2->∀w,eh W w->eT eU 41 #[π (μ ⟨N,0,ν⟩),ι κ (c:Int),ι κ (d:Int)] w λe w'=>e=ρ (τ #[ι κ (on c d:Nat),η])/\w=w'
theorem n8.look {W:dR} {n:iI} (h:n8 w0 W N X n):∃M,ai1 W N n.n n.nc M (λi p=>((n.R i).P p).L.st) (λi p=>((n.R i).P p).pe) (λc d=>((n.C c).on d).length):=by
 obtain⟨⟨y,Y,rfl,_,_⟩,_⟩:=h;refine⟨λi=>(y.z i).R,⟨λk Z w hb=>xY y n k w (Y.below hb) Z,λk p Z Q w hb=> ?_,λk p Z Q w hb=> ?_,λc d hc hd w hb=>aaj y n c d w (Y.below hb) hc hd⟩⟩
 ·have U:=(Y.below hb).rt k Z;exact Tm (y.z k) (n.R k) p w U (by rw[(Y.rn k Z).1];exact Q)
 ·have U:=(Y.below hb).rt k Z;exact Tn (y.z k) (n.R k) p w U (by rw[(Y.rn k Z).1];exact Q)
def uM(w0:dR)(N:Nat)(X:Nat->Prop)(m nc i:Nat)(n:iI)(w:dR):Prop:=n8 w0 w N X n/\GN n/\jT n (1300000*i) 0/\n.n=m/\n.nc=nc
theorem uM.act {w0:dR} {N:Nat} {X:Nat->Prop} {m nc i:Nat} {n:iI} {W:dR} (h:uM w0 N X m nc i n W)(J:iV w0)(hi:i<=300)(v:AV):
 eT eU 59 #[π (μ ⟨N,0,ν⟩),.agg #[.string v.kind,ι κ v.a,ι κ v.b,ι κ v.c,ι κ v.d,.string v.s,ι κ v.Nr,ι κ v.pid,σ v.po v.pn v.CZ,ι κ v.x.own,ι κ v.x.seq,σ v.x.a v.x.n v.x.cap]] W λe w'=>e=ρ (τ #[])/\uM w0 N X m nc (i+1) (sg n v) w'/\∀b,X b->w'.heap[b]? =W.heap[b]? :=by
 obtain⟨hA,Q,Z,A,hc⟩:=h;obtain⟨s1,G,_,_⟩:=Qn n v;refine(hA.call (E:=λe=>e=ρ (τ #[])) (n':=sg n v) s1 λy D H=> ?_).mono ?_
 ·rw[<-H];exact Ci y n (1300000*i) v W D (hA.tab J) Z dU
 ·rintro e w' ⟨U,Y,M⟩;exact⟨U,⟨Y,(Q.act Z dU v).1,(Z.act dU v).mono dU (Nat.le_refl _),s1.trans A,G.trans hc⟩,M⟩
theorem uM.new(h:Qk w many L X e w')(Z:ng many L=0)(hb:eh w0 w):∃N,e=ρ (τ #[π (μ ⟨N,0,ν⟩),η])/\uM w0 N X many.toNat L.length 0 (jH many.toNat L) w':=by
 obtain⟨N,Y,hA⟩:=n8.UD h Z hb;exact⟨N,Y,hA,Ea _ _,ze (uy Z),rfl,rfl⟩
def pW(y:iI)(V:Nat->AV):Nat->iI
 |0=>y
 |k+1=>sg (pW y V k) (V k)
theorem n8.write {W:dR} {n:iI} (h:n8 w0 W N X n)(hs:W.heap.size<=W'.heap.size)(U:∀k,k<W.heap.size->¬X k->W'.heap[k]? =W.heap[k]?)(D:∀k,X k->w0.heap.size<=k)
 (J:W'.os=W.os) (ht:W'.tape=W.tape) (hu:W'.output=W.output) (Z:Nat->Prop) (G:∀k,Z k->W.heap.size<=k/\k<W'.heap.size):n8 w0 W' N (λb=>X b \/Z b) n:=by
 obtain⟨⟨y,j,hN,ha,hx⟩,hb⟩:=h;obtain⟨y',u,H,ha',M⟩:=j.beside hs (λk A Q=>U k A (λe=>Q ((hx k).2 e))) Z G;refine⟨⟨y',u,H.N.trans hN,λb Y=>ha b ((ha' b).1 Y),λb=> ?_⟩,J.trans hb.os,ht.trans hb.tape,hu.trans hb.output,Nat.le_trans hb.size hs,λb Y=> ?_⟩
 ·rw[M b,hx b]
 ·refine(U b (Nat.lt_of_lt_of_le Y hb.size) (λe=> ?_)).trans (hb.block b Y);have:=D b e;omega
theorem n8.UE {W:dR} {Y:Nat->Prop} {n:iI} (h:n8 w0 W N X n)(e:∀b,X b↔Y b):n8 w0 W N Y n:=by
 obtain⟨⟨y,Q,Z,U,hx⟩,hb⟩:=h;exact⟨⟨y,Q,Z,U,λb=>(hx b).trans (e b)⟩,hb⟩
structure oy(w:dR)(N g m:Nat)(L:List oR)(V:Nat->AV)(i j:Nat)(W:dR):Prop where
 g0:w.heap.size<=g
 at_:uM w N (λb=>b=g) m L.length i (pW (jH m L) V i) W
 row:pP W g 0 L.length (λk=>.bool ((pW (jH m L) V j).C k).iR)
def nJ(m:Nat):Array Value:=Array.replicate m (.bool false)
theorem aeD(W:dR):(gQ 87 (ι κ 0) (ι κ 0)).run eU W=.ok (σ (μ ⟨W.heap.size,0,ν⟩) 0 0) (W.alloc (γ (nJ 0) 4)):=gL
theorem aeE(W:dR):(gQ 87 (ι κ 1) (ι κ 1)).run eU W=.ok (σ (μ ⟨W.heap.size,0,ν⟩) 1 1) (W.alloc (γ (nJ 1) 4)):=gL
theorem aeF(W:dR):(gQ 87 (ι κ 2) (ι κ 2)).run eU W=.ok (σ (μ ⟨W.heap.size,0,ν⟩) 2 2) (W.alloc (γ (nJ 2) 4)):=gL
theorem aeG(W:dR):(gQ 87 (ι κ 3) (ι κ 3)).run eU W=.ok (σ (μ ⟨W.heap.size,0,ν⟩) 3 3) (W.alloc (γ (nJ 3) 4)):=gL
theorem aeH(W:dR):(gQ 87 (ι κ 4) (ι κ 4)).run eU W=.ok (σ (μ ⟨W.heap.size,0,ν⟩) 4 4) (W.alloc (γ (nJ 4) 4)):=gL
theorem aeI(W:dR):(gQ 87 (ι κ 5) (ι κ 5)).run eU W=.ok (σ (μ ⟨W.heap.size,0,ν⟩) 5 5) (W.alloc (γ (nJ 5) 4)):=gL
theorem aeJ(W:dR):(gQ 87 (ι κ 6) (ι κ 6)).run eU W=.ok (σ (μ ⟨W.heap.size,0,ν⟩) 6 6) (W.alloc (γ (nJ 6) 4)):=gL
theorem aeK(W:dR):(gQ 87 (ι κ 7) (ι κ 7)).run eU W=.ok (σ (μ ⟨W.heap.size,0,ν⟩) 7 7) (W.alloc (γ (nJ 7) 4)):=gL
theorem aeL(W:dR):(gQ 87 (ι κ 8) (ι κ 8)).run eU W=.ok (σ (μ ⟨W.heap.size,0,ν⟩) 8 8) (W.alloc (γ (nJ 8) 4)):=gL
theorem aeM(W:dR):(gQ 87 (ι κ 9) (ι κ 9)).run eU W=.ok (σ (μ ⟨W.heap.size,0,ν⟩) 9 9) (W.alloc (γ (nJ 9) 4)):=gL
theorem ai2(p:Nat)(hp:p<=9)(W:dR):(gQ 87 (ι κ (p:Int)) (ι κ (p:Int))).run eU W=.ok (σ (μ ⟨W.heap.size,0,ν⟩) p p) (W.alloc (γ (nJ p) 4)):=by
 have:p=0 \/p=1 \/p=2 \/p=3 \/p=4 \/p=5 \/p=6 \/p=7 \/p=8 \/p=9:=dU;rcases this with rfl|rfl|rfl|rfl|rfl|rfl|rfl|rfl|rfl|rfl
 ·exact aeD W
 ·exact aeE W
 ·exact aeF W
 ·exact aeG W
 ·exact aeH W
 ·exact aeI W
 ·exact aeJ W
 ·exact aeK W
 ·exact aeL W
 ·exact aeM W
theorem oy.new {w W:dR} {N m:Nat} {L:List oR} {V:Nat->AV} (h:uM w N (λ_=>False) m L.length 0 (jH m L) W):oy w N W.heap.size m L V 0 0 (W.alloc (γ (nJ L.length) 4)):=by
 obtain⟨hA,Y,U,J,hc⟩:=h;refine⟨hA.ny.size,⟨?_,Y,U,J,hc⟩,?_⟩
 ·refine(n8.write hA (W':=W.alloc (γ (nJ L.length) 4)) gO (λk M _=>aT _ _ _ M) (λk e=>e.elim) rfl rfl rfl (λb=>b=W.heap.size) (λk e=>by subst e;simp)).UE (λb=>gO)
 ·have Z:jc (W.alloc (γ (nJ L.length) 4)) W.heap.size (nJ L.length) 4:=jc.new W _ _;intro j Q;have e:(nJ L.length)[j]? =μ (.bool false):=by simp[nJ,Q]
  refine⟨?_,?_⟩
  ·rw[Nat.zero_add,Z.cell j,e];rfl
  ·rw[Nat.zero_add];exact Z.frozen j
theorem oy.act {w:dR} {N g m:Nat} {L:List oR} {V:Nat->AV} {i:Nat} {W:dR} (h:oy w N g m L V i i W)(Q:iV w)(hi:i<=100):
 eT eU 59 #[π (μ ⟨N,0,ν⟩),.agg #[.string (V i).kind,ι κ (V i).a,ι κ (V i).b,ι κ (V i).c,ι κ (V i).d,.string (V i).s,ι κ (V i).Nr,ι κ (V i).pid,σ (V i).po (V i).pn (V i).CZ,ι κ (V i).x.own,ι κ (V i).x.seq,σ (V i).x.a (V i).x.n (V i).x.cap]] W λe w'=>e=ρ (τ #[])/\oy w N g m L V (i+1) i w':=by
 refine(h.at_.act Q dU (V i)).mono ?_;rintro e w' ⟨Z,Y,U⟩;exact⟨Z,h.g0,Y,h.row.keep (U g rfl)⟩
theorem oy.iR {w:dR} {N g m:Nat} {L:List oR} {V:Nat->AV} {i:Nat} {W:dR} (h:oy w N g m L V i i W)(hi:i<=100)(k:Nat)(Z:k<L.length):
 ((pW (jH m L) V (i+1)).C k).iR=if Ar (V i)=true/\(k:Int)=(V i).a then(V i).b==1 else((pW (jH m L) V i).C k).iR:=by
 obtain⟨_,Y,U,_,hc⟩:=h.at_;exact(Y.act U dU (V i)).2 k (by rw[hc];exact Z)
theorem oy.same {W:dR} (h:oy w N g m L V (i+1) i W)(Z:∀k,k<L.length->((pW (jH m L) V (i+1)).C k).iR=((pW (jH m L) V i).C k).iR)(U:g<W.heap.size)(hb:eh W W'):oy w N g m L V (i+1) (i+1) W':=by
 obtain⟨hA,Y,Q,J,hc⟩:=h.at_;exact⟨h.g0,⟨hA.still hb,Y,Q,J,hc⟩,(h.row.congr (λk M=>by show ia _=ia _;rw[Z k M])).keep (hb.block g U)⟩
theorem oy.gl {j:Nat} {W:dR} (h:oy w N g m L V i j W):g<W.heap.size:=by
 obtain⟨⟨⟨y,Z,_,_,hx⟩,_⟩,_⟩:=h.at_;exact Z.lt (.inr ((hx g).2 rfl))
theorem oy.set {w:dR} {N g m:Nat} {L:List oR} {V:Nat->AV} {i k:Nat} {W W1:dR} {b:Bool} (h:oy w N g m L V (i+1) i W)(H:k<L.length)
 (Y:∀x,x<L.length->((pW (jH m L) V (i+1)).C x).iR=if x=k then b else((pW (jH m L) V i).C x).iR) (hb:eh W W1):oy w N g m L V (i+1) (i+1) (W1.setCell ⟨g,k,ν⟩ (.bool b)):=by
 have M:=h.gl;obtain⟨hA,Q,J,G,hc⟩:=h.at_;have hA1:=hA.still hb;refine⟨h.g0,⟨?_,Q,J,G,hc⟩,?_⟩
 ·refine(n8.write hA1 (W':=W1.setCell ⟨g,k,ν⟩ (.bool b)) gO (λx _ U=>aq _ _ _ x (λe=>U e)) (λx e=>by rw[e];exact h.g0) rfl rfl rfl (λ_=>False) (λ_ e=>e.elim)).UE (λb=>gO)
 ·have Z:=((h.row.keep (hb.block g M)).set k H (.bool b))
  rw[Nat.zero_add]at Z;refine Z.congr (λx hx=> ?_);show r9 _ k (.bool b) x=ia _;rw[Y x hx];by_cases e:x=k
  ·rw[e,ph,ag rfl]
  ·rw[jz _ _ e,ae e]
def YJ(w:dR)(many:Int)(L:List oR)(n2:Nat)(V:Nat->AV)(e:Ending)(w':dR):Prop:=
 (e=ρ (τ #[π ν,σ ν 0 0,.bool false])/\eh w w') \/
 (ng many L=0/\n2<=40/\∃N g,e=ρ (τ #[π (μ ⟨N,0,ν⟩),σ (μ ⟨g,0,ν⟩) L.length L.length,.bool true])/\oy w N g many.toNat L V n2 n2 w')
theorem oy.ny {w:dR} {N g m:Nat} {L:List oR} {V:Nat->AV} {i j:Nat} {W:dR} (h:oy w N g m L V i j W):eh w W:=h.at_.1.ny
theorem MS(many:Int)(a:Option Addr)(n cap:Nat)(L:List oR)(a2:Option Addr)(Z cap2:Nat)(V:Nat->AV)(E:Nat->List jG)(w:dR)(hL:B1 w a L)(hl:L.length=n)(hn:n<=maxLen)(hA:C2 w a2 Z V E)(hT:iV w):
 eT eU 43 #[ι κ many,σ a n cap,σ a2 Z cap2] w λe w'=>YJ w many L Z V e w':=by
 have Y:=B3 a n cap w hn;have D:eT eU 16 #[σ a2 Z cap2,ι κ 40] w λe w'=>(∃b:Bool,e=ρ (.bool b)/\(b=true->Z<=40))/\eh w w':=by
  refine(EO a2 Z cap2 V E 40 w hA dU).mono ?_;rintro e w' ⟨⟨b,y,j7⟩,lN⟩;exact⟨⟨b,y,λhx=>by have:=(j7 hx).1;omega⟩,lN⟩
 have iZ:∀W,n<=12->eh w W->eT eU 36 #[ι κ many,σ a n cap] W λe w'=>Qk W many L (λ_=>False) e w':=by
  intro W Q hb;rw[<-hl];exact N1 many a cap L W (hL.below hb) dU (iV.below (w:=w) hT hb) (λ_=>False) (λb qU=>qU.elim)
 have HA:Hid _:=hA;have HT:Hid (iV w):=hT;have G:Hid _:=hl;clear hL hA hT hl;by_cases Q:n<=12
 case neg=>
  have hd:decide (n<=12)=false:=by simpa using Q
  rw[hd]at Y
  go_in
  go_wp2_with(fail);refine Y.mono ?_;rintro e w2 ⟨rfl,rfl⟩;clear Y D iZ;go_wp2_with(fail);refine aE (v:=τ #[π ν,σ ν 0 0,.bool false]) (by simp[results,ic,go_sem]) rfl ?_;exact .inl ⟨rfl,au _ _⟩
 case pos=>
  have hd:decide (n<=12)=true:=by simpa using Q
  rw[hd]at Y
  go_in
  go_wp2_with(fail);refine Y.mono ?_;rintro e w2 ⟨rfl,rfl⟩;clear Y;go_wp2_with(fail);refine D.mono ?_;rintro e w2 ⟨⟨b,rfl,aeN⟩,lN⟩;have rZ:=iZ w2 Q lN;have FA:Hid _:=lN;have ai3:Hid _:=aeN;clear D iZ lN aeN;cases b
  case false=>
   go_wp2_with(fail);refine aE (v:=τ #[π ν,σ ν 0 0,.bool false]) (by simp[results,ic,go_sem]) rfl ?_;exact .inl ⟨rfl,FA.out⟩
  case true=>
   have h40:Z<=40:=ai3.out rfl;go_wp2_with(fail);refine rZ.mono ?_;rintro e w3 hP;clear rZ;by_cases J:ng many L=0
   case neg=>
    obtain⟨rfl,qO⟩:=n8.abh hP J FA.out;have KX:Hid _:=qO;have y:jb (ng many L)=.iface 128 (ι κ ((ng many L:Nat):Int)):=RN J;rw[y];clear hP qO J y;go_wp2_with(fail);refine aE (v:=τ #[π ν,σ ν 0 0,.bool false]) (by simp[results,ic,go_sem]) rfl ?_;exact .inl ⟨rfl,KX.out⟩
   case pos=>
    obtain⟨N,rfl,A⟩:=uM.new hP J FA.out;have hm:=(uy J).m;have hl9:=(uy J).l;obtain⟨m,rfl⟩:∃m:Nat,many=(m:Int):=⟨many.toNat,dU⟩
    rw[Int.toNat_natCast]at A;have ZA:=oy.new (V:=V) A;rw[G.out]at hl9;have XM:=ai2 n hl9;obtain⟨w4,NW⟩:=fW (w3.alloc (γ (nJ n) 4));obtain⟨g,hg⟩:=fW (w3.heap.size);rw[G.out,NW,hg]at ZA;have JX:Hid _:=NW;have HG:Hid _:=hg;have Yv:Hid _:=ZA;have H0:Hid _:=J;clear hP J A ZA NW hg;go_wp2_with(fail)
    try rw[JX.out]
    try rw[HG.out]
    go_wp2
    go_loopw [12] (λx wr=>∃i:Nat,i<=Z/\x=ι κ i/\oy w N g m L V i i wr) (λx _=>Z-(eV x).toNat)
    case atStart=>exact⟨0,Nat.zero_le _,rfl,Yv.out⟩
    case round=>
     obtain⟨i,hi,rfl,j⟩:=hrel;obtain⟨V0,rfl⟩:∃V0,V0=wr:=⟨_,rfl⟩
     by_cases ka:i<Z
     case neg=>
      have yt:¬(i:Int)<(Z:Int):=dU;obtain rfl:i=Z:=dU;have HR:Hid _:=j;clear j;go_wp2_with(fail);refine aE (v:=τ #[π (μ ⟨N,0,ν⟩),σ (μ ⟨g,0,ν⟩) n n,.bool true]) (by simp[results,ic,go_sem]) rfl ?_;refine .inr ⟨H0.out,h40,N,g,?_,?_⟩
      ·rw[G.out]
      ·exact HR.out
     case pos=>
      have m8:(i:Int)<(Z:Int):=dU;rcases HA.out.row with h1|⟨b,off,rfl,iQ⟩
      ·omega
      have V8:=iQ i ka;have hv:=V8.below j.ny;have HV:Hid (∀W,eh w W->(V i).at_ W b (off+i*12)):=λW hb=>V8.below hb;have Xm:=j.act HT.out dU;have HI:Hid (∀k,k<L.length->((pW (jH m L) V (i+1)).C k).iR=if Ar (V i)=true/\(k:Int)=(V i).a then(V i).b==1 else((pW (jH m L) V i).C k).iR):=j.iR dU;clear iQ j V8;generalize V i=v at hv Xm HV HI;obtain⟨vk,u,vb,vc,vd,vs,XY,XZ,X2,Ve,AP,⟨xo,xq,xa,xn,xc⟩⟩:=v;obtain⟨c0,c1,c2,c3,c4,c5,c6,c7,c8,c9,Sc,VM⟩:=hv;simp only at c0 c1 c2 c3 c4 c5 c6 c7 c8 c9 Sc VM Xm;have gl:=af _ _ c0;have ge:off+i*12+0=off+i*12:=rfl;go_wp2_with(fail);refine Xm.mono ?_;rintro e H ⟨rfl,U⟩;have YK:=U.ny;obtain⟨d0,d1,d2,_⟩:=HV.out H YK;simp only at d0 d1 d2;have gl5:=af _ _ d0;have M:Hid _:=U;have HS:Hid ((∀k,k<L.length->((pW (jH m L) V (i+1)).C k).iR=((pW (jH m L) V i).C k).iR)->oy w N g m L V (i+1) (i+1) H):=λy=>U.same y U.gl (au _ _);clear Xm c0 c1 c2 c3 c4 c5 c6 c7 c8 c9 Sc VM gl U YK;cases k1:(vk.toList==[112,108,117,103])
      case false=>
       go_wp2
       go_roundw
       case rel=>
        refine⟨i+1,dU,by go_num,HS.out λk hk=> ?_⟩;rw[HI.out k hk,ae (λe=>by have e1:(vk.toList==[112,108,117,103])=true:=e.1;rw[k1]at e1;cases e1)]
       case measure=>simp[eV];omega
      case true=>
       by_cases ha0:0<=u
       case neg=>
        go_wp2
        go_roundw
        case rel=>
         refine⟨i+1,dU,by go_num,HS.out λk hk=> ?_⟩;rw[HI.out k hk,ae (λe=>by have e1:(k:Int)=u:=e.2;omega)]
        case measure=>simp[eV];omega
       case pos=>
        by_cases han:u<(n:Int)
        case neg=>
         go_wp2
         go_roundw
         case rel=>
          refine⟨i+1,dU,by go_num,HS.out λk hk=> ?_⟩;have hln:=G.out;rw[HI.out k hk,ae (λe=>by have e1:(k:Int)=u:=e.2;omega)]
         case measure=>simp[eV];omega
        case pos=>
         obtain⟨k,rfl⟩:∃k:Nat,u=(k:Int):=⟨u.toNat,dU⟩
         have Cg:k<n:=dU;have Nk:=M.out.gl;have hcell:=M.out.row.cell k (by rw[G.out];exact Cg);have QZ:=M.out.row.fz k (by rw[G.out];exact Cg);rw[Nat.zero_add]at hcell QZ;have Vu:Hid (oy w N g m L V (i+1) (i+1) (H.drew.setCell ⟨g,k,ν⟩ (.bool (vb==1)))):=by
          refine M.out.set (by rw[G.out];exact Cg) (λx hx=> ?_) (iP H);rw[HI.out x hx];by_cases e:x=k
          ·rw[ag ⟨k1,by show(x:Int)=(k:Int);rw[e]⟩,ag e]
          ·rw[ae (λh=>e (by have h2:(x:Int)=(k:Int):=h.2;omega)),ae e]
         generalize ((pW (jH m L) V i).C k).iR=old at hcell;have F0:H.drew.cell? ⟨b,off+i*12,ν⟩=μ (.string vk)/\H.drew.cell? ⟨b,off+i*12+1,ν⟩=μ (ι κ (k:Int))/\H.drew.cell? ⟨b,off+i*12+2,ν⟩=μ (ι κ vb)/\H.drew.cell? ⟨g,k,ν⟩=μ (.bool old):=⟨d0,d1,d2,hcell⟩
         go_upto_region 12 with(fail)
         go_region
         all_goals
          go_wp2
          go_roundw
          case rel=>exact⟨i+1,dU,by go_num,Vu.out⟩
          case measure=>simp[eV];omega
