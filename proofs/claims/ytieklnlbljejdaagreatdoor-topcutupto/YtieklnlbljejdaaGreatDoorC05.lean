import Derived.Test.YtieklnlbljejdaaGreatDoorC04
open Go.Value renaming int → ι, slice → σ, pointer → π, tuple → τ, nilIface → η, ownBlock → eh, oneCell' → eA, map → ga
open Go.IntKind renaming i64 → κ
open Go.Ending renaming returned → ρ
open Go.Obj renaming cells → γ
open Option renaming none → ν, some → μ
open Go renaming World → dX, Calls → eX, Value → dY, Addr → dW
open Go.Proofs.Tryz renaming prog → eY
open Go.RowKit renaming intOf → eZ
open List renaming length_nil → eR, length_cons → eQ
open List.Pairwise renaming nil → fZ
open Go.Instr renaming makeMap → gb
set_option maxRecDepth 100000
set_option maxHeartbeats 8000000
open Go.Proofs.Tryz
namespace Go.Proofs.YtieklnlbljejdaaGreatDoor
open Go.RowKit St
variable {B C b cap g n:Nat} {a w w' w1 w3 wr:World} {bs:List Nat} {es:Int->List jJ} {k:Int} {left:Lit->Bool} {m:FM} {o:Obj} {v v':Value}
structure SR(w:dX)(g C:Nat)(ss:List SV):Prop where
 lt:g<w.heap.size
 cell:∀j s,ss[j]? =μ s->w.cell? ⟨g,j*3,ν⟩=μ (ι κ s.own)/\w.cell? ⟨g,j*3+1,ν⟩=μ (ι κ s.seq)/\w.cell? ⟨g,j*3+2,ν⟩=μ (σ s.a s.n s.cap)
 sp:∀j,j<C*3->(w.cell? ⟨g,j,ν⟩).isSome=true/\w.frozen? ⟨g,j,ν⟩=false
 le:ss.length<=C
 cm:C<=maxLen
theorem SR.fz {ss:List SV} (h:SR w g C ss)(j:Nat)(hj:j<ss.length*3):w.frozen? ⟨g,j,ν⟩=false:=(h.sp j (by have:=h.le;omega)).2
theorem SR.below {ss:List SV} (h:SR w g C ss)(hb:eB w w'):SR w' g C ss:=
 ⟨Nat.lt_of_lt_of_le h.lt hb.size,λj s e=>by
  obtain⟨c0,c1,c2⟩:=h.cell j s e;exact⟨(hb.cell (p:=⟨g,j*3,ν⟩) h.lt).trans c0,(hb.cell (p:=⟨g,j*3+1,ν⟩) h.lt).trans c1,(hb.cell (p:=⟨g,j*3+2,ν⟩) h.lt).trans c2⟩,λj Z=>⟨by rw[hb.cell (p:=⟨g,j,ν⟩) h.lt];exact(h.sp j Z).1,(hb.frozen (p:=⟨g,j,ν⟩) h.lt).trans (h.sp j Z).2⟩,h.le,h.cm⟩
theorem SR.drewN {w:dX} {g C:Nat} {ss:List SV} (h:SR w g C ss)(n:Nat):SR (w.drewN n) g C ss:=h.below (below_drewN (au _ _) n)
def NH(w:dX)(g k:Nat)(s:SV):dX:=((w.setCell ⟨g,k*3,ν⟩ (ι κ s.own)).setCell ⟨g,k*3+1,ν⟩ (ι κ s.seq)).setCell ⟨g,k*3+2,ν⟩ (σ s.a s.n s.cap)
theorem SR.put {ss:List SV} (h:SR w g C ss)(k:Nat)(S:k<ss.length)(s:SV):SR (NH w g k s) g C (ss.set k s):=by
 have V:∀j,j<ss.length*3->(w.cell? ⟨g,j,ν⟩).isSome=true:=by
  intro j Z;have hl:j/3<ss.length:=dZ;obtain⟨c0,c1,c2⟩:=h.cell (j/3) ss[j/3] (ay hl);rcases(show j=j/3*3 \/j=j/3*3+1 \/j=j/3*3+2 by omega)with e|e|e
  {rw[e,c0];rfl};{rw[e,c1];rfl};{rw[e,c2];rfl}
 have U:NH w g k s=w.setCells g (k*3) [ι κ s.own,ι κ s.seq,σ s.a s.n s.cap] :=rfl;have X:=bJ g [ι κ s.own,ι κ s.seq,σ s.a s.n s.cap] (k*3) w (λj Z=>V _ (by simp at Z;omega));refine⟨by unfold NH;simpa using h.lt,λj s' e=> ?_,λj Z=> ?_,by simpa using h.le,h.cm⟩;{by_cases Y:j=k;{subst Y;rw[List.getElem?_set_self S]at e;obtain rfl:=Option.some.inj e;rw[U];exact⟨X 0 gU,X 1 gU,X 2 gU⟩};{rw[List.getElem?_set_ne (λe=>Y e.symm)]at e;obtain⟨c0,c1,c2⟩:=h.cell j s' e;have T:∀o,o<3->(w.setCells g (k*3) [ι κ s.own,ι κ s.seq,σ s.a s.n s.cap]).cell? ⟨g,j*3+o,ν⟩=w.cell? ⟨g,j*3+o,ν⟩:=λo ho=>bB g _ _ _ _ (λ_ _=>by show j*3+o<k*3 \/k*3+3<=j*3+o;omega);rw[U];exact⟨(T 0 ew).trans c0,(T 1 ew).trans c1,(T 2 ew).trans c2⟩}};{rw[U,bZ];refine⟨?_,(h.sp j Z).2⟩;by_cases hq:k*3<=j/\j<k*3+3;{have:=X (j-k*3) (by simp;omega);rw[show k*3+(j-k*3)=j by omega]at this;rw[this];rfl};{rw[bB g _ _ _ _ (λ_ _=>by show j<k*3 \/k*3+3<=j;omega)];exact(h.sp j Z).1}}
theorem Ht(w:dX)(g k:Nat)(s:SV):w.grownBy (NH w g k s) (μ g):=by
 unfold NH;exact kP (kP (kP ⟨rfl,rfl,rfl,Nat.le_refl _,λ_ _ _=>rfl⟩ _ _) _ _) _ _
def NI(l:List SV):Prop:=l.Pairwise (λx y=>x.own<y.own)
theorem U3(x y:SV)(w:dX):eX eY 203 #[.agg #[ι κ x.own,ι κ x.seq,σ x.a x.n x.cap],.agg #[ι κ y.own,ι κ y.seq,σ y.a y.n y.cap]] w λe w'=>e=ρ (ι κ (lZ x.own y.own))/\eB w w':=by
 have Y:eB w ((w.alloc (γ #[ι κ x.own,ι κ x.seq,σ x.a x.n x.cap] 40)).alloc (γ #[ι κ y.own,ι κ y.seq,σ y.a y.n y.cap] 40)):=(gT _ _).alloc gU _;have Z:=tq x.own y.own ((w.alloc (γ #[ι κ x.own,ι κ x.seq,σ x.a x.n x.cap] 40)).alloc (γ #[ι κ y.own,ι κ y.seq,σ y.a y.n y.cap] 40))
 go_in
 go_wp2_with(fail);refine Z.mono ?_;rintro e w1 ⟨rfl,rfl⟩
 go_wp2
 go_ret;exact⟨rfl,Y⟩
structure Down(w wr:dX)(g cap n i:Nat)(ss pre mid post:List SV)(x:SV):Prop where
 sr:SR wr g cap (pre++x::(mid++post))
 perm:(pre++x::(mid++post)).Perm ss
 Tw:NI (pre++mid)
 low:∀y∈mid,x.own<y.own
 len:pre.length+mid.length=i
 grown:w.grownBy wr (μ g)
theorem Py {pre mid:List SV} {x:SV} (h:NI (pre++mid))(X:∀y∈pre,y.own<x.own)(Y:∀y∈mid,x.own<y.own):NI (pre++x::mid):=by
 unfold NI at*;rw[bu]at h⊢;refine⟨h.1,cD.2 ⟨Y,h.2.1⟩,λa Z b hb=> ?_⟩;rcases aO.1 hb with rfl|hb
 {exact X a Z};{exact h.2.2 a Z b hb}
theorem U4 {pre:List SV} {y x:SV} (h:NI (pre++ [y]))(hy:y.own<x.own):∀z∈pre++ [y],z.own<x.own:=by
 intro z Z;rcases av.1 Z with Z|Z
 ·have:=(bu.1 h).2.2 z Z y gU;omega
 ·have:z=y:=by simpa using Z
  rw[this];exact hy
theorem tF {b:dX} (h:w.grownBy a (μ g))(k:eB a b):w.grownBy b (μ g):=
 ⟨k.os.trans h.os,k.tape.trans h.tape,k.output.trans h.output,Nat.le_trans h.size k.size,λi hi Z=>(k.block i (Nat.lt_of_lt_of_le hi h.size)).trans (h.block i hi Z)⟩
theorem B5 {b:dX} (h:w.grownBy a (μ g))(k:a.grownBy b (μ g)):w.grownBy b (μ g):=
 ⟨k.os.trans h.os,k.tape.trans h.tape,k.output.trans h.output,Nat.le_trans h.size k.size,λi hi Z=>(k.block i (Nat.lt_of_lt_of_le hi h.size) Z).trans (h.block i hi Z)⟩
theorem afJ {a c d e f:Nat} {u0 u1 u2 u3 u4 u5:dY} (k:eB w w')(gl:g<w.heap.size)
 (h:w.cell? ⟨g,a,ν⟩=μ u0/\w.cell? ⟨g,b,ν⟩=μ u1/\w.cell? ⟨g,c,ν⟩=μ u2/\w.cell? ⟨g,d,ν⟩=μ u3/\w.cell? ⟨g,e,ν⟩=μ u4/\w.cell? ⟨g,f,ν⟩=μ u5):
 w'.cell? ⟨g,a,ν⟩=μ u0/\w'.cell? ⟨g,b,ν⟩=μ u1/\w'.cell? ⟨g,c,ν⟩=μ u2/\w'.cell? ⟨g,d,ν⟩=μ u3/\w'.cell? ⟨g,e,ν⟩=μ u4/\w'.cell? ⟨g,f,ν⟩=μ u5:=
 ⟨(k.cell (p:=⟨g,a,ν⟩) gl).trans h.1,(k.cell (p:=⟨g,b,ν⟩) gl).trans h.2.1,(k.cell (p:=⟨g,c,ν⟩) gl).trans h.2.2.1,(k.cell (p:=⟨g,d,ν⟩) gl).trans h.2.2.2.1,(k.cell (p:=⟨g,e,ν⟩) gl).trans h.2.2.2.2.1,(k.cell (p:=⟨g,f,ν⟩) gl).trans h.2.2.2.2.2⟩
theorem NJ(g n cap:Nat)(ss:List SV)(w:dX)(h:SR w g cap ss)(hl:ss.length=n)(hn:n<=12)(hd:ss.Pairwise (λx y=>x.own≠y.own)):
 eX eY 232 #[σ (μ ⟨g,0,ν⟩) n cap,ι κ 0,ι κ (n:Int),.func (.func 203) #[] #[]] w λe w'=>e=ρ (τ #[])/\∃ts,SR w' g cap ts/\ts.Perm ss/\NI ts/\w.grownBy w' (μ g):=by
 go_in
 go_wp2
 go_loopw [8] (λi wr=>∃(k:Nat) (ts:List SV),1<=k/\(k<=n \/k=1)/\i=ι κ k/\SR wr g cap ts/\ts.Perm ss/\NI (ts.take k)/\w.grownBy wr (μ g)) (λi _=>n-(eZ i).toNat)
 case atStart=>exact⟨1,ss,Nat.le_refl _,.inr rfl,rfl,h,List.Perm.refl _,by unfold NI;cases ss<;>simp,⟨rfl,rfl,rfl,Nat.le_refl _,λ_ _ _=>rfl⟩⟩
 case round=>
  obtain⟨k,ts,Xr,AL,rfl,hS,U,hR,hG⟩:=hrel;have htl:ts.length=n:=by rw[U.length_eq,hl]
  by_cases kA:k<n
  ·have nL:(k:Int)<(n:Int):=dZ;have u:Hid (Down w wr g cap n k ss (ts.take k) [] (ts.drop (k+1)) (ts[k]'(by omega))):=by
    have e:ts.take k++(ts[k]'(by omega))::([] ++ts.drop (k+1))=ts:=by
     rw[bU,<-aR dZ,cL]
    refine⟨by rw[e];exact hS,by rw[e];exact U,by rw[aB];exact hR,gU,by simp;omega,hG⟩
   obtain⟨wo,rfl⟩:∃wo,wo=wr:=⟨_,rfl⟩
   clear hS U hR hG
   go_wp2
   go_loopw [9] (λj wr=>∃(pre mid post:List SV) (x:SV),j=ι κ (pre.length:Int)/\Down w wr g cap n k ss pre mid post x) (λj _=>(eZ j).toNat)
   case atStart=>exact⟨_,_,_,_,by simp;omega,u.out⟩
   case round=>
    clear u;obtain⟨pre,mid,post,x,rfl,Y⟩:=hrel;have hlen:pre.length+mid.length+post.length+1=n:=by
     have:=Y.perm.length_eq;simp at this;omega
    rcases cM pre with rfl|⟨Z,y,oS⟩
    ·have D:Hid (∃ts:List SV,SR wr g cap ts/\ts.Perm ss/\NI (ts.take (k+1))/\w.grownBy wr (μ g)):=by
      refine⟨_,Y.sr,Y.perm,?_,Y.grown⟩;have hm:=Y.len;simp only[List.nil_append,eR,Nat.zero_add]at hm⊢;have e:(x::(mid++post)).take (k+1)=x::mid:=by
       rw[List.take_succ_cons,<-hm,List.take_left]
      rw[e];exact Py (pre:=[]) Y.Tw gU Y.low
     clear Y;simp only[eR,Int.natCast_zero]
     go_wp2
     go_quiet(fail)
     go_wp2
     go_roundw
     case rel=>
      obtain⟨us,q1,q2,q3,q4⟩:=D.out;exact⟨k+1,us,dZ,.inl dZ,by go_num,SR.drewN q1 _,q2,q3,tF q4 (below_drewN (au _ _) _)⟩
     case measure=>simp[eZ];omega
    ·rw[cN]at oS;subst oS;obtain⟨P,U⟩:=gg (Z.length);have T:(Z++ [y]).length=P+1:=by simp[U]
     have gx:((Z++ [y])++x::(mid++post))[P+1]? =μ x:=by rw[<-T];simp
     have gy:((Z++ [y])++x::(mid++post))[P]? =μ y:=by rw[<-U];simp
     obtain⟨x0,x1,x2⟩:=Y.sr.cell _ _ gx;obtain⟨y0,y1,y2⟩:=Y.sr.cell _ _ gy;have gl:=Y.sr.lt;have hPn:P+1<n:=by
      rw[T]at hlen;omega
     have b0:(0:Int)<=(P:Int):=dZ;have b1:(P:Int)<(n:Int):=dZ;have b2:(P:Int)+1<(n:Int):=dZ;have b3:(0:Int)<=(P:Int)+1:=dZ;have b4:(0:Int)<(P:Int)+1:=dZ;have b5:κ.wrap ((P:Int)+1-1)=(P:Int):=by rw[show(P:Int)+1-1=(P:Int) by omega];exact aS _ ⟨dZ,dZ⟩
     have b6:κ.wrap (P:Int)=(P:Int):=aS _ ⟨dZ,dZ⟩;have A:¬x.own=y.own:=by
      have Pq:=(Y.perm.pairwise_iff (λ{a b} (Dl:a.own≠b.own)=>λe=>Dl e.symm)).2 hd;have h3:=(bu.1 Pq).2.2 y gU x gU;exact λe=>h3 e.symm
     have eJ:(((Z++ [y]).length:Nat):Int)=(P:Int)+1:=by rw[T];rfl
     rw[eJ];have HD:Hid _:=Y;have HP:Hid _:=U;have HN:Hid _:=A;clear Y U A eJ T gx gy hlen;have H:wr.drew.cell? ⟨g,(P+1)*3,ν⟩=μ (ι κ x.own)/\wr.drew.cell? ⟨g,(P+1)*3+1,ν⟩=μ (ι κ x.seq)/\wr.drew.cell? ⟨g,(P+1)*3+2,ν⟩=μ (σ x.a x.n x.cap)/\wr.drew.cell? ⟨g,P*3,ν⟩=μ (ι κ y.own)/\wr.drew.cell? ⟨g,P*3+1,ν⟩=μ (ι κ y.seq)/\wr.drew.cell? ⟨g,P*3+2,ν⟩=μ (σ y.a y.n y.cap):=⟨x0,x1,x2,y0,y1,y2⟩
     have E:=U3 x y wr.drew;obtain⟨cx,X⟩:=gg (lZ x.own y.own);rw[X]at E;by_cases U5:x.own<y.own
     ·have Q:cx= -1:=by rw[<-X,lZ,ai U5]
      subst Q;clear X
      go_wp2
      go_region_held3(λv=>v.cell? ⟨g,(P+1)*3,ν⟩=μ (ι κ x.own)/\v.cell? ⟨g,(P+1)*3+1,ν⟩=μ (ι κ x.seq)/\v.cell? ⟨g,(P+1)*3+2,ν⟩=μ (σ x.a x.n x.cap)/\v.cell? ⟨g,P*3,ν⟩=μ (ι κ y.own)/\v.cell? ⟨g,P*3+1,ν⟩=μ (ι κ y.seq)/\v.cell? ⟨g,P*3+2,ν⟩=μ (σ y.a y.n y.cap))
       (first|assumption|exact H|exact G)
       ((go_at_call 203;refine E.mono ?_;rintro e J ⟨rfl,M⟩;have G:=afJ M gl H))
      have V:eB wr J:=gh (below_drewN (au _ _) 1) M;have S5:=HD.out.sr.below V;obtain⟨z0,z1,z2,z3,z4,z5⟩:=G;have gl5:=S5.lt;have S:∀o,o<(P+2)*3->J.frozen? ⟨g,o,ν⟩=false:=λo ho=>S5.fz o (by have:=HP.out;simp;omega);have f0:=S ((P+1)*3) dZ;have f1:=S ((P+1)*3+1) dZ;have f2:=S ((P+1)*3+2) dZ;have f3:=S (P*3) dZ;have f4:=S (P*3+1) dZ;have f5:=S (P*3+2) dZ;clear S E H x0 x1 x2 y0 y1 y2 M;have hD6:Hid (Down w (NH (NH J g (P+1) y) g P x).drew g cap n k ss Z (y::mid) post x):=by
       have hd:=HD.out;have hp:=HP.out;have Lc:((((Z++ [y])++x::(mid++post)).set (P+1) y).set P x)=Z++x::((y::mid)++post):=by
        subst hp;rw[aD,dS _ _ dZ,show Z.length+1-Z.length=1 by omega];simp only[List.singleton_append,List.set_cons_succ,List.set_cons_zero];rw[dS _ _ dZ,Nat.sub_self];rfl
       have hlen:((Z++ [y])++x::(mid++post)).length=Z.length+mid.length+post.length+2:=by simp;omega
       have s6:=((S5.put (P+1) (by rw[hlen];omega) y).put P (by rw[List.length_set,hlen];omega) x).drewN 1;rw[Lc]at s6;refine⟨s6,?_,?_,?_,?_,?_⟩;{refine List.Perm.trans ?_ hd.perm;rw[aD];exact List.Perm.append_left Z (by simpa using List.Perm.swap y x (mid++post))};{have:=hd.Tw;rw[aD]at this;exact this}
       ·intro z hz;rcases aO.1 hz with rfl|hz
        {exact U5};{exact hd.low z hz}
       {have:=hd.len;simp at this⊢;omega};{exact tF (B5 (B5 (tF hd.grown V) (Ht _ g (P+1) y)) (Ht _ g P x)) (below_drewN (au _ _) 1)}
      go_wp2
      go_region
      go_wp2_with(fail);refine⟨⟨Z,y::mid,post,x,?_,?_⟩,?_⟩;{rw[HP.out]};{exact hD6.out};{simp[eZ]}
     ·have hhi:y.own<x.own:=by
       have h9:¬x.own=y.own:=HN.out;omega
      have Q:cx=1:=by rw[<-X,lZ,af U5,ai hhi]
      subst Q;clear X
      go_wp2
      go_region_held3(λv=>v.cell? ⟨g,(P+1)*3,ν⟩=μ (ι κ x.own)/\v.cell? ⟨g,(P+1)*3+1,ν⟩=μ (ι κ x.seq)/\v.cell? ⟨g,(P+1)*3+2,ν⟩=μ (σ x.a x.n x.cap)/\v.cell? ⟨g,P*3,ν⟩=μ (ι κ y.own)/\v.cell? ⟨g,P*3+1,ν⟩=μ (ι κ y.seq)/\v.cell? ⟨g,P*3+2,ν⟩=μ (σ y.a y.n y.cap))
       (first|assumption|exact H|exact G)
       ((go_at_call 203;refine E.mono ?_;rintro e J ⟨rfl,M⟩;have G:=afJ M gl H))
      have V:eB wr J:=gh (below_drewN (au _ _) 1) M;have D:Hid (∃ts:List SV,SR J g cap ts/\ts.Perm ss/\NI (ts.take (k+1))/\w.grownBy J (μ g)):=by
       have hd:=HD.out;refine⟨_,hd.sr.below V,hd.perm,?_,tF hd.grown V⟩;have hm:=hd.len;have e:((Z++ [y])++x::(mid++post)).take (k+1)=(Z++ [y])++x::mid:=by
        rw[show(Z++ [y])++x::(mid++post)=((Z++ [y])++x::mid)++post by simp];rw[List.take_left' (by simp at hm⊢;omega)]
       rw[e];exact Py hd.Tw (U4 (bu.1 hd.Tw).1 hhi) hd.low
      clear E H G x0 x1 x2 y0 y1 y2 M
      go_wp2
      go_roundw
      case rel=>
       obtain⟨us,q1,q2,q3,q4⟩:=D.out;exact⟨k+1,us,dZ,.inl dZ,by go_num,q1,q2,q3,q4⟩
      case measure=>simp[eZ];omega
  ·have D:Hid (∃ts,SR wr g cap ts/\ts.Perm ss/\NI ts/\w.grownBy wr (μ g)):=by
    refine⟨ts,hS,U,?_,hG⟩;have:ts.take k=ts:=aI dZ
    rwa [this]at hR
   clear hS U hR hG;have xL:¬(k:Int)<(n:Int):=dZ
   go_wp2
   first|go_end0|refine iK rfl rfl ?_
   exact⟨rfl,D.out⟩
theorem PA(n:Nat)(hn:n<=6)(w:dX):eX eY 221 #[.int .u64 (n:Int)] w λe w'=>∃r:Int,e=ρ (ι κ r)/\w=w':=by
 have Z:∀W:dX,eX eY 241 #[.int .u64 (n:Int)] W λe w'=>∃r:Int,e=ρ (ι κ r)/\W=w':=by
  intro W;rcases(show n=0 \/n=1 \/n=2 \/n=3 \/n=4 \/n=5 \/n=6 by omega)with rfl|rfl|rfl|rfl|rfl|rfl|rfl
  all_goals
   go_in
   go_wp2
   go_ret;exact⟨_,rfl,rfl⟩
 go_in
 go_wp2_with(fail);refine(Z _).mono ?_;rintro e w1 ⟨r,rfl,rfl⟩
 go_wp2
 go_ret;exact⟨_,rfl,rfl⟩
theorem YD(g n cap:Nat)(L:Int)(ss:List SV)(w:dX)(h:SR w g cap ss)(hl:ss.length=n)(X:n<=12)(hd:ss.Pairwise (λx y=>x.own≠y.own)):
 eX eY 220 #[σ (μ ⟨g,0,ν⟩) n cap,ι κ 0,ι κ (n:Int),ι κ L,.func (.func 203) #[] #[]] w λe w'=>e=ρ (τ #[])/\∃ts,SR w' g cap ts/\ts.Perm ss/\NI ts/\w.grownBy w' (μ g):=by
 have hc:=NJ g n cap ss w h hl X hd;have h12:(n:Int)<=12:=dZ
 go_in
 go_wp2_with(fail);refine ch 1 ?_;rw[bR];go_wp2_with(fail);refine hc.mono ?_;rintro e w1 ⟨rfl,Z⟩;have Y:Hid _:=Z;clear Z hc
 go_wp2
 first|go_end0|refine iK rfl rfl ?_
 exact⟨rfl,Y.out⟩
theorem U6(g n cap:Nat)(ss:List SV)(w:dX)(h:SR w g cap ss)(hl:ss.length=n)(V:n<=6)(hd:ss.Pairwise (λx y=>x.own≠y.own)):
 eX eY 202 #[σ (μ ⟨g,0,ν⟩) n cap,.func (.func 203) #[] #[]] w λe w'=>e=ρ (τ #[])/\∃ts,SR w' g cap ts/\ts.Perm ss/\NI ts/\w.grownBy w' (μ g):=by
 have Z:=PA n V w;have h12:(n:Int)<=6:=dZ
 go_in
 go_wp2_with(fail);refine Z.mono ?_;rintro e w1 ⟨r,rfl,rfl⟩;go_wp2_with(fail);refine(YD g n cap r ss w h hl dZ hd).mono ?_;rintro e w2 ⟨rfl,Y⟩;have X:Hid _:=Y;clear Y Z
 go_wp2
 first|go_end0|refine iK rfl rfl ?_
 exact⟨rfl,X.out⟩
def SV.cells(s:SV):List dY:=[ι κ s.own,ι κ s.seq,σ s.a s.n s.cap]
def Ld(ss:List SV):List dY:=ss.flatMap SV.cells
theorem Le(ss:List SV)(s:SV):Ld (ss++ [s])=Ld ss++ [ι κ s.own,ι κ s.seq,σ s.a s.n s.cap] :=by simp[Ld,SV.cells]
theorem Jk:∀(ss:List SV) (j:Nat) (s:SV),ss[j]? =μ s->(Ld ss)[j*3]? =μ (ι κ s.own)/\(Ld ss)[j*3+1]? =μ (ι κ s.seq)/\(Ld ss)[j*3+2]? =μ (σ s.a s.n s.cap)
 |[],j,s,h=>by simp at h
 |x::l,0,s,h=>by
  have:x=s:=by simpa using h
  subst this;exact⟨rfl,rfl,rfl⟩
 |x::l,j+1,s,h=>by
  have V:l[j]? =μ s:=by simpa using h
  obtain⟨a,b,c⟩:=Jk l j s V;have e:Ld (x::l)=ι κ x.own::ι κ x.seq::σ x.a x.n x.cap::Ld l:=rfl;have Z:(j+1)*3=j*3+3:=dZ;have Y:(j+1)*3+1=j*3+1+3:=dZ;have X:(j+1)*3+2=j*3+2+3:=dZ;rw[e,Y,X,Z];simp only[List.getElem?_cons_succ];exact⟨a,b,c⟩
theorem Row.sr {ss:List SV} (h:Row w 3 (σ (μ ⟨g,0,ν⟩) ss.length cap) ss.length (Ld ss)):SR w g cap ss:=by
 rcases h.2 with⟨e,_⟩|⟨g',jn,e,_,Z,Y,_,hs⟩
 {cases e};{cases e;refine⟨h.lt g rfl,λj s e=> ?_,hs,Z,Y⟩;obtain⟨a,b,c⟩:=Jk ss j s e;exact⟨Row.cell h _ _ a,Row.cell h _ _ b,Row.cell h _ _ c⟩}
theorem uO:∀(l m:List Int),l.Pairwise (· ≠·)->(∀x∈l,x∈m)->l.length<=m.length
 |[],_,_,_=>Nat.zero_le _
 |x::l,m,hp,hs=>by
  obtain⟨Z,Y⟩:=cD.1 hp;have hx:=hs x gU;have:=uO l (m.erase x) Y (λy hy=>(dg (λe=>Z y hy e.symm)).2 (hs y (cO _ hy)));rw[cY hx]at this;have hm:0<m.length:=dM hx;simp only[eQ];omega
structure acj(w wr:dX)(f:Int->Option SV)(es:Int->List jJ)(v:dY)(s:SV):Prop where
 at_:∃t,f s.own=μ t/\s.seq=t.seq
 inr:tf s.own
 n:s.n=(es s.own).length
 opt:jc wr s.a s.n (es s.own)
 nil:kJ s.a s.cap
 new:∀j,eh (σ s.a s.n s.cap)=μ j->w.heap.size<j/\j<wr.heap.size/\v.ownBlock≠μ j
structure U7(w wr:dX)(f:Int->Option SV)(es:Int->List jJ)(left:Lit->Bool)(v:dY)(out:List SV):Prop where
 row:Row wr 3 v out.length (Ld out)
 own:∀g,v.ownBlock=μ g->w.heap.size<g
 el:∀s∈out,acj w wr f es v s/\left (.int .i64 s.own)=false
 df:out.Pairwise (λx y=>x.own≠y.own)
 all:∀k,tf k->(f k).isSome=true->left (.int .i64 k)=false->∃s∈out,s.own=k
 nQ:eB w wr
theorem U7.step {f:Int->Option SV} {out:List SV} {s t:SV} (h:U7 w wr f es left v out)
 (Y:wr.grownBy w1 (μ w.heap.size)) (G:w1.grownBy w3 v.ownBlock) (A:Row w3 3 v' (out.length+1) (Ld out++ [ι κ s.own,ι κ s.seq,σ s.a s.n s.cap]))
 (hv:∀g,v'.ownBlock=μ g->v.ownBlock=μ g \/wr.heap.size<=g) (hw:w.heap.size<wr.heap.size) (y:∀j,eh (σ s.a s.n s.cap)=μ j->wr.heap.size<=j/\j<w3.heap.size/\v'.ownBlock≠μ j)
 (hx:tf s.own) (S:left (.int .i64 s.own)=true) (T:f s.own=μ t) (Z:s.seq=t.seq) (E:s.n=(es s.own).length) (D:jc w3 s.a s.n (es s.own)) (u:kJ s.a s.cap):
 U7 w w3 f es (λz=>left z&& !z.sameKey (.int .i64 s.own)) v' (out++ [s]):=by
 have rS:wr.heap.size<=w3.heap.size:=Nat.le_trans Y.size G.size;have Q:∀i,i<wr.heap.size->i≠w.heap.size->v.ownBlock≠μ i->w3.heap[i]? =wr.heap[i]? :=λi hi V U=>
  (G.block i (Nat.lt_of_lt_of_le hi Y.size) (λe=>U e.symm)).trans (Y.block i hi (λe=>V (by simpa using e)))
 refine⟨?_,?_,?_,?_,?_,?_⟩;{rw[Le,az];exact A}
 ·intro g J;rcases hv g J with e|e
  {exact h.own g e};{omega}
 ·intro q Z;rcases av.1 Z with Z|Z
  ·obtain⟨a,b⟩:=h.el q Z;refine⟨⟨a.at_,a.inr,a.n,a.opt.kept (cap:=q.cap) (λj X=> ?_),a.nil,λj X=> ?_⟩,by simp[b]⟩;{obtain⟨c1,c2,c3⟩:=a.new j X;exact Q j c2 dZ c3}
   ·obtain⟨c1,c2,c3⟩:=a.new j X;refine⟨c1,dZ,λe=> ?_⟩;rcases hv j e with e|e
    {exact c3 e};{omega}
  ·have:q=s:=by simpa using Z
   subst this;refine⟨⟨⟨t,T,je⟩,hx,E,D,u,λj X=> ?_⟩,by simp[rj]⟩;obtain⟨c1,c2,c3⟩:=y j X;exact⟨dZ,c2,c3⟩
 ·rw[bu];refine⟨h.df,List.pairwise_singleton _ _,λa M b hb=> ?_⟩;have:b=s:=by simpa using hb
  subst this;intro e;have:=(h.el a M).2;rw[e,S]at this;cases this
 ·intro k H hs hl;by_cases e:k=s.own;{exact⟨s,gU,e.symm⟩}
  ·have:left (.int .i64 k)=false:=by simpa[rj,e]using hl
   obtain⟨q,V,U⟩:=h.all k H hs this;exact⟨q,by simp[V],U⟩
 ·refine⟨?_,?_,?_,?_,?_⟩;{exact G.os.trans (Y.os.trans h.nQ.os)};{exact G.tape.trans (Y.tape.trans h.nQ.tape)};{exact G.output.trans (Y.output.trans h.nQ.output)};{exact Nat.le_trans h.nQ.size rS};{intro i hi;refine(Q i dZ dZ (λe=> ?_)).trans (h.nQ.block i hi);have:=h.own i e;omega}
theorem U7.few {f:Int->Option SV} {out:List SV} (h:U7 w wr f es left v out)(hf:∀k s,tf k->f k=μ s->1<=k/\k<=6):out.length<=6:=by
 have Z:=uO (out.map SV.own) [1,2,3,4,5,6] (by rw[dx];exact h.df) (λx hx=>by
  obtain⟨s,hs,rfl⟩:=bH.1 hx;obtain⟨t,Y,_⟩:=(h.el s hs).1.at_;have:=hf _ t (h.el s hs).1.inr Y;simp;omega)
 simpa using Z
theorem infoState:(eY.info? 40).map (λi=>(i.zero,i.size,i.bytes))=μ (μ (.agg #[ι κ 0,ι κ 0,σ ν 0 0]),3,40):=gS
theorem B6(w:dX)(x y z:dY)(t:TypeId)(g:Nat)(Z:w.heap.size=g):∀(j:Nat) (u:dY),[x,y,z][j]? =μ u->(w.alloc (γ #[x,y,z] t)).cell? ((⟨g,0,ν⟩:dW).add j)=μ u:=by
 subst Z;intro j u Y;rw[add_plain,aq];simpa using Y
theorem U8(x y:Int)(a:Option dW)(n c:Nat):∀u∈ [ι .i64 x,ι .i64 y,σ a n c],u.oneCell'=true:=by simp[eA]
structure En(w w':dX)(f:Int->Option SV)(es:Int->List jJ)(v:dY)(ts:List SV):Prop where
 shape:(v=σ ν 0 0/\ts=[]) \/ ∃g cap,v=σ (μ ⟨g,0,ν⟩) ts.length cap/\SR w' g cap ts/\w.heap.size<g
 el:∀s∈ts,acj w w' f es v s
 Tw:NI ts
 all:∀k,tf k->(f k).isSome=true->∃s∈ts,s.own=k
 nQ:eB w w'
theorem U7.acm {f:Int->Option SV} {out:List SV} (h:U7 w wr f es left v out)(hl:∀X,left X=false)(hv:v=σ ν 0 0):En w wr f es v [] /\out=[] :=by
 have Y:out=[] :=by
  rcases h.row.2 with⟨_,e⟩|⟨g,cap,e,_⟩
  {exact aH e};{rw[hv]at e;cases e}
 subst Y;exact⟨⟨.inl ⟨hv,rfl⟩,λs hs=>by simp at hs,fZ,λk Z hs=>h.all k Z hs (hl _),h.nQ⟩,rfl⟩
theorem U7.afN {f:Int->Option SV} {out ts:List SV} (h:U7 w wr f es left (σ (μ ⟨g,0,ν⟩) out.length cap) out)(hl:∀H,left H=false)
 (hs:SR w' g cap ts) (X:ts.Perm out) (J:NI ts) (Z:wr.grownBy w' (μ g)):En w w' f es (σ (μ ⟨g,0,ν⟩) out.length cap) ts:=by
 have V:w.heap.size<g:=h.own g rfl;refine⟨.inr ⟨g,cap,by rw[X.length_eq],hs,V⟩,λs M=> ?_,J,λk Q U=> ?_,?_⟩;{have a:=(h.el s (X.mem_iff.1 M)).1;refine⟨a.at_,a.inr,a.n,a.opt.kept (cap:=s.cap) (λj Y=> ?_),a.nil,λj Y=> ?_⟩;{obtain⟨c1,c2,c3⟩:=a.new j Y;exact Z.block j c2 (λe=>c3 e.symm)};{obtain⟨c1,c2,c3⟩:=a.new j Y;exact⟨c1,Nat.lt_of_lt_of_le c2 Z.size,c3⟩}};{obtain⟨s,T,S⟩:=h.all k Q U (hl _);exact⟨s,X.mem_iff.2 T,S⟩}
 ·refine⟨Z.os.trans h.nQ.os,Z.tape.trans h.nQ.tape,Z.output.trans h.nQ.output,Nat.le_trans h.nQ.size Z.size,λi hi=>(Z.block i (Nat.lt_of_lt_of_le hi h.nQ.size) (λe=> ?_)).trans (h.nQ.block i hi)⟩;have:i=g:=by simpa using e
  omega
theorem U9(w:dX):eX eY 202 #[σ ν 0 0,.func (.func 203) #[] #[]] w λe w'=>e=ρ (τ #[])/\w=w':=by
 have Z:=PA 0 ew w;have X:eX eY 232 #[σ ν 0 0,ι κ 0,ι κ 0,.func (.func 203) #[] #[]] w λe w'=>e=ρ (τ #[])/\w=w':=by
  go_in
  go_wp2_with(fail);refine ch 1 ?_;rw[bR]
  go_wp2
  first|go_end0|refine iK rfl rfl ?_
  exact⟨rfl,rfl⟩
 have Y:∀L:Int,eX eY 220 #[σ ν 0 0,ι κ 0,ι κ 0,ι κ L,.func (.func 203) #[] #[]] w λe w'=>e=ρ (τ #[])/\w=w':=by
  intro L
  go_in
  go_wp2_with(fail);refine ch 1 ?_;rw[bR];go_wp2_with(fail);refine X.mono ?_;rintro e w1 ⟨rfl,rfl⟩
  go_wp2
  first|go_end0|refine iK rfl rfl ?_
  exact⟨rfl,rfl⟩
 go_in
 go_wp2_with(fail);refine Z.mono ?_;rintro e w1 ⟨r,rfl,rfl⟩;go_wp2_with(fail);refine(Y r).mono ?_;rintro e w2 ⟨rfl,rfl⟩
 go_wp2
 first|go_end0|refine iK rfl rfl ?_
 exact⟨rfl,rfl⟩
theorem NK {w2:dX} {o2:Obj} {row:Option Nat} (k2:Below (w1.alloc o).heap.size (w1.alloc o) w2)(Z:(w2.alloc o2).grownBy w3 row):w1.grownBy w3 row:=by
 have s1:(w1.alloc o).heap.size=w1.heap.size+1:=gU;have s2:(w2.alloc o2).heap.size=w2.heap.size+1:=gU;have hk:=k2.size;have b1:=gT w1 o;have b2:=gT w2 o2;refine⟨Z.os.trans (b2.os.trans (k2.os.trans b1.os)),Z.tape.trans (b2.tape.trans (k2.tape.trans b1.tape)),Z.output.trans (b2.output.trans (k2.output.trans b1.output)),by have:=Z.size;omega,λi hi Y=> ?_⟩;exact(Z.block i dZ Y).trans ((b2.block i dZ).trans ((k2.block i dZ).trans (b1.block i hi)))
theorem Eo(b n:Nat)(f:Int->Option SV)(es:Int->List jJ)(w:dX)(h:SMap w b n f)
 (hf:∀k s,tf k->f k=μ s->(1<=k/\k<=6)/\s.own=k/\jc w s.a s.n (es k)/\kJ s.a s.cap/\s.n<=1000000):
 eX eY 160 #[.map (μ b)] w λe w'=>∃v ts,e=ρ v/\En w w' f es v ts:=by
 obtain⟨i0,hi,og,mZ,mc⟩:=aW infoState;obtain⟨D,jm,M7⟩:=h.own;have AA:=h.lt;have hz:=pJ;have H0:Hid (∀k,tf k->f k=ν->∀z,D.atKey (.int .i64 k) z=z):=λk Y e=>by have:=M7 k Y;rw[e]at this;exact this
 have H1:Hid (∀k s,tf k->f k=μ s->∀z,D.atKey (.int .i64 k) z=.held s):=λk s Y e=>by have:=M7 k Y;rw[e]at this;exact this
 have HF:Hid _:=hf;clear M7 h hf
 go_in
 go_wp2_with(first
  |(at_range;refine wpList_range_own _ rfl _ 211 rfl 3 40 uK underlying211 tr b n _ rfl jm ?_;intro w0 Ui A hs0)
  |fail)
 go_frame
 go_loopw [3] (λv wr=>∃(left:Lit->Bool) (Q:Nat) (out:List SV),wr.ranges eY 3 tr b w.heap.size n D left Q/\w.heap.size<wr.heap.size/\U7 w wr f es left v out)
  (λ_ wr=>wr.rangeLeft b w.heap.size)
 case atStart=>
  refine⟨_,_,[],Ui,dZ,⟨Row.nil _ 3,λg hg=>by simp[eh]at hg,λs hs=>by simp at hs,fZ,λk Y S h2=> ?_,⟨A.os,A.tape,A.output,A.size,λi hi=>A.block i hi gU⟩⟩⟩;cases e:f k with
  |none=>rw[e]at S;cases S
  |some s=>
   rw[dL (H1.out k s Y e)]at h2;cases h2
 case round=>
  clear Ui A hs0 jm;obtain⟨left,Q,out,Hd,hww,hC⟩:=hrel;go_wp2_with(first
   |(at_next;refine wpList_next_ranges _ rfl _ rfl 3 uK tr (ι .i64) SV.v (λkey kl yv=>by obtain⟨x,rfl,_⟩:=cC underlying3 yv;exact⟨x,rfl⟩) (λv y hv=>by obtain⟨s,rfl,_⟩:=xe hv;exact⟨s,rfl⟩) b w.heap.size n _ _ _ rfl Hd ?_ ?_)
   |fail)
  ·intro rI vQ;have u:=hC.few (λk s Y e=>(HF.out k s Y e).1);rcases hC.row.2 with⟨hv,Rj⟩|⟨g,cap,hv,_⟩
   ·subst hv;have E:Hid _:=(hC.acm vQ rfl).1;have Yd:=U9 wr;clear hC Hd vQ Rj u;go_wp2_with(fail);refine Yd.mono ?_;rintro e w2 ⟨rfl,rfl⟩;clear Yd
    go_wp2
    go_ret;exact⟨_,_,rfl,E.out⟩
   ·subst hv;have Yd:=U6 g out.length cap out wr hC.row.sr rfl u hC.df;have T:Hid _:=hC;have HL:Hid _:=vQ;clear hC Hd vQ u;go_wp2_with(fail);refine Yd.mono ?_;rintro e w2 ⟨rfl,ts,hS,hp,hr,hg⟩;have E:Hid _:=T.out.afN HL.out hS hp hr hg;clear Yd hS hp hr hg
    go_wp2
    go_ret;exact⟨_,_,rfl,E.out⟩
  ·intro x c kl yd yp w1 KB yv hlx hv hat Uj Gk H DQ Ar;obtain⟨x',ex,rfl,hwx⟩:=cC underlying3 yv;cases ex;have zn:=AG hwx;obtain⟨Z,cs,ca,V,X⟩:=c;rw[zm]at hv;have hy:yd=.held ⟨Z,cs,ca,V,X⟩:=by have:=Option.some.inj hv;simp only[Prod.mk.injEq]at this;exact this.1.symm
   have J:f x=μ ⟨Z,cs,ca,V,X⟩:=by
    cases e:f x with
    |none=>
     have S:=H0.out x zn e .nil;rw[hat,hy]at S;cases S
    |some s=>
     have S:=H1.out x s zn e .nil;rw[hat,hy]at S;cases S;rfl
   obtain⟨hx6,hxo,CP,ki,M⟩:=HF.out x _ zn J;simp only at hxo CP ki M;subst hxo;have u:=hC.few (λk s Y e=>(HF.out k s Y e).1);have afg:(Instr.entry (π (μ ⟨w.heap.size,0,ν⟩))).run eY w1=.ok (τ #[ι κ Z,.agg #[ι κ Z,ι κ cs,σ ca V X]]) w1:=Ar;have kE:eB w w1:=⟨H.os.trans hC.nQ.os,H.tape.trans hC.nQ.tape,H.output.trans hC.nQ.output,Nat.le_trans hC.nQ.size H.size,λi hi=>(H.block i dZ (λe=>by simp at e;omega)).trans (hC.nQ.block i hi)⟩
   have Di:=DZ Z cs ca V X (es Z) (w1.alloc (γ #[ι κ Z,ι κ cs,σ ca V X] 40)) M ki (CP.below (kE.alloc kE.size _));have T:Hid _:=hC;have HX:Hid (left (.int .i64 Z)=true/\tf Z/\f Z=μ ⟨Z,cs,ca,V,X⟩/\wr.grownBy w1 (μ w.heap.size)/\w1.heap.size=wr.heap.size/\w.heap.size<wr.heap.size/\out.length<=6):=⟨hlx,zn,J,H,DQ,hww,u⟩
   have HG:Hid (w1.ranges eY 3 tr b w.heap.size n D (λz=>left z&& !z.sameKey (.int .i64 Z)) KB):=Uj;have HM:Hid _:=Gk;have HO:Hid (wr.rangeLeft b w.heap.size=Q):=Hd.left_eq;clear hC hlx zn J H DQ hww u Uj Gk Hd Ar hat hy hv yv hwx hx6 CP ki M kE;go_wp2_with(fail);refine Di.mono ?_;rintro e w2 ⟨⟨va,vc,rfl,vo,vn,vl,Gj⟩,k2⟩;clear Di afg;have vY:Row w2 3 u3 out.length (Ld out):=by
    obtain⟨q1,q2,q3,q4,q5,q6,q7⟩:=HX.out;have s1:(w1.alloc (γ #[ι κ Z,ι κ cs,σ ca V X] 40)).heap.size=w1.heap.size+1:=gU;refine T.out.row.keep (by have:=k2.size;omega) (λk Y=> ?_);have Xr:=T.out.row.lt k Y;have rL:=T.out.own k Y;exact(k2.block k dZ).trans (((gT w1 _).block k dZ).trans (q4.block k Xr (λe=>by simp at e;omega)))
   have h7:out.length<=6:=HX.out.2.2.2.2.2.2;obtain⟨m,hm⟩:=gg (out.length);rw[hm]at vY h7;have HN:Hid _:=hm;clear hm;go_wp2_with(at_builtin;go_must(refine iG _ rfl (.tmp 12) (.tmp 15) 91 rfl 40 i0 (.agg #[ι κ 0,ι κ 0,σ ν 0 0]) 3 40 underlying91 hi og mZ mc rfl ew u3 m (Ld out) rfl (vY.alloc _) _ 1 1 [ι κ Z,ι κ cs,σ va (es Z).length vc] rfl rfl ew (B6 _ _ _ _ _ _ gU) (U8 _ _ _ _ _) (by unfold maxLen;omega) dZ ?_));intro g' jn w3 sD sE sG;have E:Hid (w3.ranges eY 3 tr b w.heap.size n D (λz=>left z&& !z.sameKey (.int .i64 Z)) KB/\w.heap.size<w3.heap.size/\U7 w w3 f es (λz=>left z&& !z.sameKey (.int .i64 Z)) (σ (μ ⟨g',0,ν⟩) (m+1) jn) (out++ [⟨Z,cs,va,(es Z).length,vc⟩])):=by
    obtain⟨q1,q2,q3,q4,q5,q6,q7⟩:=HX.out;have G:=NK k2 sE;have s1:(w1.alloc (γ #[ι κ Z,ι κ cs,σ ca V X] 40)).heap.size=w1.heap.size+1:=gU;have s2:(w2.alloc (γ #[ι κ Z,ι κ cs,σ va (es Z).length vc] 40)).heap.size=w2.heap.size+1:=gU;have k2s:=k2.size;have g3s:=sE.size;have U:∀k,u3.ownBlock=μ k->w.heap.size<k/\k<wr.heap.size:=λk Y=>⟨T.out.own k Y,T.out.row.lt k Y⟩
    refine⟨World.ranges.kept HG.out G (λe=>by have:=U b e.symm;omega) (λe=>by have:=U _ e.symm;omega),dZ,?_⟩;refine T.out.step (s:=⟨Z,cs,va,(es Z).length,vc⟩) (t:=⟨Z,cs,ca,V,X⟩) q4 G (by rw[HN.out];exact sD) (λg hg=> ?_) q6 (λj hj=> ?_) q2 q1 q3 rfl rfl (vo.kept (cap:=vc) (λj hj=> ?_)) vn
    ·have QD:g'=g:=by simpa[eh]using hg
     subst QD;rcases sG with e|e
     {exact .inl e};{right;omega}
    ·obtain⟨c1,c2⟩:=Gj j hj;refine⟨dZ,dZ,λe=> ?_⟩;have QD:g'=j:=by simpa[eh]using e
     subst QD;rcases sG with e|e
     {have:=U _ e;omega};{omega}
    ·obtain⟨c1,c2⟩:=Gj j hj;exact(sE.block j dZ (λe=>by have:=U j e.symm;omega)).trans ((gT w2 _).block j c2)
   have Hg:Hid (w3.rangeLeft b w.heap.size<wr.rangeLeft b w.heap.size):=by
    show _<_;rw[World.ranges.left_eq E.out.1,HO.out];exact HM.out
   clear sD sE sG k2 vo Gj vY HO
   go_wp2
   go_roundw
   case rel=>exact⟨_,KB,_,E.out⟩
   case measure=>exact Hg.out
def Fine(w:dX)(f:Int->Option SV)(es:Int->List jJ):Prop:=∀k s,tf k->f k=μ s->(1<=k/\k<=6)/\s.own=k/\jc w s.a s.n (es k)/\kJ s.a s.cap/\s.n<=1000000
theorem NL(B:Nat)(m:FM)(k:Nat)(kn:Int->Option SV)(ow:Nat->Int->Option SV)(es:Int->List jJ)(w:dX)(h:FB w B m k kn ow)(hf:Fine w kn es):
 eX eY 110 #[π (μ ⟨B,0,ν⟩)] w λe w'=>∃v ts,e=ρ v/\En w w' kn es v ts:=by
 have Z:=Eo m.bm k kn es w h.km hf;have c0:=h.c0;have lB:=h.lt;clear h hf
 go_in
 go_wp2_with(fail);refine Z.mono ?_;rintro e w2 ⟨v,ts,rfl,Y⟩;have X:Hid _:=Y;clear Z Y
 go_wp2
 go_ret;exact⟨_,_,rfl,X.out⟩
theorem Va(B:Nat)(m:FM)(k:Nat)(kn:Int->Option SV)(ow:Nat->Int->Option SV)(es:Int->List jJ)(p:Nat)(w:dX)(h:FB w B m k kn ow)(U:p<m.bs.length)(hf:Fine w (ow p) es):
 eX eY 151 #[π (μ ⟨B,0,ν⟩),ι κ (p:Int)] w λe w'=>∃v ts,e=ρ v/\En w w' (ow p) es v ts:=by
 have hh:=Dh B m k kn ow (p:Int) w h;have hv:(decide (0<=(p:Int))&&decide ((p:Int)<(m.bs.length:Int)))=true:=by simp;omega
 rw[hv]at hh;clear hv;have hpi:(p:Int)<(m.bs.length:Int):=dZ;have yu:=h.few;have Y:m.bs[p]? =μ m.bs[p] :=ay U;have Z:=Eo m.bs[p] k (ow p) es w (h.om p _ Y) hf;have c1:w.cell? ⟨B,1,ν⟩=μ (σ (μ ⟨m.g,0,ν⟩) m.bs.length m.cap):=h.c1;have lB:=h.lt;have cp:=h.port p _ Y;have gl:m.g<w.heap.size:=ag w _ cp;generalize m.bs[p] =bp at cp Z;clear Y h hf
 go_in
 go_wp2_with(fail);refine hh.mono ?_;rintro e w1 ⟨rfl,rfl⟩;clear hh;go_wp2_with(fail);refine Z.mono ?_;rintro e w2 ⟨v,ts,rfl,X⟩;have V:Hid _:=X;clear Z X
 go_wp2
 go_ret;exact⟨_,_,rfl,V.out⟩
theorem Vb:(eY.info? 211).map (λi=>(i.zero,i.size,i.bytes))=μ (μ (.map ν),1,8):=gS
theorem yC(w:dX)(x:dY)(t:TypeId)(g:Nat)(Z:w.heap.size=g):∀(j:Nat) (u:dY),[x][j]? =μ u->(w.alloc (γ #[x] t)).cell? ((⟨g,0,ν⟩:dW).add j)=μ u:=by
 subst Z;exact qF w x t
theorem YE(b:Option Nat):∀u∈ [ga b],u.oneCell'=true:=by simp[eA]
theorem acn(W:dX):(gb 211 ν).run eY W=.ok (.map (μ W.heap.size)) (W.alloc (.map #[] 0)):=rfl
theorem Vc(w:dX):(zeroValue 214).run eY w=.ok (.agg #[.map ν,σ ν 0 0]) w:=gS
structure Gt(w wr:dX)(v:dY)(bs:List Nat):Prop where
 od:wr.heap[w.heap.size+1]? =μ (γ #[.map (μ w.heap.size),v] 214 (0,0))
 row:Row wr 1 v bs.length (bs.map λb=>ga (μ b))
 km:SMap wr w.heap.size 0 (λ_=>ν)
 om:∀b∈bs,SMap wr b 0 (λ_=>ν)
 ge:∀b∈bs,w.heap.size+2<=b
 own:∀g,v.ownBlock=μ g->w.heap.size+2<=g/\g∉bs
 nd:bs.Nodup
 nQ:eB w wr
theorem Gt.step {g' jn:Nat} (h:Gt w wr v bs)(X:((wr.alloc (.map #[] 0)).alloc o).grownBy w3 v.ownBlock)(hv:v'=σ (μ ⟨g',0,ν⟩) (bs.length+1) jn)
 (G:Row w3 1 v' (bs.length+1) ((bs.map λb=>ga (μ b))++ [.map (μ wr.heap.size)])) (H:v.ownBlock=μ g' \/wr.heap.size+2<=g'):Gt w (w3.setCell ⟨w.heap.size+1,1,ν⟩ v') v' (bs++ [wr.heap.size]):=by
 have D:w.heap.size+1<wr.heap.size:=(ax.1 h.od).1;have s2:((wr.alloc (.map #[] 0)).alloc o).heap.size=wr.heap.size+2:=gU;have b2:eB wr ((wr.alloc (.map #[] 0)).alloc o):=(gT _ _).alloc gU _;have hs3:=X.size;have V:∀i,i<wr.heap.size->v.ownBlock≠μ i->w3.heap[i]? =wr.heap[i]? :=λi hi E=>(X.block i dZ (λe=>E e.symm)).trans (b2.block i hi);have U:∀i,i≠w.heap.size+1->(w3.setCell ⟨w.heap.size+1,1,ν⟩ v').heap[i]? =w3.heap[i]? :=λi hi=>ak _ _ _ i hi;have S:w3.heap[w.heap.size+1]? =μ (γ #[.map (μ w.heap.size),v] 214 (0,0)):=(V _ D (λe=>by have:=(h.own _ e).1;omega)).trans h.od;have Z:∀b∈bs,b<wr.heap.size:=λb hb=>(h.om b hb).lt;have T:w.heap.size+2<=g'/\g'∉bs/\g'≠wr.heap.size:=by
  rcases H with e|e
  {have:=h.own g' e;have h2:=h.row.lt g' e;exact⟨this.1,this.2,dZ⟩};{exact⟨dZ,λY=>by have:=Z g' Y;omega,dZ⟩}
 refine⟨?_,?_,?_,?_,?_,?_,?_,?_⟩;{have s:=cF w3 (w.heap.size+1) #[.map (μ w.heap.size),v] (#[.map (μ w.heap.size),v].setIfInBounds 1 v') 214 (0,0) S;rw[<-bL w3 (w.heap.size+1) 1 _ _ (0,0) _ S]at s;exact s}
 ·rw[az,cU];refine G.keep gU (λk M=>U k ?_);rw[hv]at M;have:g'=k:=by simpa[eh]using M
  omega
 ·refine h.km.keep ((U _ dZ).trans (V _ h.km.lt (λe=>by have:=(h.own _ e).1;omega)))
 ·intro b hb;rcases av.1 hb with hb|hb
  ·have h1:=h.ge b hb;exact(h.om b hb).keep ((U b dZ).trans (V b (Z b hb) (λe=>(h.own b e).2 hb)))
  ·have:b=wr.heap.size:=by simpa using hb
   subst this;refine(SMap.made wr).keep ((U _ dZ).trans ((X.block _ dZ (λe=> ?_)).trans ?_));{have:=h.row.lt _ e.symm;omega};{exact aU _ _ _ gU}
 ·intro b hb;rcases av.1 hb with hb|hb
  ·exact h.ge b hb
  ·have:b=wr.heap.size:=by simpa using hb
   omega
 ·intro g Q;rw[hv]at Q;have:g'=g:=by simpa[eh]using Q
  subst this;refine⟨T.1,λY=> ?_⟩;rcases av.1 Y with Y|Y
  {exact T.2.1 Y};{exact T.2.2 (by simpa using Y)}
 ·rw[bE];refine⟨h.nd,gU,λa J b hb=> ?_⟩;have:b=wr.heap.size:=by simpa using hb
  have:=Z a J;omega
 ·have b3:eB w w3:=⟨X.os.trans (b2.os.trans h.nQ.os),X.tape.trans (b2.tape.trans h.nQ.tape),X.output.trans (b2.output.trans h.nQ.output),by have:=h.nQ.size;omega,λi hi=>(V i dZ (λe=>by have:=(h.own i e).1;omega)).trans (h.nQ.block i hi)⟩
  exact b3.setCell (by show _<=w.heap.size+1;omega) _
theorem Gt.fb(h:Gt w wr v bs)(h1:0<bs.length)(U:bs.length<=3):∃g cap,FB wr (w.heap.size+1) {bm:=w.heap.size,g:=g,cap:=cap,bs:=bs} 0 (λ_=>ν) (λ_ _=>ν):=by
 rcases h.row.2 with⟨_,e⟩|⟨g,cap,e,_⟩
 {omega};{have T:=h.own g (by rw[e];rfl);have hb:=h.od;have Z:=h.row;rw[e]at hb Z;refine⟨g,cap,hb,Z,h.km,λi b X=>h.om b (bI X),U,⟨by show w.heap.size≠w.heap.size+1;omega,by show g≠w.heap.size+1;omega,by show w.heap.size≠g;omega,λb Y=> ?_⟩,h.nd⟩;have h4:=h.ge b Y;exact⟨dZ,λV=>T.2 (by rw[<-show b=g from V];exact Y),by show b≠w.heap.size;omega⟩}
theorem aiK(p:Int)(w:dX)(Y:p<1 \/3<p):
 eX eY 66 #[ι κ p] w λe w'=>e=ρ (τ #[π ν,ji 1])/\w=w':=by
 have Z:Hid (ji 1=.iface 128 (ι κ 1)):=rfl;by_cases h1:p<1
 ·clear Y
  go_in
  go_wp2_with(fail);rw[Z.out]
  go_ret2
  exact⟨rfl,rfl⟩
 ·have h3:3<p:=dZ;clear Y
  go_in
  go_wp2_with(fail);rw[Z.out]
  go_ret2
  exact⟨rfl,rfl⟩
theorem acp(p:Nat)(w:dX)(hp:1<=p/\p<=3):
 eX eY 66 #[ι κ (p:Int)] w λe w'=>e=ρ (τ #[π (μ ⟨w.heap.size+1,0,ν⟩),η])/\∃v bs,Gt w w' v bs/\bs.length=p:=by
 obtain⟨i0,hi,og,mZ,mc⟩:=aW Vb;have h1:¬((p:Int)<1):=dZ;have h3:¬(3<(p:Int)):=dZ;obtain⟨y,T⟩:=gg ((w.alloc (.map #[] 0)).alloc (γ #[.map (μ w.heap.size),σ ν 0 0] 214));have M:Gt w y (σ ν 0 0) [] :=by
  rw[<-T];refine⟨?_,Row.nil _ 1,(SMap.made w).alloc _,λb hb=>by simp at hb,λb hb=>by simp at hb,λg u=>by simp[eh]at u,cZ,(gT _ _).alloc gU _⟩;have:=aY (w.alloc (.map #[] 0)) (γ #[.map (μ w.heap.size),σ ν 0 0] 214);simpa using this
 have D:Hid _:=T;have hmk:∀W:dX,(gb 211 ν).run eY W=.ok (.map (μ W.heap.size)) (W.alloc (.map #[] 0)):=λW=>acn W;have hzb:=Vc;clear T
 go_in
 go_wp2_with(fail);rw[D.out]
 go_loopw [16] (λi wr=>∃(j:Nat) (v:dY) (bs:List Nat),j<=p/\i=ι κ j/\bs.length=j/\Gt w wr v bs) (λi _=>p-(eZ i).toNat)
 case atStart=>exact⟨0,_,[],Nat.zero_le _,rfl,rfl,M⟩
 case round=>
  clear M;obtain⟨j,v,bs,hj,rfl,hl,Z⟩:=hrel;by_cases kA:j<p
  ·have nL:(j:Int)<(p:Int):=dZ;have c1:wr.cell? ⟨w.heap.size+1,1,ν⟩=μ v:=aw wr _ 1 _ _ (0,0) Z.od;have h:w.heap.size+1<wr.heap.size:=ag wr _ c1;have U:=Z.row;rw[hl]at U;have X:Hid _:=hl;have Y:Hid _:=Z;clear Z hl;go_wp2_with(at_builtin;go_must(refine iG _ rfl (.tmp 22) (.tmp 24) 212 rfl 211 i0 (.map ν) 1 8 underlying212 hi og mZ mc rfl ew v j _ rfl ((U.alloc _).alloc _) _ 1 1 [.map (μ wr.heap.size)] rfl rfl ew (yC _ _ _ _ gU) (YE _) (by unfold maxLen;omega) dZ ?_));intro Q J w3 H S G;have V:w3.heap[w.heap.size+1]? =μ (γ #[.map (μ w.heap.size),v] 214 (0,0)):=by
    refine(S.block _ (by simp;omega) (λe=> ?_)).trans ((((gT wr (.map #[] 0)).alloc gU _).block _ h).trans Y.out.od);have:=(Y.out.own _ e.symm).1;omega
   have c3:w3.cell? ⟨w.heap.size+1,1,ν⟩=μ v:=aw w3 _ 1 _ _ (0,0) V;have f3:=bD w3 (w.heap.size+1) 1 _ _ V;have l3:w.heap.size+1<w3.heap.size:=ag w3 _ c3;have E:Hid (Gt w (w3.setCell ⟨w.heap.size+1,1,ν⟩ (σ (μ ⟨Q,0,ν⟩) (j+1) J)) (σ (μ ⟨Q,0,ν⟩) (j+1) J) (bs++ [wr.heap.size])):=by
    refine Y.out.step S (by rw[X.out]) (by rw[X.out];exact H) ?_;rcases G with e|e
    {exact .inl e};{right;simpa using e}
   clear H S G V U
   go_wp2
   go_roundw
   case rel=>exact⟨j+1,_,_,dZ,by go_num,by simp[X.out],E.out⟩
   case measure=>simp[eZ];omega
  ·have A:j=p:=dZ;subst A;have Y:Hid (∃v bs,Gt w wr v bs/\bs.length=j):=⟨v,bs,Z,hl⟩
   clear Z hl
   go_wp2
   go_ret2
   exact⟨rfl,Y.out⟩
abbrev PS:=Int×List jJ
structure Lf(w:dX)(m:FM)(k:Int)(q:PS)(s:SV):Prop where
 own:s.own=k
 seq:s.seq=q.1
 n:s.n=q.2.length
 opt:jc w s.a s.n q.2
 nil:kJ s.a s.cap
 ok:oA k q.1 q.2=0
 lt:∀j,eh (σ s.a s.n s.cap)=μ j->j<w.heap.size
 far:∀j,eh (σ s.a s.n s.cap)=μ j->j≠m.bm/\j∉m.bs/\¬m.no j
def Tie(w:dX)(m:FM)(f:Int->Option SV)(F:Int->Option PS):Prop:=∀k,tf k->match F k with
 |none=>f k=none
 |some q=>∃s,f k=some s/\Lf w m k q s
theorem Lf.kept {q:PS} {s:SV} (h:Lf w m k q s)(Y:jC w w' m):Lf w' m k q s:=⟨h.own,h.seq,h.n,h.opt.Ua (cap:=s.cap) Y (λj Z=>⟨(h.far j Z).1,(h.far j Z).2.1⟩),h.nil,h.ok,λj Z=>Nat.lt_of_lt_of_le (h.lt j Z) Y.size,h.far⟩
theorem Tie.kept {w w':dX} {m:FM} {f:Int->Option SV} {F:Int->Option PS} (h:Tie w m f F)(X:jC w w' m):Tie w' m f F:=by
 intro k V;have:=h k V;cases e:F k with
 |none=>rw[e]at this;exact this
 |some q=>rw[e]at this;obtain⟨s,Z,Y⟩:=this;exact⟨s,Z,Y.kept X⟩
theorem Tie.zE {f:Int->Option SV} {F:Int->Option PS} (h:Tie w m f F)(Z:tf k)(e:F k=ν):f k=ν:=by have:=h k Z;rw[e]at this;exact this
theorem Tie.uP {f:Int->Option SV} {F:Int->Option PS} (h:Tie w m f F)(Z:tf k) {q:PS} (e:F k=μ q):∃s,f k=μ s/\Lf w m k q s:=by have:=h k Z;rw[e]at this;exact this
def wq(F:Int->Option PS)(k:Int)(q:PS):Int->Option PS:=λx=>if x=k then μ q else F x
def yD(F:Int->Option PS)(k:Int):Int->Option PS:=λx=>if x=k then ν else F x
theorem Tie.put {f:Int->Option SV} {F:Int->Option PS} (h:Tie w m f F) {q:PS} {s:SV} (hs:Lf w m k q s):Tie w m (tM f k s) (wq F k q):=by
 intro x Z;by_cases e:x=k;{subst e;simp only[wq,tM,if_true];exact⟨s,rfl,hs⟩};{have:=h x Z;simp only[wq,tM,if_neg e];exact this}
theorem Tie.out {f:Int->Option SV} {F:Int->Option PS} (h:Tie w m f F)(k:Int):Tie w m (del f k) (yD F k):=by
 intro x Z;by_cases e:x=k;{subst e;simp only[yD,del,if_true]};{have:=h x Z;simp only[yD,del,if_neg e];exact this}
structure BR(w:dX)(B:Nat)(m:FM)(n:Nat)(K:Int->Option PS)(O:Nat->Int->Option PS):Prop where
 ex:∃kn ow,FB w B m n kn ow/\Tie w m kn K/\∀i,i<m.bs.length->Tie w m (ow i) (O i)
 Rl:∀j,m.no j->j<w.heap.size
theorem BR.Jl {K:Int->Option PS} {O:Nat->Int->Option PS} (h:BR w B m n K O)(hs:w.heap.size<=w'.heap.size):∀j,m.no j->j<w'.heap.size:=λj Z=>Nat.lt_of_lt_of_le (h.Rl j Z) hs
def newF(K:Int->Option PS)(own seq:Int)(es:List jJ):Int:=match K own with|none=>1|some q=>lT seq es q.1 q.2
theorem Ep(B:Nat)(m:FM)(k:Nat)(kn:Int->Option SV)(ow:Nat->Int->Option SV)(K:Int->Option PS)(own seq:Int)(a:Option dW)(n cap:Nat)(es:List jJ)(w:dX)(h:FB w B m k kn ow)(X:Tie w m kn K)(Z:tf own)(T:jc w a n es)(U:n<=1000000):
 eX eY 217 #[π (μ ⟨B,0,ν⟩),.agg #[ι κ own,ι κ seq,σ a n cap]] w λe w'=>e=ρ (ι κ (newF K own seq es))/\eB w w':=by
 cases e:K own with
 |none=>
  have hv:newF K own seq es=1:=by rw[newF,e]
  rw[hv];exact MX B m k kn ow own seq a n cap w h Z (X.zE Z e)
 |some q=>
  obtain⟨s,V,Y⟩:=X.uP Z e;have hv:newF K own seq es=lT seq es s.seq q.2:=by rw[newF,e,Y.seq]
  rw[hv];exact MY B m k kn ow own seq a n cap es s q.2 w h Z V T U Y.opt
def lr(K:Int->Option PS)(own seq:Int)(es:List jJ):Int->Option PS:=if 0<newF K own seq es then wq K own (seq,es)else K
def oT(K:Int->Option PS)(O:Nat->Int->Option PS)(p:Nat)(own seq:Int)(es:List jJ):Nat->Int->Option PS:=λi=>
 if 0<newF K own seq es then(if i=p then yD (wq (O p) own (seq,es)) own else wq (O i) own (seq,es))
 else if newF K own seq es<0 then(if i=p then(match K own with|none=>O p|some q=>wq (O p) own q)else O i)
 else(if i=p then yD (O p) own else O i)
theorem Er(K:Int->Option PS)(own seq:Int)(es:List jJ)(h:∀q:PS,lT seq es q.1 q.2= -1 \/lT seq es q.1 q.2=0 \/lT seq es q.1 q.2=1):newF K own seq es= -1 \/newF K own seq es=0 \/newF K own seq es=1:=by
 unfold newF;cases K own with
 |none=>exact .inr (.inr rfl)
 |some q=>exact h q
theorem Rm(B:Nat)(m:FM)(k:Nat)(K:Int->Option PS)(O:Nat->Int->Option PS)(p:Nat)(own seq:Int)(a:Option dW)(n cap:Nat)(es:List jJ)(w:dX)(h:BR w B m k K O)(Q:tf own)(E:p<m.bs.length)(S:jc w a n es)(ki:kJ a cap)(y:k<=1000000)(hf:oA own seq es=0)
 (hS:∀q:PS,lT seq es q.1 q.2= -1 \/lT seq es q.1 q.2=0 \/lT seq es q.1 q.2=1):
 eX eY 190 #[π (μ ⟨B,0,ν⟩),ι κ (p:Int),.agg #[ι κ own,ι κ seq,σ a n cap]] w λe w'=>e=ρ (τ #[ι κ (newF K own seq es),η])/\BR w' B m (k+1+m.bs.length) (lr K own seq es) (oT K O p own seq es)/\jC w w' m:=by
 obtain⟨kn,ow,hF,U,X⟩:=h.ex;have hn:n<=6:=by have:=(ju hf).2.2.1;rw[S.1]at this;exact this
 have G:n<=maxLen:=by unfold maxLen;omega
 have V:∀W,eB w W->eX eY 217 #[π (μ ⟨B,0,ν⟩),.agg #[ι κ own,ι κ seq,σ a n cap]] W λe w'=>e=ρ (ι κ (newF K own seq es))/\eB W w':=λW hb=>
  Ep B m k kn ow K own seq a n cap es W (hF.below hb) (U.kept (jC.iT m hb)) Q (S.below hb) dZ
 rcases Er K own seq es hS with e|e|e
 ·rw[e]at V⊢;cases J:K own with
  |none=>rw[newF,J]at e;cases e
  |some q=>
   obtain⟨s,A,u⟩:=U.uP Q J;refine(Ud B m k kn ow p own seq a n cap es w hF Q E S G hf s A y V).mono ?_;rintro D w1 ⟨rfl,M,Z⟩;refine⟨rfl,⟨⟨_,_,M.mono dZ,?_,λi hi=> ?_⟩,h.Jl Z.size⟩,Z⟩;{simp only[lr,e];exact U.kept Z};{simp only[oT,e,J];by_cases Y:i=p;{subst Y;simp;exact((X i hi).kept Z).put (u.kept Z)};{simp[Y];exact(X i hi).kept Z}}
 ·rw[e]at V⊢;refine(take_zero B m k kn ow p own seq a n cap es w hF Q E S G hf V).mono ?_;rintro D w1 ⟨rfl,M,Z⟩;refine⟨rfl,⟨⟨_,_,M.mono dZ,?_,λi hi=> ?_⟩,h.Jl Z.size⟩,Z⟩;{simp only[lr,e];exact U.kept Z};{simp only[oT,e];by_cases Y:i=p;{subst Y;simp;exact((X i hi).kept Z).out own};{simp[Y];exact(X i hi).kept Z}}
 ·rw[e]at V⊢;refine(Ue B m k kn ow p own seq a n cap es w hF Q E S G ki y hf V).mono ?_;rintro D w1 ⟨rfl,s,T⟩;have hs:Lf w1 m own (seq,es) s:=⟨T.so,T.ss,T.sn,T.so2,T.nil,hf,λj H=>(T.new j H).2,λj H=>by
   have A:=(T.new j H).1;exact⟨λe=>by have:=hF.mlt m.bm (.inl rfl);omega,λe=>by have:=hF.mlt j (.inr e);omega,λe=>by have:=h.Rl j e;omega⟩⟩
  refine⟨rfl,⟨⟨_,_,T.fb,?_,λi hi=> ?_⟩,h.Jl T.kept.size⟩,T.kept⟩;{simp only[lr,e];exact(U.kept T.kept).put hs};{simp only[oT,e];by_cases Y:i=p;{subst Y;simp;exact(((X i hi).kept T.kept).put hs).out own};{simp[Y,hi];exact((X i hi).kept T.kept).put hs}}
def qz(F G:Int->Option PS):Int->Option PS:=λk=>if(G k).isSome=true then G k else F k
theorem Tie.over {w:dX} {m:FM} {f g:Int->Option SV} {F G:Int->Option PS} (h:Tie w m f F)(Q:Tie w m g G):Tie w m (Go.Proofs.YtieklnlbljejdaaGreatDoor.over f g) (qz F G):=by
 intro k V;have U:=h k V;have Z:=Q k V;cases e:G k with
 |none=>
  rw[e]at Z;have Y:qz F G k=F k:=by simp[qz,e]
  have X:Go.Proofs.YtieklnlbljejdaaGreatDoor.over f g k=f k:=by simp[Go.Proofs.YtieklnlbljejdaaGreatDoor.over,Z]
  rw[Y,X];exact U
 |some q=>
  rw[e]at Z;obtain⟨s,T,S⟩:=Z;have Y:qz F G k=μ q:=by simp[qz,e]
  have X:Go.Proofs.YtieklnlbljejdaaGreatDoor.over f g k=μ s:=by simp[Go.Proofs.YtieklnlbljejdaaGreatDoor.over,T]
  rw[Y,X];exact⟨s,rfl,S⟩
theorem Rn(B:Nat)(m:FM)(k:Nat)(K:Int->Option PS)(O:Nat->Int->Option PS)(p:Nat)(w:dX)(h:BR w B m k K O)(T:p<m.bs.length):
 eX eY 124 #[π (μ ⟨B,0,ν⟩),ι κ (p:Int)] w λe w'=>e=ρ (τ #[])/\BR w' B m k K (λi=>if i=p then λ_=>ν else O i)/\jC w w' m:=by
 obtain⟨kn,ow,hF,U,V⟩:=h.ex;refine(Ug B m k kn ow p w hF T).mono ?_;rintro e w1 ⟨rfl,X,Z⟩;refine⟨rfl,⟨⟨_,_,X,U.kept Z,λi hi=> ?_⟩,h.Jl Z.size⟩,Z⟩;by_cases Y:i=p;{simp only[if_pos Y];exact λ_ _=>rfl};{simp only[if_neg Y];exact(V i hi).kept Z}
theorem Ro(B:Nat)(m:FM)(k:Nat)(K:Int->Option PS)(O:Nat->Int->Option PS)(p:Nat)(w:dX)(h:BR w B m k K O)(S:p<m.bs.length)(T:k<=1000000):
 eX eY 126 #[π (μ ⟨B,0,ν⟩),ι κ (p:Int)] w λe w'=>e=ρ η/\BR w' B m (k+k) K (λi=>if i=p then qz (O p) K else O i)/\jC w w' m:=by
 obtain⟨kn,ow,hF,V,X⟩:=h.ex;refine(Ul B m k kn ow p w hF S T).mono ?_;rintro e w1 ⟨rfl,U,Z⟩;refine⟨rfl,⟨⟨_,_,U,V.kept Z,λi hi=> ?_⟩,h.Jl Z.size⟩,Z⟩;by_cases Y:i=p;{subst Y;simp only[if_true];exact((X i hi).kept Z).over (V.kept Z)};{simp only[if_neg Y];exact(X i hi).kept Z}
theorem Lg(B:Nat)(m:FM)(k:Nat)(K:Int->Option PS)(O:Nat->Int->Option PS)(own seq:Int)(a:Option dW)(n cap:Nat)(es:List jJ)(w:dX)(h:BR w B m k K O)(S:tf own)(U:jc w a n es)(Q:kJ a cap)(V:k<=1000000)(hf:oA own seq es=0):
 eX eY 67 #[π (μ ⟨B,0,ν⟩),.agg #[ι κ own,ι κ seq,σ a n cap]] w λe w'=>e=ρ η/\BR w' B m (k+1+m.bs.length) (wq K own (seq,es)) (λi=>wq (O i) own (seq,es))/\jC w w' m:=by
 obtain⟨kn,ow,hF,X,Y⟩:=h.ex;refine(abL B m k kn ow own seq a n cap es w hF S U Q V hf).mono ?_;rintro e w1 ⟨rfl,s,T⟩;have hs:Lf w1 m own (seq,es) s:=⟨T.so,T.ss,T.sn,T.so2,T.nil,hf,λj Z=>(T.new j Z).2,λj Z=>by
  have h1:=(T.new j Z).1;exact⟨λe=>by have:=hF.mlt m.bm (.inl rfl);omega,λe=>by have:=hF.mlt j (.inr e);omega,λe=>by have:=h.Rl j e;omega⟩⟩
 refine⟨rfl,⟨⟨_,_,T.fb,(X.kept T.kept).put hs,λi hi=> ?_⟩,h.Jl T.kept.size⟩,T.kept⟩;simp only[if_pos hi];exact((Y i hi).kept T.kept).put hs
theorem NM(B:Nat)(m:FM)(k:Nat)(K:Int->Option PS)(O:Nat->Int->Option PS)(p:Nat)(own seq:Int)(a:Option dW)(n cap:Nat)(es:List jJ)(w:dX)(h:BR w B m k K O)(M:tf own)(Q:p<m.bs.length)(V:jc w a n es)(hf:oA own seq es=0)
 (E:∀q:PS,lT seq es q.1 q.2= -1 \/lT seq es q.1 q.2=0 \/lT seq es q.1 q.2=1):
 eX eY 191 #[π (μ ⟨B,0,ν⟩),ι κ (p:Int),.agg #[ι κ own,ι κ seq,σ a n cap]] w λe w'=>e=ρ η/\BR w' B m k K (λi=>if i=p/\0<=newF K own seq es then yD (O p) own else O i)/\jC w w' m:=by
 obtain⟨kn,ow,hF,T,U⟩:=h.ex;have hn:n<=6:=by have:=(ju hf).2.2.1;rw[V.1]at this;exact this
 have S:n<=maxLen:=by unfold maxLen;omega
 have Y:∀W,eB w W->eX eY 217 #[π (μ ⟨B,0,ν⟩),.agg #[ι κ own,ι κ seq,σ a n cap]] W λe w'=>e=ρ (ι κ (newF K own seq es))/\eB W w':=λW hb=>
  Ep B m k kn ow K own seq a n cap es W (hF.below hb) (T.kept (jC.iT m hb)) M (V.below hb) dZ
 have key:∀w1,FB w1 B m k kn (λi=>if i=p then del (ow p) own else ow i)->jC w w1 m->0<=newF K own seq es->BR w1 B m k K (λi=>if i=p/\0<=newF K own seq es then yD (O p) own else O i):=by
  intro w1 X Z G;refine⟨⟨_,_,X,T.kept Z,λi hi=> ?_⟩,h.Jl Z.size⟩;by_cases J:i=p;{subst J;simp only[if_true,G,and_self];exact((U i hi).kept Z).out own};{simp only[J,if_false,false_and];exact(U i hi).kept Z}
 rcases Er K own seq es E with e|e|e
 ·rw[e]at Y;refine(QO B m k kn ow p own seq a n cap es w hF Q V S hf Y).mono ?_;rintro H w1 ⟨rfl,b1⟩;have Z:=jC.iT m b1;refine⟨rfl,⟨⟨_,_,hF.below b1,T.kept Z,λi hi=> ?_⟩,h.Jl Z.size⟩,Z⟩;have:¬(i=p/\0<=newF K own seq es):=by rw[e];omega
  simp only[if_neg this];exact(U i hi).kept Z
 {rw[e]at Y;refine(M4 B m k kn ow p own seq a n cap es w hF M Q V S hf Y).mono ?_;rintro H w1 ⟨rfl,X,Z⟩;exact⟨rfl,key w1 X Z dZ,Z⟩};{rw[e]at Y;refine(QN B m k kn ow p own seq a n cap es w hF M Q V S hf Y).mono ?_;rintro H w1 ⟨rfl,X,Z⟩;exact⟨rfl,key w1 X Z dZ,Z⟩}
theorem Vd(p:Nat)(w:dX)(U:1<=p/\p<=3):
 eX eY 66 #[ι κ (p:Int)] w λe w'=>e=ρ (τ #[π (μ ⟨w.heap.size+1,0,ν⟩),η])/\∃m:FM,m.bs.length=p/\BR w' (w.heap.size+1) m 0 (λ_=>ν) (λ_ _=>ν)/\eB w w'/\w.heap.size<=m.bm/\w.heap.size<=m.g/\(∀b∈m.bs,w.heap.size<=b):=by
 refine(acp p w U).mono ?_;rintro e w1 ⟨rfl,v,bs,Z,hl⟩;rcases Z.row.2 with⟨_,e⟩|⟨g,cap,e,_⟩
 ·omega
 ·obtain⟨Y,cap2,hF⟩:=Z.fb dZ dZ;refine⟨rfl,_,hl,⟨⟨_,_,hF,λ_ _=>rfl,λ_ _ _ _=>rfl⟩,λ_ h=>h.elim⟩,Z.nQ,Nat.le_refl _,?_,λb hb=> ?_⟩
  ·have X:=hF.od;rw[Z.od]at X;have V:v=FM.sl {bm:=w.heap.size,g:=Y,cap:=cap2,bs:=bs}:=by simpa using X
   have:=Z.own Y (by rw[V];rfl);show w.heap.size<=Y;omega
  ·have:=Z.ge b hb;omega
def mT(F:Int->Option PS):Int->List jJ:=λk=>((F k).map (·.2)).getD []
theorem Tie.fine {f:Int->Option SV} {F:Int->Option PS} (h:Tie w m f F):Fine w f (mT F):=by
 intro k s V hs;cases e:F k with
 |none=>rw[h.zE V e]at hs;cases hs
 |some q=>
  obtain⟨t,Y,Z⟩:=h.uP V e;rw[hs]at Y;obtain rfl:=Option.some.inj Y;have X:=ju Z.ok;have U:mT F k=q.2:=by simp[mT,e]
  rw[U];exact⟨X.1,Z.own,Z.opt,Z.nil,by have:=X.2.2.1;have:=Z.n;omega⟩
structure vr(F:Int->Option PS)(n:Nat)(S:Nat->SV)(E:Nat->List jJ):Prop where
 at_:∀j,j<n->tf (S j).own/\F (S j).own=μ ((S j).seq,E j)
 ok:∀j,j<n->oA (S j).own (S j).seq (E j)=0
 all:∀k,tf k->(F k).isSome=true->∃j,j<n/\(S j).own=k
 Tw:∀i j,i<j->j<n->(S i).own<(S j).own
theorem aaI(ts:List SV)(j:Nat)(h:j<ts.length):ts[j]? =μ (ts.getD j SV.zero):=by
 rw[aJ,ay h];rfl
theorem En.lists {f:Int->Option SV} {F:Int->Option PS} {ts:List SV} (V:En w w' f (mT F) v ts)(M:Tie w m f F):
 ∃a cap,v=σ a ts.length cap/\vT w' a ts.length (λj=>ts.getD j SV.zero) (λj=>mT F (ts.getD j SV.zero).own)/\vr F ts.length (λj=>ts.getD j SV.zero) (λj=>mT F (ts.getD j SV.zero).own)/\ts.length<=6/\(∀j,eh v=μ j->w.heap.size<j):=by
 have KG:∀j,j<ts.length->acj w w' f (mT F) v (ts.getD j SV.zero):=λj Z=>V.el _ (bI (aaI ts j Z));have hat:∀j,j<ts.length->∃q,F (ts.getD j SV.zero).own=μ q/\q.1=(ts.getD j SV.zero).seq/\q.2=mT F (ts.getD j SV.zero).own/\oA (ts.getD j SV.zero).own q.1 q.2=0:=by
  intro j Z;have h:=KG j Z;obtain⟨t,U,hs⟩:=h.at_;cases e:F (ts.getD j SV.zero).own with
  |none=>rw[M.zE h.inr e]at U;cases U
  |some q=>
   obtain⟨t2,Y,X⟩:=M.uP h.inr e;rw[U]at Y;obtain rfl:=Option.some.inj Y;exact⟨q,rfl,by rw[hs,X.seq],by unfold mT;rw[e];rfl,X.ok⟩
 have S:vr F ts.length (λj=>ts.getD j SV.zero) (λj=>mT F (ts.getD j SV.zero).own):=by
  refine⟨λj Z=> ?_,λj Z=> ?_,λk A hs=> ?_,λi j J Z=> ?_⟩;{obtain⟨q,T,Y,X,E⟩:=hat j Z;refine⟨(KG j Z).inr,?_⟩;rw[T,<-Y,<-X]};{obtain⟨q,T,Y,X,E⟩:=hat j Z;rw[<-Y,<-X];exact E}
  ·cases e:F k with
   |none=>rw[e]at hs;cases hs
   |some q=>
    obtain⟨t,U,_⟩:=M.uP A e;obtain⟨s,hm,G⟩:=V.all k A (by rw[U];rfl);obtain⟨j,Z,H⟩:=dj hm;refine⟨j,Z,?_⟩;have:ts.getD j SV.zero=s:=by rw[aJ,ay Z];exact H
    show(ts.getD j SV.zero).own=k;rw[this];exact G
  ·have hp:=V.Tw;have hi:i<ts.length:=dZ;have:=dA.1 hp i j hi Z J;have Q:ts.getD i SV.zero=ts[i] :=by rw[aJ,ay hi];rfl
   have y:ts.getD j SV.zero=ts[j] :=by rw[aJ,ay Z];rfl
   show(ts.getD i SV.zero).own<(ts.getD j SV.zero).own;rw[Q,y];exact this
 have D:ts.length<=6:=by
  have:=uO (ts.map SV.own) [1,2,3,4,5,6] (by rw[dx];exact V.Tw.imp (λh=>dZ)) (λx hx=>by
   obtain⟨s,hs,rfl⟩:=bH.1 hx;obtain⟨j,Z,rfl⟩:=dj hs;have:=ju (S.ok j Z);have Q:ts.getD j SV.zero=ts[j] :=by rw[aJ,ay Z];rfl
   have T:=this.1;rw[Q]at T;simp;omega)
  simpa using this
 have u:∀j,j<ts.length->jc w' (ts.getD j SV.zero).a (ts.getD j SV.zero).n (mT F (ts.getD j SV.zero).own)/\kJ (ts.getD j SV.zero).a (ts.getD j SV.zero).cap/\(ts.getD j SV.zero).n<=maxLen:=by
  intro j Z;have h:=KG j Z;refine⟨h.opt,h.nil,?_⟩;have:=(ju (S.ok j Z)).2.2.1;rw[h.n];unfold maxLen;omega
 rcases V.shape with⟨rfl,rfl⟩|⟨g,cap,rfl,hS,hg⟩
 ·exact⟨ν,0,rfl,⟨.inl rfl,λj Z=>by simp at Z⟩,S,D,λj Z=>by simp[eh]at Z⟩
 ·refine⟨_,_,rfl,⟨.inr ⟨g,0,rfl,λj Z=> ?_⟩,u⟩,S,D,λj Z=> ?_⟩;{obtain⟨c1,c2,c3⟩:=hS.cell j _ (aaI ts j Z);rw[show 0+j*3=j*3 by omega];exact⟨c1,c2,c3⟩}
  ·have:g=j:=by simpa[eh]using Z
   omega
theorem BR.below {w w':dX} {B:Nat} {m:FM} {k:Nat} {K:Int->Option PS} {O:Nat->Int->Option PS} (h:BR w B m k K O)(hb:eB w w'):BR w' B m k K O:=by
 obtain⟨kn,ow,Z,Y,X⟩:=h.ex;exact⟨⟨kn,ow,Z.below hb,Y.kept (jC.iT m hb),λi hi=>(X i hi).kept (jC.iT m hb)⟩,h.Jl hb.size⟩
def akD(W:dX)(a:Option dW)(n cap:Nat)(S:Nat->SV):Prop:=(∀j,eh (σ a n cap)=μ j->W.heap.size<j)/\∀i,i<n->∀j,eh (σ (S i).a (S i).n (S i).cap)=μ j->W.heap.size<j
theorem Lh(B:Nat)(m:FM)(k:Nat)(K:Int->Option PS)(O:Nat->Int->Option PS)(w:dX)(h:BR w B m k K O):
 eX eY 110 #[π (μ ⟨B,0,ν⟩)] w λe w'=>∃a n cap S E,e=ρ (σ a n cap)/\vT w' a n S E/\vr K n S E/\n<=6/\akD w a n cap S/\eB w w':=by
 obtain⟨kn,ow,hF,Y,hO⟩:=h.ex;refine(NL B m k kn ow (mT K) w hF Y.fine).mono ?_;rintro e w1 ⟨v,ts,rfl,Z⟩;obtain⟨a,cap,rfl,X,V,U,T⟩:=Z.lists Y;refine⟨a,ts.length,cap,_,_,rfl,X,V,U,⟨T,λi hi j Q=> ?_⟩,Z.nQ⟩;have M:ts.getD i SV.zero∈ts:=by
  have:ts.getD i SV.zero=ts[i] :=by simp[List.getD,hi]
  rw[this];exact aF hi
 exact((Z.el _ M).new j Q).1
def xW(K:Int->Option PS)(i:Int):Int:=match K i with|none=>0|some _=>i
def qA(K:Int->Option PS)(i:Int):Int:=match K i with|none=>0|some q=>q.1
theorem Li(B:Nat)(m:FM)(k:Nat)(K:Int->Option PS)(O:Nat->Int->Option PS)(i:Int)(w:dX)(h:BR w B m k K O)(X:tf i):
 eX eY 177 #[π (μ ⟨B,0,ν⟩),ι κ i] w λe w'=>∃a cap,e=ρ (τ #[.agg #[ι κ (xW K i),ι κ (qA K i),σ a (mT K i).length cap],.bool (K i).isSome])/\jc w' a (mT K i).length (mT K i)/\kJ a cap/\(mT K i).length<=6/\eB w w':=by
 obtain⟨kn,ow,hF,M,hO⟩:=h.ex;cases e:K i with
 |none=>
  have J:=M.zE X e;refine(O9 B m k kn ow i SV.zero false [] w hF X (by rw[J];rfl) (by rw[J];rfl) ⟨rfl,.inl rfl⟩ ew (λ_=>rfl)).mono ?_;rintro Y w1 ⟨a,cap,rfl,T,S,Q⟩;have Y:mT K i=[] :=by simp[mT,e]
  have V:xW K i=0:=by simp[xW,e]
  have U:qA K i=0:=by simp[qA,e]
  rw[Y,V,U];exact⟨a,cap,rfl,T,S,gU,Q⟩
 |some q=>
  obtain⟨s,hs,Z⟩:=M.uP X e;have H:=(ju Z.ok).2.2.1;refine(O9 B m k kn ow i s true q.2 w hF X (by rw[hs];rfl) (by rw[hs];rfl) Z.opt (by rw[Z.n];omega) Z.nil).mono ?_;rintro Y w1 ⟨a,cap,rfl,T,S,Q⟩;have Y:mT K i=q.2:=by simp[mT,e]
  have V:xW K i=s.own:=by simp[xW,e,Z.own]
  have U:qA K i=s.seq:=by simp[qA,e,Z.seq]
  rw[Y,V,U];exact⟨a,cap,rfl,T,S,H,Q⟩
theorem SMap.obj {f:Int->Option SV} (h:SMap w b n f):∃es cl,w.heap[b]? =μ (.map es cl):=by
 obtain⟨D,⟨es,cl,Z,_⟩,_⟩:=h.own;exact⟨es,cl,Z⟩
theorem xX {c:Array dY} {t:TypeId} {fr:Nat×Nat} (hc:w.heap[g]? =μ (γ c t fr))(Z:∃es cl,w.heap[b]? =μ (.map es cl)):g≠b:=by
 obtain⟨es,cl,Z⟩:=Z;rintro rfl;rw[hc]at Z;cases Z
theorem qk {p:dW} (hc:w.cell? p=μ v)(Z:∃es cl,w.heap[b]? =μ (.map es cl)):p.block≠b:=by
 obtain⟨es,cl,Z⟩:=Z;rintro rfl;unfold World.cell? at hc;rw[Z]at hc;cases hc
theorem BR.maps {k:Nat} {K:Int->Option PS} {O:Nat->Int->Option PS} (h:BR w B m k K O):∀b,(b=m.bm \/b∈m.bs)->∃es cl,w.heap[b]? =μ (.map es cl):=by
 obtain⟨kn,ow,Z,_,_⟩:=h.ex;intro b hb;rcases hb with rfl|hb
 {exact Z.km.obj};{obtain⟨i,hi,rfl⟩:=dj hb;exact(Z.om i _ (ay hi)).obj}
theorem BR.mlt {k:Nat} {K:Int->Option PS} {O:Nat->Int->Option PS} (h:BR w B m k K O):∀b,(b=m.bm \/b∈m.bs)->b<w.heap.size:=by
 intro b hb;obtain⟨es,cl,Z⟩:=h.maps b hb;exact(ax.1 Z).1
theorem jC.cell {w w':dX} {B:Nat} {m:FM} {k:Nat} {K:Int->Option PS} {O:Nat->Int->Option PS} (Z:jC w w' m)(h:BR w B m k K O) {p:dW} {v:dY} (hc:w.cell? p=μ v):w'.cell? p=μ v:=by
 rw[aj (w:=w) (Z.block p.block (ag w _ hc) (qk hc (h.maps _ (.inl rfl))) (λe=>qk hc (h.maps _ (.inr e)) rfl))];exact hc
theorem jc.two {k:Nat} {K:Int->Option PS} {O:Nat->Int->Option PS} {a:Option dW} {es:List jJ} (h:jc w a n es)(X:jC w w' m)(hb:BR w B m k K O):jc w' a n es:=by
 refine⟨h.1,?_⟩;rcases h.2 with Z|⟨b,off,rfl,Z⟩
 {exact .inl Z};{exact .inr ⟨b,off,rfl,λj Y=>⟨X.cell hb (Z j Y).1,X.cell hb (Z j Y).2⟩⟩}
open Go.ChangeMaps Go.MapKept
def zOf:dY->Int
 | .int _ z=>z
 |_=>0
theorem SMap.afO {f:Int->Option SV} (h:SMap w b n f)(hf:∀k,tf k->(f k).isSome=true->1<=k/\k<=6):SMap w b 6 f:=by
 obtain⟨D,⟨es,clock,hb,F,hs,Q⟩,hat⟩:=h.own;refine⟨⟨D,⟨es,clock,hb,F,?_,Q⟩,hat⟩⟩;have T:∀x∈es.toList,∃z:Int,x.key=.int .i64 z/\1<=z/\z<=6:=by
  intro x hx;obtain⟨y,hy⟩:=F.reads x hx;have J:=WideElems.rd_key hy;obtain⟨z,U,hl,V⟩:=cC underlying3 J;have M:=AG V;refine⟨z,U,hf z M ?_⟩;cases e:f z with
  |some _=>rfl
  |none=>
   have S:=hat z M;rw[e]at S;have Y:=dI S;rw[Q,Maps.has_eq]at Y;have G:y∈(es.toList.map (WideElems.rg eY 3 tr)).foldr DataW.insert [] :=(Go.WideShapes.sorted_perm _).mem_iff.2 (bH.2 ⟨x,hx,WideElems.rg_of hy⟩);have:=List.any_eq_false.1 Y y G;rw[hl]at this;simp[rj]at this
 have X:=((stamped_iff es clock).1 F.stamped).2.2;have hlen:=uO (es.toList.map (λx=>zOf x.key)) [1,2,3,4,5,6] (by
  rw[dx];refine X.imp_of_mem ?_;intro x y hx hy H e;obtain⟨a,Z,_⟩:=T x hx;obtain⟨c,hc,_⟩:=T y hy;rw[Z,hc]at e;simp only[zOf]at e;exact H (by rw[Z,hc,e])) (λz U=>by
  obtain⟨x,hx,rfl⟩:=bH.1 U;obtain⟨a,Z,Y,h2⟩:=T x hx;rw[Z];simp only[zOf];simp;omega)
 simpa using hlen
theorem Tie.range {f:Int->Option SV} {F:Int->Option PS} (h:Tie w m f F):∀k,tf k->(f k).isSome=true->1<=k/\k<=6:=by
 intro k Z hs;cases e:F k with
 |none=>rw[h.zE Z e]at hs;cases hs
 |some q=>
  obtain⟨s,_,Y⟩:=h.uP Z e;exact(ju Y.ok).1
theorem BR.six {K:Int->Option PS} {O:Nat->Int->Option PS} (h:BR w B m n K O):BR w B m 6 K O:=by
 obtain⟨kn,ow,hF,Y,Z⟩:=h.ex;exact⟨⟨kn,ow,⟨hF.od,hF.row,hF.km.afO Y.range,λi b e=>(hF.om i b e).afO (Z i (aK.1 e).1).range,hF.few,hF.nB,hF.nd⟩,Y,Z⟩,h.Rl⟩
theorem BR.avoid(h:BR w B m n (λ_=>ν) (λ_ _=>ν))(no:Nat->Prop)(V:∀j,no j->j<w.heap.size):BR w B {m with no:=no} n (λ_=>ν) (λ_ _=>ν):=by
 obtain⟨kn,ow,hF,X,Y⟩:=h.ex;exact⟨⟨kn,ow,⟨hF.od,hF.row,hF.km,hF.om,hF.few,hF.nB,hF.nd⟩,λk Z=>X k Z,λi hi k Z=>Y i hi k Z⟩,V⟩
def Still(a b:dX):Prop:=∀(j:Nat) (C:Array dY) (t:TypeId) (fr:Nat×Nat),a.heap[j]? =μ (Obj.cells C t fr)->b.heap[j]? =a.heap[j]?
namespace Rt
variable {B g o:Nat} {v:Value} {w w' w1:World}
structure lD where
 who:Int
 both:Bool
 left:Int
def nobody:lD:=⟨0,false,0⟩
structure jv where
 m:Int
 L:LS
 rd:kB
 pe:lD
 out:List UInt8
abbrev zb:=Int×Int×List UInt8
structure iN where
 id:Int
 n:Nat
 P:Nat->jv
 K:Int->Option PS
 O:Nat->Int->Option PS
 j8:List zb
 drop:Int
def k9(P:Nat->jv)(i:Nat)(p:jv):Nat->jv:=λx=>if x=i then p else P x
def iN.iU(r:iN)(i:Nat)(p:jv):iN:={r with P:=k9 r.P i p}
def jv.put(p:jv)(c:UInt8)(s:List UInt8):jv:=
 if c≠76/\p.L.st≠9 then p else if s.length+1<=60 then {p with out:=p.out++Plain.lM (c::s)}else p
def jv.say(p:jv):List kN->jv
 |[] =>p
 |q::r=>(if jS q.1 q.2.1 q.2.2=0 then p.put 76 (mG q.1 q.2.1 q.2.2)else p).say r
def jv.iH(p:jv)(up:Bool):jv×Nat:=
 let e:=kY p.L (if up then 0 else 1)
 if e.2.2≠0 then(p,e.2.2)else(({p with L:=e.1,rd:=([],false,false)}:jv).say e.2.1,0)
def jd(L:LS):LS×List kN:=
 if(kj L).st=3 then((kY (kY (kj L) 1).1 0).1,lO L++(kY (kj L) 1).2.1++(kY (kY (kj L) 1).1 0).2.1)else(kj L,lO L)
def jv.tick(p:jv):jv:=({p with L:=(jd p.L).1}:jv).say (jd p.L).2
def jv.packet(p:jv)(s:List UInt8):jv:=
 let q:=iY s
 if q.2.2.2=0 then({p with L:=(jK p.L (q.1,q.2.1,q.2.2.1)).1}:jv).say (jK p.L (q.1,q.2.1,q.2.2.1)).2.1 else p
def jQ(P:Nat->jv)(n:Int):Nat->Option Nat
 |0=>none
 |k+1=>if(P k).pe.both=true/\(P k).pe.who=n/\(match jQ P n k with|none=>true|some b=>decide ((P k).m<(P b).m))=true then some k else jQ P n k
def jx(r:iN):List jJ:=(List.range 6).filterMap λ(j:Nat)=>(jQ r.P ((j:Int)+1) r.n).map λb=>((j:Int)+1,(r.P b).m)
def A5(K:Int->Option PS)(i:Int):Int:=match K i with|none=>0|some q=>q.1
def CY(K:Int->Option PS)(i:Int):List jJ:=match K i with|none=>[] |some q=>q.2
def iN.Et(r:iN)(seq:Int)(es:List jJ):iN:={r with K:=wq r.K r.id (seq,es),O:=λi=>wq (r.O i) r.id (seq,es)}
def iN.behind(r:iN)(seq:Int):iN:=if seq<1000000 then r.Et (seq+1) (jx r)else r
def iN.change(r:iN):iN:=if CY r.K r.id=jx r then r else r.behind (A5 r.K r.id)
def iN.meet(r:iN)(i:Nat)(q:lD):iN:=
 let r1:=r.iU i {r.P i with pe:=q}
 if q.who=(r.P i).pe.who/\q.both=(r.P i).pe.both then r1 else
  let r2:=({r1 with O:=λx=>if x=i then λ_=>ν else r1.O x}:iN).change
  if q.both=true then {r2 with O:=λx=>if x=i then qz (r2.O i) r2.K else r2.O x}else r2
def iN.iH(r:iN)(i:Nat)(up:Bool):iN×Nat:=
 let e:=(r.P i).iH up
 if e.2≠0 then(r,e.2)else((r.iU i e.1).meet i nobody,0)
def xY(K:Int->Option PS):kQ:=λx y=>match K x with|none=>0|some q=>((q.2.find? λe=>e.1==(y:Int)).map (·.2)).getD 0
def mr(r:iN):List HP:=pY (kK (xY r.K)) r.id.toNat
def iN.send(r:iN)(t:zb):iN:=
 if t.1=r.id then {r with j8:=r.j8++ [t] }else
  match (if 1<=t.2.1 then(AO (mr r) t.1).bind λh=>jQ r.P h.rJ r.n else ν)with
  |none=>{r with drop:=r.drop+1}
  |some i=>r.iU i ((r.P i).put 77 (jY t.1::jY (t.2.1-1)::t.2.2))
def jg(me:Int)(f s:Int):lD:=if f=me then nobody else⟨f,decide (s=me),4⟩
def iJ(p:lD):lD:=if p.left<=1 then nobody else {p with left:=p.left-1}
def iN.take(r:iN)(i:Nat)(c:UInt8)(s:List UInt8):iN:=
 let r1:=if c=76 then r.iU i ((r.P i).packet s)else r
 if(r1.P i).L.st≠9 then r1.meet i nobody
 else if c=72 then(if(kG s).2.2=0 then r1.meet i (jg r1.id (kG s).1 (kG s).2.1)else r1)
 else if c=83 then
  (let q:=St.ij s
   if q.2.2.2≠0 \/(r1.P i).pe.both=false then r1
   else if q.1=r1.id/\0<newF r1.K q.1 q.2.1 q.2.2.1 then r1.behind q.2.1
   else
    let r2:iN:={r1 with K:=lr r1.K q.1 q.2.1 q.2.2.1,O:=oT r1.K r1.O i q.1 q.2.1 q.2.2.1}
    if 0<=newF r1.K q.1 q.2.1 q.2.2.1 then r2.iU i ((r2.P i).put 65 (rh q.1 q.2.1 q.2.2.1))else r2)
 else if c=65 then
  (let q:=St.ij s
   if q.2.2.2=0 then {r1 with O:=λx=>if x=i/\0<=newF r1.K q.1 q.2.1 q.2.2.1 then yD (r1.O i) q.1 else r1.O x}else r1)
 else if c=77 then(if 2<=s.length/\s.length<=22 then r1.send (((s.getD 0 0).toNat:Int),((s.getD 1 0).toNat:Int),s.drop 2)else r1)
 else r1
def iN.takes(r:iN)(i:Nat):List (List UInt8)->iN
 |[] =>r
 |t::l=>(match t with|[] =>r|c::s=>r.take i c s).takes i l
def iN.recv(r:iN)(i:Nat)(l:List UInt8):iN:=
 let a:=kx (r.P i).rd l
 (r.iU i {r.P i with rd:=a.2.2}).takes i a.1
def lE(F:Int->Option PS):List (Int×PS):=(List.range 6).filterMap λ(j:Nat)=>(F ((j:Int)+1)).map λq=>((j:Int)+1,q)
def jv.kH(p:jv):List (Int×PS)->jv
 |[] =>p
 |q::l=>(p.put 83 (rh q.1 q.2.1 q.2.2)).kH l
def iN.iW(r:iN)(i:Nat):iN:=
 let r1:=r.iU i (r.P i).tick
 if(r1.P i).L.st≠9 then r1.meet i nobody else
  let r2:=r1.meet i (iJ (r1.P i).pe)
  let p:=(r2.P i).put 72 [jY r2.id,jY (r2.P i).pe.who]
  r2.iU i (if(r2.P i).pe.both=true then p.kH (lE (r2.O i))else p)
def iN.ja(r:iN):Nat->iN
 |0=>r
 |k+1=>(r.ja k).iW k
def iN.tick(r:iN):iN:=r.ja r.n
def iN.out(r:iN)(i:Nat):iN:=r.iU i {r.P i with out:=[] }
def Hu(id:Int)(m:Nat->Int)(i:Nat):jv:=⟨m i,{YF (8*id+i+1)with st:=1},([],false,false),nobody,[]⟩
where YF (g:Int):LS:=⟨255,g,255,g,0,0,0,255,0,0,0⟩
def jO(id:Int)(n:Nat)(m:Nat->Int):iN:=
 ⟨id,n,Hu id m,λx=>if x=id then μ (1,[])else ν,λ_ x=>if x=id then μ (1,[])else ν,[],0⟩
def kf(r:iN)(t:Int)(tx:List UInt8):iN×Nat:=if t<1 \/6<t \/20<tx.length then(r,1)else(r.send (t,8,tx),0)
def xu(p:jv)(B:Nat)(v:dY)(F:Nat->dY):Nat->dY:=λj=>
 if j=0 then .int .i64 p.m else if j=1 then π (μ ⟨B,0,ν⟩)else if j<67 then F (j-2)else if j=67 then .int .i64 p.pe.who else if j=68 then .bool p.pe.both else if j=69 then .int .i64 p.pe.left else v
structure qB(w:dX)(g o B:Nat)(v:dY)(p:jv):Prop where
 xw:∃F,qg w g o 71 (xu p B v F)/\Dp F p.rd.1 p.rd.2.1 p.rd.2.2
 lk:Lk w B (p.L.c (σ ν 0 0))
 ou:Row w 1 v p.out.length (iP p.out)
 few:p.out.length<=1000000000
 ok:Av p.L
 gB:g≠B
 vg:v.ownBlock≠μ g
 vB:v.ownBlock≠μ B
 nz:g≠0/\B≠0/\v.ownBlock≠μ 0
theorem qB.c0 {p:jv} (h:qB w g o B v p):w.cell? ⟨g,o,ν⟩=μ (ι κ p.m):=by obtain⟨F,hC,_⟩:=h.xw;exact hC.cell 0 ew
theorem qB.c1 {p:jv} (h:qB w g o B v p):w.cell? ⟨g,o+1,ν⟩=μ (π (μ ⟨B,0,ν⟩)):=by obtain⟨F,hC,_⟩:=h.xw;exact hC.cell 1 ew
theorem qB.c67 {p:jv} (h:qB w g o B v p):w.cell? ⟨g,o+67,ν⟩=μ (ι κ p.pe.who):=by obtain⟨F,hC,_⟩:=h.xw;exact hC.cell 67 ew
theorem qB.c68 {p:jv} (h:qB w g o B v p):w.cell? ⟨g,o+68,ν⟩=μ (.bool p.pe.both):=by obtain⟨F,hC,_⟩:=h.xw;exact hC.cell 68 ew
theorem qB.c69 {p:jv} (h:qB w g o B v p):w.cell? ⟨g,o+69,ν⟩=μ (.int .i64 p.pe.left):=by obtain⟨F,hC,_⟩:=h.xw;exact hC.cell 69 ew
theorem qB.c70 {p:jv} (h:qB w g o B v p):w.cell? ⟨g,o+70,ν⟩=μ v:=by obtain⟨F,hC,_⟩:=h.xw;exact hC.cell 70 ew
theorem qB.fz {w:dX} {g o B:Nat} {v:dY} {p:jv} (h:qB w g o B v p):∀j,j<71->w.frozen? ⟨g,o+j,ν⟩=false:=by obtain⟨F,hC,_⟩:=h.xw;exact λj Z=>hC.fz j Z
theorem qB.lt {w:dX} {g o B:Nat} {v:dY} {p:jv} (h:qB w g o B v p):g<w.heap.size:=by obtain⟨F,hC,_⟩:=h.xw;exact hC.lt ew
theorem qB.below {w w':dX} {g o B:Nat} {v:dY} {p:jv} (h:qB w g o B v p)(hb:eB w w'):qB w' g o B v p:=by
 obtain⟨F,hC,Z⟩:=h.xw;exact⟨⟨F,hC.below ew hb,Z⟩,h.lk.below hb,h.ou.below hb,h.few,h.ok,h.gB,h.vg,h.vB,h.nz⟩
structure nR(w w':dX)(g o B:Nat)(v:dY):Prop where
 os:w'.os=w.os
 tape:w'.tape=w.tape
 output:w'.output=w.output
 size:w.heap.size<=w'.heap.size
 block:∀i,i<w.heap.size->i≠g->i≠B->v.ownBlock≠μ i->w'.heap[i]? =w.heap[i]?
 cell:∀j,j<o \/o+71<=j->w'.cell? ⟨g,j,ν⟩=w.cell? ⟨g,j,ν⟩
 fz:∀j,w'.frozen? ⟨g,j,ν⟩=w.frozen? ⟨g,j,ν⟩
theorem nR.refl(w:dX)(g o B:Nat)(v:dY):nR w w g o B v:=⟨rfl,rfl,rfl,Nat.le_refl _,λ_ _ _ _ _=>rfl,λ_ _=>rfl,λ_=>rfl⟩
theorem nR.iT(o B:Nat)(v:dY)(h:eB w w')(Z:g<w.heap.size):nR w w' g o B v:=
 ⟨h.os,h.tape,h.output,h.size,λi hi _ _ _=>h.block i hi,λj _=>aj (a:=⟨g,j,ν⟩) (h.block g Z),λj=>aL (a:=⟨g,j,ν⟩) (h.block g Z)⟩
theorem nR.trans {a b c:dX} {g o B:Nat} {v v':dY} (h:nR a b g o B v)(k:nR b c g o B v')(hv:∀i,v'.ownBlock=μ i->v.ownBlock=μ i \/a.heap.size<=i):nR a c g o B v:=
 ⟨k.os.trans h.os,k.tape.trans h.tape,k.output.trans h.output,Nat.le_trans h.size k.size,λi hi Y X V=>(k.block i (Nat.lt_of_lt_of_le hi h.size) Y X (λe=>by
  rcases hv i e with Z|Z
  ·exact V Z
  ·omega)).trans (h.block i hi Y X V),λj U=>(k.cell j U).trans (h.cell j U),λj=>(k.fz j).trans (h.fz j)⟩
theorem yE(g o B:Nat)(v:dY)(p:jv)(w:dX)(h:qB w g o B v p):
 eX eY 83 #[π (μ ⟨g,o,ν⟩)] w λe w'=>e=ρ (.bool (p.L.st==9))/\w=w':=by
 have c1:=h.c1;have hl:=h.lt;have hs:=Hl B _ p.L _ [] w (rH.rest h.lk);clear h
 go_in
 go_wp2_with(fail);refine hs.mono ?_;rintro e w1 ⟨rfl,rfl⟩;clear hs
 go_wp2
 go_ret;exact⟨rfl,rfl⟩
theorem Ve:(eY.info? 5).map (λi=>(i.zero,i.size,i.bytes))=μ (μ (.int .u8 0),1,1):=gS
theorem PB(p:jv)(B:Nat)(v v':dY)(F:Nat->dY)(l:List UInt8):∀j,j<71->tg (xu p B v F) 70 v' j=xu {p with out:=l} B v' F j:=by
 intro j hj;by_cases e:j=70;{subst e;rw[pM];rfl};{rw[jI _ _ e];unfold xu;by_cases Z:j=0;{simp[Z]};{by_cases Y:j=1;{simp[Y]};{by_cases X:j<67;{simp[Z,Y,X]};{by_cases V:j=67;{simp[V]};{by_cases U:j=68;{simp[U]};{have T:j=69:=dZ;simp[T]}}}}}}
theorem qB.grow {W x:dX} {p:jv} (h:qB w g o B v p)(hb:eB w W)(X:W.grownBy x v.ownBlock)(v':dY)(l:List UInt8)(G:Row x 1 v' (p.out++l).length (iP (p.out++l)))(H:(p.out++l).length<=1000000000)(E:v'.ownBlock=v.ownBlock \/ ∃k,v'.ownBlock=μ k/\W.heap.size<=k):
 qB (x.setCell ⟨g,o+70,ν⟩ v') g o B v' {p with out:=p.out++l} /\nR w (x.setCell ⟨g,o+70,ν⟩ v') g o B v/\(∀i,v'.ownBlock=μ i->v.ownBlock=μ i \/w.heap.size<=i):=by
 have hW:=h.below hb;have Y:∀i,i<w.heap.size->v.ownBlock≠μ i->x.heap[i]? =w.heap[i]? :=λi hi hv=>(X.block i (Nat.lt_of_lt_of_le hi hb.size) (λe=>hv e.symm)).trans (hb.block i hi);have hv:∀i,v'.ownBlock=μ i->v.ownBlock=μ i \/w.heap.size<=i:=λi e=>by
  rcases E with Z|⟨k,Z,e2⟩
  ·exact .inl (by rw[<-Z];exact e)
  ·rw[e]at Z;have:i=k:=by simpa using Z
   have:=hb.size;exact .inr dZ
 have V:v'.ownBlock≠μ g:=λe=>by
  rcases hv g e with Z|Z
  {exact h.vg Z};{have:=h.lt;omega}
 have T:v'.ownBlock≠μ B:=λe=>by
  rcases hv B e with Z|Z
  {exact h.vB Z};{have:=h.lk.lt;omega}
 obtain⟨F,hC,M⟩:=h.xw;have U:qg x g o 71 (xu p B v F):=hC.keep (Y g h.lt h.vg);refine⟨⟨⟨F,(U.set 70 ew v').congr (PB p B v v' F _),M⟩,?_,?_,H,h.ok,h.gB,V,T,h.nz.1,h.nz.2.1,λe=>by
  rcases hv 0 e with Z|Z
  ·exact h.nz.2.2 Z
  ·have:=h.lt;omega⟩,⟨?_,?_,?_,?_,?_,?_,?_⟩,hv⟩
 {exact h.lk.keep ((ak _ _ _ B (λe=>h.gB e.symm)).trans (Y B h.lk.lt h.vB))};{exact G.keep gU (λk J=>ak _ _ _ k (λe=>V (by rw[J];exact congrArg μ e)))};{exact((au 0 x).setCell (Nat.zero_le _) _).os.trans (X.os.trans hb.os)};{exact((au 0 x).setCell (Nat.zero_le _) _).tape.trans (X.tape.trans hb.tape)};{exact((au 0 x).setCell (Nat.zero_le _) _).output.trans (X.output.trans hb.output)};{exact Nat.le_trans hb.size (Nat.le_trans X.size gU)};{exact λi hi S _ Q=>(ak _ _ _ i S).trans (Y i hi Q)};{exact λj hj=>(aX _ _ _ _ (λe=>by have:=congrArg Addr.off e;simp at this;omega)).trans (aj (a:=⟨g,j,ν⟩) (Y g h.lt h.vg))};{exact λj=>(mE _ _ _ _).trans (aL (a:=⟨g,j,ν⟩) (Y g h.lt h.vg))}
structure lP(w w':dX)(g o B:Nat)(v:dY)(p:jv):Prop where
 ex:∃v',qB w' g o B v' p/\(∀i,v'.ownBlock=μ i->v.ownBlock=μ i \/w.heap.size<=i)
 kept:nR w w' g o B v
theorem lP.still {p:jv} (h:qB w g o B v p)(hb:eB w w'):lP w w' g o B v p:=⟨⟨v,h.below hb,λ_ e=>.inl e⟩,nR.iT o B v hb h.lt⟩
theorem lP.trans {a b c:dX} {g o B:Nat} {v v':dY} {p:jv} (X:nR a b g o B v)(hv:∀i,v'.ownBlock=μ i->v.ownBlock=μ i \/a.heap.size<=i)(V:lP b c g o B v' p):lP a c g o B v p:=by
 obtain⟨⟨v2,T,Y⟩,U⟩:=V;refine⟨⟨v2,T,λi e=> ?_⟩,X.trans U hv⟩;rcases Y i e with Z|Z
 {exact hv i Z};{exact .inr (Nat.le_trans X.size Z)}
theorem yF(l:List UInt8)(h:l.length<=60):(Plain.lM l).length<=126:=by
 have:=Ri l;omega
theorem Dr(g o B:Nat)(v:dY)(p:jv)(T s:ByteArray)(c:UInt8)(w:dX)(h:qB w g o B v p)(hT:T.data.toList=[c])(hs:s.size<=1000)(hn:p.out.length<=900000000):
 eX eY 150 #[π (μ ⟨g,o,ν⟩),.string T,.string s] w λe w'=>e=ρ (τ #[])/\lP w w' g o B v (p.put c s.data.toList):=by
 obtain⟨i0,hi,og,mZ,mc⟩:=aW Ve;have hop:=yE g o B v p w h;have hTs:T.size=1:=by have:=congrArg List.length hT;simpa using this
 have U:T.toList=[c] :=by rw[dk];exact hT
 have MT:(T++s).size=s.size+1:=by rw[ByteArray.size_append,hTs];omega
 have Y:(T++s).data.toList=c::s.data.toList:=by rw[ByteArray.data_append];simp[hT]
 have hsl:s.data.toList.length=s.size:=gU;have c70:=h.c70;have f70:=h.fz 70 ew;have hl:=h.lt;have HP:Hid _:=h;have ll:∀W:dX,eB w W->jv.put p c s.data.toList=p->lP w W g o B v (p.put c s.data.toList):=λW hW e=>by rw[e];exact lP.still HP.out hW
 have G:Hid _:=ll;clear ll;have main:(c=76 \/p.L.st=9)->Hid (s.size+1<=60->p.put c s.data.toList={p with out:=p.out++Plain.lM (c::s.data.toList)})/\Hid (¬s.size+1<=60->p.put c s.data.toList=p):=λhc=>by
  have jX:¬(c≠76/\p.L.st≠9):=λ⟨a,b⟩=>by rcases hc with e|e<;>contradiction
  refine⟨λh1=> ?_,λh1=> ?_⟩;{unfold jv.put;rw[af jX,ai (by rw[hsl];exact h1)]};{unfold jv.put;rw[af jX,af (by rw[hsl];exact h1)]}
 by_cases Q:c=76
 ·have q:(T.toList==[76])=true:=by rw[U,Q];rfl
  obtain⟨J,H⟩:=main (.inl Q);clear main U hop h;by_cases V:s.size+1<=60
  ·have Z:=KZ (T++s) w dZ;rw[Y]at Z;have xk:=yF (c::s.data.toList) (by simp;omega);have u:Hid _:=J.out V;obtain⟨L,hL⟩:=gg (Plain.lM (c::s.data.toList));rw[hL]at Z xk u;clear J H Y hL
   go_in
   go_wp2_with(fail);refine Z.mono ?_;rintro e w1 ⟨rfl,b1⟩;have X:=HP.out.below b1;have E:=X.c70;have D:=X.fz 70 ew;have dl:=X.lt;have ME:=X.ou;have HV:Hid (v.ownBlock≠μ g):=X.vg;clear Z c70 f70;go_wp2_with(at_builtin;go_must(refine tC _ rfl (.tmp 28) (.tmp 29) 140 9 rfl 5 i0 (.int .u8 0) underlying140 underlying9 hi og mZ mc rfl v p.out.length (iP p.out) rfl ME ⟨L.toArray⟩ rfl (by show L.toArray.size<=1000000;simp;omega) dZ ?_));intro v' x A M jm;have YG:∃a' n' c',v'=σ a' n' c':=by
    rcases A.2 with⟨e,_⟩|⟨g',c',e,_⟩
    {exact⟨_,_,_,e⟩};{exact⟨_,_,_,e⟩}
   obtain⟨a',n',c',rfl⟩:=YG;have XC:Row x 1 (σ a' n' c') (p.out++L).length (iP (p.out++L)):=by
    rw[az,lI];exact A
   obtain⟨j,G2,G3⟩:=qB.grow HP.out b1 M (σ a' n' c') L XC (by rw[az];omega) jm;have y:x.cell? ⟨g,o+70,ν⟩=μ v:=(aj (a:=⟨g,o+70,ν⟩) (M.block g dl (λe=>HV.out e.symm))).trans E;have z70:x.frozen? ⟨g,o+70,ν⟩=false:=(aL (a:=⟨g,o+70,ν⟩) (M.block g dl (λe=>HV.out e.symm))).trans D;have xl:g<x.heap.size:=ag x _ y;have S:Hid (lP w (x.setCell ⟨g,o+70,ν⟩ (σ a' n' c')) g o B v (p.put c s.data.toList)):=by
    show lP _ _ _ _ _ _ _;rw[u.out];exact⟨⟨_,j,G3⟩,G2⟩
   clear j G2 G3 A XC M jm ME X
   go_wp2
   first|go_end0|refine iK rfl rfl ?_
   exact⟨rfl,S.out⟩
  ·have Z:=Pw (T++s) w dZ (by unfold maxLen;omega);have S:Hid (lP w w g o B v (p.put c s.data.toList)):=G.out w (au _ _) (H.out V);clear J H Y
   go_in
   go_wp2_with(fail);refine Z.mono ?_;rintro e w1 ⟨rfl,rfl⟩;clear Z
   go_wp2
   first|go_end0|refine iK rfl rfl ?_
   exact⟨rfl,S.out⟩
 ·have q:(T.toList==[76])=false:=by
   rw[U,cT];intro e;exact Q (by simpa using e)
  cases h9:(p.L.st==9)
  ·have kd:p.L.st≠9:=by simpa using h9
   have S:Hid (lP w w g o B v (p.put c s.data.toList)):=G.out w (au _ _) (by unfold jv.put;rw[ai ⟨Q,kd⟩]);rw[h9]at hop;clear main U h Y
   go_in
   go_wp2_with(fail);refine hop.mono ?_;rintro e w1 ⟨rfl,rfl⟩;clear hop
   go_wp2
   first|go_end0|refine iK rfl rfl ?_
   exact⟨rfl,S.out⟩
  ·have kd:p.L.st=9:=by simpa using h9
   obtain⟨J,H⟩:=main (.inr kd);rw[h9]at hop;clear main U h kd;by_cases V:s.size+1<=60
   ·have Z:=KZ (T++s) w dZ;rw[Y]at Z;have xk:=yF (c::s.data.toList) (by simp;omega);have u:Hid _:=J.out V;obtain⟨L,hL⟩:=gg (Plain.lM (c::s.data.toList));rw[hL]at Z xk u;clear J H Y hL
    go_in
    go_wp2_with(fail);refine hop.mono ?_;rintro e w1 ⟨rfl,rfl⟩;clear hop;go_wp2_with(fail);refine Z.mono ?_;rintro e w1 ⟨rfl,b1⟩;have X:=HP.out.below b1;have E:=X.c70;have D:=X.fz 70 ew;have dl:=X.lt;have ME:=X.ou;have HV:Hid (v.ownBlock≠μ g):=X.vg;clear Z c70 f70;go_wp2_with(at_builtin;go_must(refine tC _ rfl (.tmp 28) (.tmp 29) 140 9 rfl 5 i0 (.int .u8 0) underlying140 underlying9 hi og mZ mc rfl v p.out.length (iP p.out) rfl ME ⟨L.toArray⟩ rfl (by show L.toArray.size<=1000000;simp;omega) dZ ?_));intro v' x A M jm;have YG:∃a' n' c',v'=σ a' n' c':=by
     rcases A.2 with⟨e,_⟩|⟨g',c',e,_⟩
     {exact⟨_,_,_,e⟩};{exact⟨_,_,_,e⟩}
    obtain⟨a',n',c',rfl⟩:=YG;have XC:Row x 1 (σ a' n' c') (p.out++L).length (iP (p.out++L)):=by
     rw[az,lI];exact A
    obtain⟨j,G2,G3⟩:=qB.grow HP.out b1 M (σ a' n' c') L XC (by rw[az];omega) jm;have y:x.cell? ⟨g,o+70,ν⟩=μ v:=(aj (a:=⟨g,o+70,ν⟩) (M.block g dl (λe=>HV.out e.symm))).trans E;have z70:x.frozen? ⟨g,o+70,ν⟩=false:=(aL (a:=⟨g,o+70,ν⟩) (M.block g dl (λe=>HV.out e.symm))).trans D;have xl:g<x.heap.size:=ag x _ y;have S:Hid (lP w (x.setCell ⟨g,o+70,ν⟩ (σ a' n' c')) g o B v (p.put c s.data.toList)):=by
     show lP _ _ _ _ _ _ _;rw[u.out];exact⟨⟨_,j,G3⟩,G2⟩
    clear j G2 G3 A XC M jm ME X
    go_wp2
    first|go_end0|refine iK rfl rfl ?_
    exact⟨rfl,S.out⟩
   ·have Z:=Pw (T++s) w dZ (by unfold maxLen;omega);have S:Hid (lP w w g o B v (p.put c s.data.toList)):=G.out w (au _ _) (H.out V);clear J H Y
    go_in
    go_wp2_with(fail);refine hop.mono ?_;rintro e w1 ⟨rfl,rfl⟩;clear hop;go_wp2_with(fail);refine Z.mono ?_;rintro e w1 ⟨rfl,rfl⟩;clear Z
    go_wp2
    first|go_end0|refine iK rfl rfl ?_
    exact⟨rfl,S.out⟩
def wu(p:jv)(q:kN):jv:=if jS q.1 q.2.1 q.2.2=0 then p.put 76 (mG q.1 q.2.1 q.2.2)else p
theorem Eu:∀(l:List kN) (p:jv) (q:kN),p.say (l++ [q])=wu (p.say l) q
 |[],_,_=>rfl
 |x::l,p,q=>by
  show(wu p x).say (l++ [q])=wu ((wu p x).say l) q;exact Eu l (wu p x) q
theorem xx(p:jv)(c:UInt8)(s:List UInt8):(p.put c s).out.length<=p.out.length+126:=by
 unfold jv.put;split;{omega}
 ·split
  ·rename_i h
   have:=yF (c::s) (by simpa using h);simp only[List.length_append];omega
  ·omega
theorem Vf(p:jv)(q:kN):(wu p q).out.length<=p.out.length+126:=by
 unfold wu;split;{exact xx _ _ _};{omega}
theorem zF:∀(l:List kN) (p:jv),(p.say l).out.length<=p.out.length+126*l.length
 |[],p=>by simp[jv.say]
 |x::l,p=>by
  have h1:=zF l (wu p x);have h2:=Vf p x;have e:p.say (x::l)=(wu p x).say l:=rfl;rw[e,cQ];omega
structure PtQ(w:dX)(g o B:Nat)(v:dY)(p:jv)(X:Nat->Prop)(vl:dY)(qs:List PV):Prop where
 xw:∃F,qg w g o 71 (xu p B v F)/\Dp F p.rd.1 p.rd.2.1 p.rd.2.2
 rep:rH w B X p.L vl qs
 ou:Row w 1 v p.out.length (iP p.out)
 few:p.out.length<=1000000000
 ok:Av p.L
 gB:g≠B
 vg:v.ownBlock≠μ g
 vB:v.ownBlock≠μ B
 nz:g≠0/\B≠0/\v.ownBlock≠μ 0
 xg:X g
 xv:∀k,v.ownBlock=μ k->X k
theorem Rp {code id:Int} {os:List jJ} (h:jS code id os=0):(mG code id os).length<=100:=by
 have h8:os.length<=8:=by
  unfold jS at h;split at h;{simp at h};{split at h;{simp at h};{omega}}
 have:=rY os;simp only[mG,eQ];omega
theorem Vg(g o B:Nat)(v:dY)(p:jv)(X:Nat->Prop)(vl:dY)(qs:List PV)(w:dX)(h:PtQ w g o B v p X vl qs)(hq:qs.length<=40)(hn:p.out.length<=800000000):
 eX eY 123 #[π (μ ⟨g,o,ν⟩)] w λe w'=>e=ρ (τ #[])/\lP w w' g o B v (p.say (qs.map PV.abs)):=by
 have vC:=Yq B X p.L vl qs w h.rep;have c1:w.cell? ⟨g,o+1,ν⟩=μ (π (μ ⟨B,0,ν⟩)):=by obtain⟨F,hC,_⟩:=h.xw;exact hC.cell 1 ew
 have K0:g<w.heap.size:=by obtain⟨F,hC,_⟩:=h.xw;exact hC.lt ew
 have Z:Hid _:=h;clear h
 go_in
 go_wp2_with(fail);refine vC.mono ?_;rintro e w1 ⟨rfl,hR,iV,Jm,T⟩;have D:qB w1 g o B v p:=by
  obtain⟨F,hC,hF⟩:=Z.out.xw;have hkv:∀k,v.ownBlock=μ k->w1.heap[k]? =w.heap[k]? :=λk M=>T.block k (Z.out.ou.lt k M) (λe=>Z.out.vB (by rw[M,e])) gU;exact⟨⟨F,hC.keep (T.block g K0 Z.out.gB gU),hF⟩,hR.lk,Z.out.ou.keep T.size hkv,Z.out.few,Z.out.ok,Z.out.gB,Z.out.vg,Z.out.vB,Z.out.nz⟩
 have Xq:nR w w1 g o B v:=⟨T.os,T.tape,T.output,T.size,λi hi _ h2 _=>T.block i hi h2 gU,λj _=>aj (a:=⟨g,j,ν⟩) (T.block g K0 Z.out.gB gU),λj=>aL (a:=⟨g,j,ν⟩) (T.block g K0 Z.out.gB gU)⟩
 have A:∀W:dX,nR w1 W g o B v->abP W vl qs:=λW kW=>by
  refine⟨iV.keep kW.size (λk M=>kW.block k (iV.lt k M) (λY=>Z.out.rep.own k M (by rw[Y];exact Z.out.xg)) (λY=>Z.out.rep.own k M (by rw[Y];exact Z.out.rep.self)) (λY=>Z.out.rep.own k M (Z.out.xv k Y))),λq Ps=>⟨(Jm q Ps).opt.OX (λk M=> ?_),(Jm q Ps).few⟩⟩;obtain⟨f1,_,f3⟩:=(Jm q Ps).far k M;exact kW.block k f3 (λY=>f1 (by rw[Y];exact Z.out.xg)) (λY=>f1 (by rw[Y];exact Z.out.rep.self)) (λY=>f1 (Z.out.xv k Y))
 have hle:∀q∈qs,q.n<=q.cap:=λq Ps=>(Jm q Ps).le;have IV:g<w1.heap.size:=D.lt;obtain⟨a,ca,rfl,_⟩:=(A w1 (nR.refl _ _ _ _ _)).shape;obtain⟨n,vJ⟩:=gg (qs.length);have H1:Hid _:=D;have HK1:Hid _:=Xq;have HPk:Hid _:=A;have HLe:Hid _:=hle;have HN:Hid _:=vJ;rw[vJ]at hq;rw[vJ];clear vC hR iV Jm T D Xq A hle vJ c1
 go_wp2
 go_loopw [12] (λi wr=>∃(k:Nat) (E:dY),k<=n/\i=ι κ k/\qB wr g o B E (p.say ((qs.map PV.abs).take k))/\nR w1 wr g o B v/\(∀i,E.ownBlock=μ i->v.ownBlock=μ i \/w1.heap.size<=i)) (λi _=>n-(eZ i).toNat)
 case atStart=>exact⟨0,v,Nat.zero_le _,rfl,H1.out,nR.refl _ _ _ _ _,λ_ e=>.inl e⟩
 case round=>
  obtain⟨k,E,M,rfl,hP,S,H⟩:=hrel;by_cases kA:k<n
  ·have nL:(k:Int)<(n:Int):=dZ;have Gi:(0:Int)<=(k:Int):=dZ;have lk:k<qs.length:=by have:=HN.out;omega
   have PK:=HPk.out wr S;obtain⟨a',ca',Y,f1⟩:=PK.shape;obtain⟨g1,ea,x0,x1,x2⟩:=f1 k qs[k] (ay lk);have e1':a=a':=by simpa using(bO Y).1
   rw[ea]at e1';subst e1';have y:=PK.opt qs[k] (aF lk);have Di:=HLe.out qs[k] (aF lk);have YH:Hid ((qs.map PV.abs).take (k+1)=(qs.map PV.abs).take k++ [qs[k].abs]):=by
    show _=_;rw[aA (by simpa using lk)];simp
   generalize qs[k] =q at x0 x1 x2 y Di YH;obtain⟨V,U,qa,qn,YI,Q⟩:=q;simp only at x0 x1 x2 y Di;have z0:wr.cell? ⟨g1,k*3,ν⟩=μ (ι κ V):=by rw[Nat.zero_add]at x0;exact x0
   have z1:wr.cell? ⟨g1,k*3+1,ν⟩=μ (ι κ U):=by rw[Nat.zero_add]at x1;exact x1
   have z2:wr.cell? ⟨g1,k*3+2,ν⟩=μ (σ qa qn YI):=by rw[Nat.zero_add]at x2;exact x2
   have hln:(p.say ((qs.map PV.abs).take k)).out.length<=900000000:=by
    have h1:=zF ((qs.map PV.abs).take k) p;have h2:((qs.map PV.abs).take k).length<=k:=cz _ _;omega
   have ba:=gT wr (γ #[ι κ V,ι κ U,σ qa qn YI] 37);have HP:Hid _:=hP;have u:Hid _:=S;have J:Hid _:=H;clear PK f1 Y ea x0 x1 x2 hP S H;by_cases hf:jS V U Q=0
   ·have G:=Jh V U qa qn YI Q _ Di (y.1.below ba) hf;have Ds:=Rp hf;have E1:Hid (p.say ((qs.map PV.abs).take (k+1))=(p.say ((qs.map PV.abs).take k)).put 76 (mG V U Q)):=by
     show _=_;rw[YH.out,Eu];show wu _ (V,U,Q)=_;unfold wu;rw[ai hf]
    clear hf y;obtain⟨L,hL⟩:=gg (mG V U Q);rw[hL]at G Ds E1;clear hL;go_wp2_with(fail);refine G.mono ?_;rintro e w3 ⟨rfl,b3⟩;have k3:=gh ba b3;have oh:=Dr g o B E (p.say ((qs.map PV.abs).take k)) ⟨#[76]⟩ ⟨L.toArray⟩ 76 w3 (HP.out.below k3) rfl (by show L.toArray.size<=1000;simp;omega) hln;have eL:(⟨L.toArray⟩:ByteArray).data.toList=L:=gU;rw[eL]at oh;clear G b3;go_wp2_with(fail);refine oh.mono ?_;rintro e w4 ⟨rfl,hW⟩;have nr:lP w1 w4 g o B v (p.say ((qs.map PV.abs).take (k+1))):=by
     rw[E1.out];exact lP.trans (u.out.trans (nR.iT o B E k3 HP.out.lt) J.out) J.out hW
    have HW:Hid _:=nr;clear oh hW nr k3 ba
    go_wp2
    go_roundw
    case rel=>
     obtain⟨⟨v5,h5,h6⟩,h7⟩:=HW.out;exact⟨k+1,v5,dZ,by go_num,h5,h7,h6⟩
    case measure=>simp[eZ];omega
   ·have G:=K8 V U qa qn YI Q _ dZ Di (y.1.below ba) hf;have ee:ji (jS V U Q)=.iface 128 (ι κ (jS V U Q:Int)):=by simp only[ji];rw[af hf]
    rw[ee]at G;have E1:Hid (p.say ((qs.map PV.abs).take (k+1))=p.say ((qs.map PV.abs).take k)):=by
     show _=_;rw[YH.out,Eu];show wu _ (V,U,Q)=_;unfold wu;rw[af hf]
    clear hf y ee;generalize jS V U Q=f at G;go_wp2_with(fail);refine G.mono ?_;rintro e w3 ⟨rfl,b3⟩;have J9:Hid _:=gh ba b3;clear G b3 ba
    go_wp2
    go_roundw
    case rel=>exact⟨k+1,E,dZ,by go_num,by rw[E1.out];exact HP.out.below J9.out,u.out.trans (nR.iT o B E J9.out HP.out.lt) J.out,J.out⟩
    case measure=>simp[eZ];omega
  ·have xL:¬(k:Int)<(n:Int):=dZ;have HE:Hid (lP w wr g o B v (p.say (qs.map PV.abs))):=by
    have Y:(qs.map PV.abs).take k=qs.map PV.abs:=aI (by have:=HN.out;simp;omega);rw[Y]at hP;exact lP.trans HK1.out (λ_ e=>.inl e) ⟨⟨E,hP,H⟩,S⟩
   clear hP S H
   go_wp2
   first|go_end0|refine iK rfl rfl ?_
   exact⟨rfl,HE.out⟩
structure Ca(w w1:dX)(g o B:Nat)(v:dY)(p:jv)(out:List kN):Prop where
 ex:∃vl qs,PtQ w1 g o B v p (λk=>k<w.heap.size) vl qs/\qs.map PV.abs=out
 kept:nR w w1 g o B v
theorem qB.begin {p:jv} (h:qB w g o B v p):Ca w w g o B v p [] :=
 ⟨⟨σ ν 0 0,[],⟨h.xw,rH.rest h.lk,h.ou,h.few,h.ok,h.gB,h.vg,h.vB,h.nz,h.lt,λk Z=>h.ou.lt k Z⟩,rfl⟩,nR.refl _ _ _ _ _⟩
theorem Ca.tab {p:jv} {out:List kN} (h:Ca w w1 g o B v p out)(Y:jf w):jf w1:=λe s X hs=>by
 obtain⟨vl,qs,Z,_⟩:=h.ex;exact(aj (a:=⟨0,e*10+s,ν⟩) (h.kept.block 0 Y.lt (λe=>Z.nz.1 e.symm) (λe=>Z.nz.2.1 e.symm) Z.nz.2.2)).trans (Y e s X hs)
theorem Ca.went {w2:dX} {p:jv} {out afU:List kN} {vl:dY} {qs:List PV} {s':LS} (Z:PtQ w1 g o B v p (λk=>k<w.heap.size) vl qs)(D:qs.map PV.abs=out)(Y:nR w w1 g o B v)
 (G:nC w1 w2 B (λk=>k<w.heap.size) s' vl qs afU) (A:Av s'):Ca w w2 g o B v {p with L:=s'} (out++afU):=by
 obtain⟨⟨v2,q2,H,S,hv2⟩,V⟩:=G;obtain⟨F,hC,hF⟩:=Z.xw;have hlg:g<w1.heap.size:=hC.lt ew;have y:∀i,vl.ownBlock=μ i->¬i<w.heap.size:=λi e=>Z.rep.own i e;have hb:∀i,i<w.heap.size->i≠B->w2.heap[i]? =w1.heap[i]? :=λi hi J=>V.block i (Nat.lt_of_lt_of_le hi Y.size) J (λe=>y i e hi);have X:w2.heap[g]? =w1.heap[g]? :=hb g Z.xg Z.gB;refine⟨⟨v2,qs++q2,⟨⟨F,hC.keep X,hF⟩,H,Z.ou.keep V.size (λk T=>hb k (Z.xv k T) (λe=>Z.vB (by rw[T,e]))),Z.few,A,Z.gB,Z.vg,Z.vB,Z.nz,Z.xg,Z.xv⟩,by rw[cU,D,S]⟩,?_⟩;exact⟨V.os.trans Y.os,V.tape.trans Y.tape,V.output.trans Y.output,Nat.le_trans Y.size V.size,λi hi Q U M=>(hb i hi U).trans (Y.block i hi Q U M),λj E=>(aj (a:=⟨g,j,ν⟩) X).trans (Y.cell j E),λj=>(aL (a:=⟨g,j,ν⟩) X).trans (Y.fz j)⟩
theorem Ca.say {w w1:dX} {g o B:Nat} {v:dY} {p:jv} {out:List kN} (h:Ca w w1 g o B v p out)(V:out.length<=40)(X:p.out.length<=800000000):
 eX eY 123 #[π (μ ⟨g,o,ν⟩)] w1 λe w'=>e=ρ (τ #[])/\lP w w' g o B v (p.say out):=by
 obtain⟨U,qs,Z,rfl⟩:=h.ex;refine(Vg g o B v p _ U qs w1 Z (by simpa using V) X).mono ?_;rintro e w' ⟨rfl,Y⟩;exact⟨rfl,lP.trans h.kept (λ_ e=>.inl e) Y⟩
theorem Ca.do_ {p:jv} {out:List kN} (h:Ca w w1 g o B v p out)(V:jf w)(hq:out.length<=40)(ev:Int):
 eX eY 120 #[π (μ ⟨B,0,ν⟩),ι κ ev] w1 λe w'=>e=ρ (ji (kY p.L ev).2.2)/\Ca w w' g o B v {p with L:=(kY p.L ev).1} (out++(kY p.L ev).2.1):=by
 have X:=h.tab V;obtain⟨T,qs,Z,Y⟩:=h.ex;have hl:qs.length=out.length:=by rw[<-Y];simp
 refine(aca ev B _ p.L T qs w1 X Z.rep Z.ok.bd dZ).mono ?_;rintro e w' ⟨rfl,U⟩;exact⟨rfl,Ca.went Z Y h.kept U (Z.ok.kY ev)⟩
theorem Ca.tick {w:dX} {g o B:Nat} {v:dY} {p:jv} (h:qB w g o B v p)(X:jf w):
 eX eY 147 #[π (μ ⟨B,0,ν⟩)] w λe w'=>e=ρ (τ #[])/\Ca w w' g o B v {p with L:=kj p.L} (lO p.L):=by
 have hw:=h.ok.wt;have hb:=h.begin;obtain⟨V,qs,Z,T⟩:=hb.ex;have S:qs=[] :=by simpa using T
 subst S;have Y:V.ownBlock≠μ 0:=λe=>Z.rep.own 0 e X.lt;refine(UI B _ p.L V [] w X h.nz.2.1 Y Z.rep h.ok.bd gU dZ dZ).mono ?_;rintro e w' ⟨rfl,U⟩;refine⟨rfl,?_⟩;have:=Ca.went Z rfl hb.kept U h.ok.tick;simpa using this
theorem Ca.state {p:jv} {out:List kN} (h:Ca w w1 g o B v p out):
 eX eY 114 #[π (μ ⟨B,0,ν⟩)] w1 λe w'=>e=ρ (ι κ p.L.st)/\w1=w':=by
 obtain⟨Y,qs,Z,ho⟩:=h.ex;exact Hl B _ p.L Y qs w1 Z.rep
theorem Ca.ptr {p:jv} {out:List kN} (h:Ca w w1 g o B v p out):w1.cell? ⟨g,o+1,ν⟩=μ (π (μ ⟨B,0,ν⟩))/\g<w1.heap.size:=by
 obtain⟨vl,qs,Z,ho⟩:=h.ex;obtain⟨F,hC,hF⟩:=Z.xw;exact⟨hC.cell 1 ew,hC.lt ew⟩
end Rt
theorem BR.still {w w':dX} {B:Nat} {m:FM} {n:Nat} {K:Int->Option PS} {O:Nat->Int->Option PS} (h:BR w B m n K O)(hs:w.heap.size<=w'.heap.size)(X:∀j,j<w.heap.size->¬m.no j->w'.heap[j]? =w.heap[j]?)
 (J:¬m.no B) (E:¬m.no m.g) (D:∀b,(b=m.bm \/b∈m.bs)->¬m.no b) (no':Nat->Prop) (S:∀j,no' j->m.no j \/w.heap.size<=j) (Q:∀j,no' j->j<w'.heap.size):BR w' B {m with no:=no'} n K O:=by
 have T:=h.mlt;obtain⟨kn,ow,hF,G,H⟩:=h.ex;have mp:∀b,(b=m.bm \/b∈m.bs)->w'.heap[b]? =w.heap[b]? :=λb hb=>X b (T b hb) (D b hb);have tie:∀ {f:Int->Option SV} {F:Int->Option PS},Tie w m f F->Tie w' {m with no:=no'} f F:=by
  intro f F y x A;have:=y x A;cases e:F x with
  |none=>rw[e]at this;exact this
  |some q=>
   rw[e]at this;obtain⟨s,M,Z⟩:=this;refine⟨s,M,⟨Z.own,Z.seq,Z.n,Z.opt.kept (cap:=s.cap) (λj Y=>X j (Z.lt j Y) (Z.far j Y).2.2),Z.nil,Z.ok,λj Y=>Nat.lt_of_lt_of_le (Z.lt j Y) hs,λj Y=>⟨(Z.far j Y).1,(Z.far j Y).2.1,λe=> ?_⟩⟩⟩;rcases S j e with U|U
   {exact(Z.far j Y).2.2 U};{have:=Z.lt j Y;omega}
 refine⟨⟨kn,ow,⟨(X B hF.lt J).trans hF.od,hF.row.keep hs (λx hx=> ?_),hF.km.keep (mp _ (.inl rfl)),λi b e=>(hF.om i b e).keep (mp b (.inr (bI e))),hF.few,hF.nB,hF.nd⟩,tie G,λi hi=>tie (H i hi)⟩,Q⟩;have V:m.g=x:=by simpa[FM.sl,eh]using hx
 subst V;exact X m.g (hF.row.lt _ hx) E
