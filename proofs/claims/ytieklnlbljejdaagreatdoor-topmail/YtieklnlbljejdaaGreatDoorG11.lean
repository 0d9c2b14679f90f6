import Derived.Test.YtieklnlbljejdaaGreatDoorG10
open Go.Value renaming int → ι, slice → σ, pointer → π, tuple → τ
open Go.IntKind renaming i64 → κ
open Go.Ending renaming returned → ρ
open Go.Obj renaming cells → γ
open Option renaming none → ν, some → μ
open Go renaming World → eB, Calls → fj, Value → eD
open Go.Proofs.Tryz renaming prog → fk
open List renaming nil_append → gj, length_nil → fC
open Go.IntKind renaming i64 → fY
open Go.Value renaming ownBlock → eF, int → eI
open List.Pairwise renaming nil → gk
set_option maxRecDepth 100000
set_option maxHeartbeats 8000000
namespace Go.Proofs.YtieklnlbljejdaaGreatDoor
open Go.RowKit St
variable {C cap g:Nat} {a b w w' w1 w3 wr:World} {es:Int->List j2} {left:Lit->Bool} {v:Value}
structure SR(w:eB)(g C:Nat)(ss:List SV):Prop where
 lt:g<w.heap.size
 cell:∀j s,ss[j]? =μ s->w.cell? ⟨g,j*3,ν⟩=μ (ι κ s.own)/\w.cell? ⟨g,j*3+1,ν⟩=μ (ι κ s.seq)/\w.cell? ⟨g,j*3+2,ν⟩=μ (σ s.a s.n s.cap)
 sp:∀j,j<C*3->(w.cell? ⟨g,j,ν⟩).isSome=true/\w.frozen? ⟨g,j,ν⟩=false
 le:ss.length<=C
 cm:C<=maxLen
theorem SR.fz {ss:List SV} (h:SR w g C ss)(j:Nat)(hj:j<ss.length*3):w.frozen? ⟨g,j,ν⟩=false:=(h.sp j (by have:=h.le;omega)).2
theorem SR.below {ss:List SV} (h:SR w g C ss)(hb:eN w w'):SR w' g C ss:=
 ⟨Nat.lt_of_lt_of_le h.lt hb.size,λj s e=>by
  obtain⟨c0,c1,c2⟩:=h.cell j s e;exact⟨(hb.cell (p:=⟨g,j*3,ν⟩) h.lt).trans c0,(hb.cell (p:=⟨g,j*3+1,ν⟩) h.lt).trans c1,(hb.cell (p:=⟨g,j*3+2,ν⟩) h.lt).trans c2⟩,λj hj=>⟨by rw[hb.cell (p:=⟨g,j,ν⟩) h.lt];exact(h.sp j hj).1,(hb.frozen (p:=⟨g,j,ν⟩) h.lt).trans (h.sp j hj).2⟩,h.le,h.cm⟩
theorem SR.drewN {w:eB} {g C:Nat} {ss:List SV} (h:SR w g C ss)(n:Nat):SR (w.drewN n) g C ss:=h.below (below_drewN (au _ _) n)
def KC(w:eB)(g k:Nat)(s:SV):eB:=((w.setCell ⟨g,k*3,ν⟩ (ι κ s.own)).setCell ⟨g,k*3+1,ν⟩ (ι κ s.seq)).setCell ⟨g,k*3+2,ν⟩ (σ s.a s.n s.cap)
theorem SR.put {ss:List SV} (h:SR w g C ss)(k:Nat)(hk:k<ss.length)(s:SV):SR (KC w g k s) g C (ss.set k s):=by
 have abH:∀j,j<ss.length*3->(w.cell? ⟨g,j,ν⟩).isSome=true:=by
  intro j hj;have hl:j/3<ss.length:=eE;obtain⟨c0,c1,c2⟩:=h.cell (j/3) ss[j/3] (ay hl);rcases(show j=j/3*3 \/j=j/3*3+1 \/j=j/3*3+2 by omega)with e|e|e
  ·rw[e,c0];rfl
  ·rw[e,c1];rfl
  ·rw[e,c2];rfl
 have e0:KC w g k s=w.setCells g (k*3) [ι κ s.own,ι κ s.seq,σ s.a s.n s.cap] :=rfl;have pw:=bD g [ι κ s.own,ι κ s.seq,σ s.a s.n s.cap] (k*3) w (λj hj=>abH _ (by simp at hj;omega));refine⟨by unfold KC;simpa using h.lt,λj s' e=> ?_,λj hj=> ?_,by simpa using h.le,h.cm⟩
 ·by_cases WW:j=k
  ·subst WW;rw[List.getElem?_set_self hk]at e;obtain rfl:=Option.some.inj e;rw[e0];exact⟨pw 0 iC,pw 1 iC,pw 2 iC⟩
  ·rw[List.getElem?_set_ne (λe=>WW e.symm)]at e;obtain⟨c0,c1,c2⟩:=h.cell j s' e;have uq:∀o,o<3->(w.setCells g (k*3) [ι κ s.own,ι κ s.seq,σ s.a s.n s.cap]).cell? ⟨g,j*3+o,ν⟩=w.cell? ⟨g,j*3+o,ν⟩:=λo ho=>br g _ _ _ _ (λ_ _=>by show j*3+o<k*3 \/k*3+3<=j*3+o;omega);rw[e0];exact⟨(uq 0 eH).trans c0,(uq 1 eH).trans c1,(uq 2 eH).trans c2⟩
 ·rw[e0,bT];refine⟨?_,(h.sp j hj).2⟩;by_cases hq:k*3<=j/\j<k*3+3
  ·have:=pw (j-k*3) (by simp;omega);rw[show k*3+(j-k*3)=j by omega]at this;rw[this];rfl
  ·rw[br g _ _ _ _ (λ_ _=>by show j<k*3 \/k*3+3<=j;omega)];exact(h.sp j hj).1
theorem Ew(w:eB)(g k:Nat)(s:SV):w.grownBy (KC w g k s) (μ g):=by
 unfold KC;exact od (od (od ⟨rfl,rfl,rfl,Nat.le_refl _,λ_ _ _=>rfl⟩ _ _) _ _) _ _
def KE(l:List SV):Prop:=l.Pairwise (λx y=>x.own<y.own)
theorem Rv(x y:SV)(w:eB):fj fk 203 #[.agg #[ι κ x.own,ι κ x.seq,σ x.a x.n x.cap],.agg #[ι κ y.own,ι κ y.seq,σ y.a y.n y.cap]] w λe w'=>e=ρ (ι κ (l5 x.own y.own))/\eN w w':=by
 have pN:eN w ((w.alloc (γ #[ι κ x.own,ι κ x.seq,σ x.a x.n x.cap] 40)).alloc (γ #[ι κ y.own,ι κ y.seq,σ y.a y.n y.cap] 40)):=(iB _ _).alloc iC _;have h1:=rQ x.own y.own ((w.alloc (γ #[ι κ x.own,ι κ x.seq,σ x.a x.n x.cap] 40)).alloc (γ #[ι κ y.own,ι κ y.seq,σ y.a y.n y.cap] 40))
 go_in
 go_wp2_with(fail);refine h1.mono ?_;rintro e w1 ⟨rfl,rfl⟩
 go_wp2
 go_ret;exact⟨rfl,pN⟩
structure Down(w wr:eB)(g cap n i:Nat)(ss pre mid post:List SV)(x:SV):Prop where
 sr:SR wr g cap (pre++x::(mid++post))
 perm:(pre++x::(mid++post)).Perm ss
 P8:KE (pre++mid)
 low:∀y∈mid,x.own<y.own
 len:pre.length+mid.length=i
 grown:w.grownBy wr (μ g)
theorem MF {pre mid:List SV} {x:SV} (h:KE (pre++mid))(hp:∀y∈pre,y.own<x.own)(hm:∀y∈mid,x.own<y.own):KE (pre++x::mid):=by
 unfold KE at*;rw[bg]at h⊢;refine⟨h.1,cC.2 ⟨hm,h.2.1⟩,λa ha b hb=> ?_⟩;rcases bn.1 hb with rfl|hb
 ·exact hp a ha
 ·exact h.2.2 a ha b hb
theorem Rw {pre:List SV} {y x:SV} (h:KE (pre++ [y]))(hy:y.own<x.own):∀z∈pre++ [y],z.own<x.own:=by
 intro z hz;rcases aD.1 hz with hz|hz
 ·have:=(bg.1 h).2.2 z hz y iC;omega
 ·have:z=y:=by simpa using hz
  rw[this];exact hy
theorem rV(h:w.grownBy a (μ g))(k:eN a b):w.grownBy b (μ g):=
 ⟨k.os.trans h.os,k.tape.trans h.tape,k.output.trans h.output,Nat.le_trans h.size k.size,λi hi jV=>(k.block i (Nat.lt_of_lt_of_le hi h.size)).trans (h.block i hi jV)⟩
theorem z8(h:w.grownBy a (μ g))(k:a.grownBy b (μ g)):w.grownBy b (μ g):=
 ⟨k.os.trans h.os,k.tape.trans h.tape,k.output.trans h.output,Nat.le_trans h.size k.size,λi hi jV=>(k.block i (Nat.lt_of_lt_of_le hi h.size) jV).trans (h.block i hi jV)⟩
theorem abI {a b c d e f:Nat} {u0 u1 u2 u3 u4 u5:eD} (k:eN w w')(gl:g<w.heap.size)
 (h:w.cell? ⟨g,a,ν⟩=μ u0/\w.cell? ⟨g,b,ν⟩=μ u1/\w.cell? ⟨g,c,ν⟩=μ u2/\w.cell? ⟨g,d,ν⟩=μ u3/\w.cell? ⟨g,e,ν⟩=μ u4/\w.cell? ⟨g,f,ν⟩=μ u5):
 w'.cell? ⟨g,a,ν⟩=μ u0/\w'.cell? ⟨g,b,ν⟩=μ u1/\w'.cell? ⟨g,c,ν⟩=μ u2/\w'.cell? ⟨g,d,ν⟩=μ u3/\w'.cell? ⟨g,e,ν⟩=μ u4/\w'.cell? ⟨g,f,ν⟩=μ u5:=
 ⟨(k.cell (p:=⟨g,a,ν⟩) gl).trans h.1,(k.cell (p:=⟨g,b,ν⟩) gl).trans h.2.1,(k.cell (p:=⟨g,c,ν⟩) gl).trans h.2.2.1,(k.cell (p:=⟨g,d,ν⟩) gl).trans h.2.2.2.1,(k.cell (p:=⟨g,e,ν⟩) gl).trans h.2.2.2.2.1,(k.cell (p:=⟨g,f,ν⟩) gl).trans h.2.2.2.2.2⟩
theorem KF(g n cap:Nat)(ss:List SV)(w:eB)(h:SR w g cap ss)(hl:ss.length=n)(hn:n<=12)(hd:ss.Pairwise (λx y=>x.own≠y.own)):
 fj fk 232 #[σ (μ ⟨g,0,ν⟩) n cap,ι κ 0,ι κ (n:Int),.func (.func 203) #[] #[]] w λe w'=>e=ρ (τ #[])/\∃ts,SR w' g cap ts/\ts.Perm ss/\KE ts/\w.grownBy w' (μ g):=by
 go_in
 go_wp2
 go_loopw [8] (λi wr=>∃(k:Nat) (ts:List SV),1<=k/\(k<=n \/k=1)/\i=ι κ k/\SR wr g cap ts/\ts.Perm ss/\KE (ts.take k)/\w.grownBy wr (μ g)) (λi _=>n-(intOf i).toNat)
 case atStart=>exact⟨1,ss,Nat.le_refl _,.inr rfl,rfl,h,List.Perm.refl _,by unfold KE;cases ss<;>simp,⟨rfl,rfl,rfl,Nat.le_refl _,λ_ _ _=>rfl⟩⟩
 case round=>
  obtain⟨k,ts,T8,FN,rfl,hS,hP,hR,hG⟩:=hrel;have htl:ts.length=n:=by rw[hP.length_eq,hl]
  by_cases kH:k<n
  ·have nG:(k:Int)<(n:Int):=eE;have hD0:Hid (Down w wr g cap n k ss (ts.take k) [] (ts.drop (k+1)) (ts[k]'(by omega))):=by
    have e:ts.take k++(ts[k]'(by omega))::([] ++ts.drop (k+1))=ts:=by
     rw[gj,<-aR eE,bX]
    refine⟨by rw[e];exact hS,by rw[e];exact hP,by rw[aM];exact hR,iC,by simp;omega,hG⟩
   obtain⟨wo,rfl⟩:∃wo,wo=wr:=⟨_,rfl⟩
   clear hS hP hR hG
   go_wp2
   go_loopw [9] (λj wr=>∃(pre mid post:List SV) (x:SV),j=ι κ (pre.length:Int)/\Down w wr g cap n k ss pre mid post x) (λj _=>(intOf j).toNat)
   case atStart=>exact⟨_,_,_,_,by simp;omega,hD0.out⟩
   case round=>
    clear hD0;obtain⟨pre,mid,post,x,rfl,hD⟩:=hrel;have hlen:pre.length+mid.length+post.length+1=n:=by
     have:=hD.perm.length_eq;simp at this;omega
    rcases List.eq_nil_or_concat pre with rfl|⟨pr,y,vK⟩
    ·have HE:Hid (∃ts:List SV,SR wr g cap ts/\ts.Perm ss/\KE (ts.take (k+1))/\w.grownBy wr (μ g)):=by
      refine⟨_,hD.sr,hD.perm,?_,hD.grown⟩;have hm:=hD.len;simp only[gj,fC,Nat.zero_add]at hm⊢;have e:(x::(mid++post)).take (k+1)=x::mid:=by
       rw[List.take_succ_cons,<-hm,List.take_left]
      rw[e];exact MF (pre:=[]) hD.P8 iC hD.low
     clear hD;simp only[fC,Int.natCast_zero]
     go_wp2
     go_quiet(fail)
     go_wp2
     go_roundw
     case rel=>
      obtain⟨us,q1,q2,q3,q4⟩:=HE.out;exact⟨k+1,us,eE,.inl eE,by go_num,SR.drewN q1 _,q2,q3,rV q4 (below_drewN (au _ _) _)⟩
     case measure=>simp[intOf];omega
    ·rw[List.concat_eq_append]at vK;subst vK;obtain⟨P,hP⟩:=gH (pr.length);have hPl:(pr++ [y]).length=P+1:=by simp[hP]
     have gx:((pr++ [y])++x::(mid++post))[P+1]? =μ x:=by rw[<-hPl];simp
     have gy:((pr++ [y])++x::(mid++post))[P]? =μ y:=by rw[<-hP];simp
     obtain⟨x0,x1,x2⟩:=hD.sr.cell _ _ gx;obtain⟨y0,y1,y2⟩:=hD.sr.cell _ _ gy;have gl:=hD.sr.lt;have hPn:P+1<n:=by
      rw[hPl]at hlen;omega
     have b0:(0:Int)<=(P:Int):=eE;have b1:(P:Int)<(n:Int):=eE;have b2:(P:Int)+1<(n:Int):=eE;have b3:(0:Int)<=(P:Int)+1:=eE;have b4:(0:Int)<(P:Int)+1:=eE;have b5:fY.wrap ((P:Int)+1-1)=(P:Int):=by rw[show(P:Int)+1-1=(P:Int) by omega];exact aS _ ⟨eE,eE⟩
     have b6:fY.wrap (P:Int)=(P:Int):=aS _ ⟨eE,eE⟩;have abJ:¬x.own=y.own:=by
      have P9:=(hD.perm.pairwise_iff (λ{a b} (DE:a.own≠b.own)=>λe=>DE e.symm)).2 hd;have h3:=(bg.1 P9).2.2 y iC x iC;exact λe=>h3 e.symm
     have eJ:(((pr++ [y]).length:Nat):Int)=(P:Int)+1:=by rw[hPl];rfl
     rw[eJ];have HD:Hid _:=hD;have HP:Hid _:=hP;have HN:Hid _:=abJ;clear hD hP abJ eJ hPl gx gy hlen;have F0:wr.drew.cell? ⟨g,(P+1)*3,ν⟩=μ (ι κ x.own)/\wr.drew.cell? ⟨g,(P+1)*3+1,ν⟩=μ (ι κ x.seq)/\wr.drew.cell? ⟨g,(P+1)*3+2,ν⟩=μ (σ x.a x.n x.cap)/\wr.drew.cell? ⟨g,P*3,ν⟩=μ (ι κ y.own)/\wr.drew.cell? ⟨g,P*3+1,ν⟩=μ (ι κ y.seq)/\wr.drew.cell? ⟨g,P*3+2,ν⟩=μ (σ y.a y.n y.cap):=⟨x0,x1,x2,y0,y1,y2⟩
     have HC:=Rv x y wr.drew;obtain⟨cx,Ug⟩:=gH (l5 x.own y.own);rw[Ug]at HC;by_cases Yy:x.own<y.own
     ·have hc1:cx= -1:=by rw[<-Ug,l5,ag Yy]
      subst hc1;clear Ug
      go_wp2
      go_region_held3(λv=>v.cell? ⟨g,(P+1)*3,ν⟩=μ (ι κ x.own)/\v.cell? ⟨g,(P+1)*3+1,ν⟩=μ (ι κ x.seq)/\v.cell? ⟨g,(P+1)*3+2,ν⟩=μ (σ x.a x.n x.cap)/\v.cell? ⟨g,P*3,ν⟩=μ (ι κ y.own)/\v.cell? ⟨g,P*3+1,ν⟩=μ (ι κ y.seq)/\v.cell? ⟨g,P*3+2,ν⟩=μ (σ y.a y.n y.cap))
       (first|assumption|exact F0|exact F1)
       ((go_at_call 203;refine HC.mono ?_;rintro e w5 ⟨rfl,k5⟩;have F1:=abI k5 gl F0))
      have k5':eN wr w5:=iA (below_drewN (au _ _) 1) k5;have S5:=HD.out.sr.below k5';obtain⟨z0,z1,z2,z3,z4,z5⟩:=F1;have gl5:=S5.lt;have Qa:∀o,o<(P+2)*3->w5.frozen? ⟨g,o,ν⟩=false:=λo ho=>S5.fz o (by have:=HP.out;simp;omega);have f0:=Qa ((P+1)*3) eE;have f1:=Qa ((P+1)*3+1) eE;have f2:=Qa ((P+1)*3+2) eE;have f3:=Qa (P*3) eE;have f4:=Qa (P*3+1) eE;have f5:=Qa (P*3+2) eE;clear Qa HC F0 x0 x1 x2 y0 y1 y2 k5;have hD6:Hid (Down w (KC (KC w5 g (P+1) y) g P x).drew g cap n k ss pr (y::mid) post x):=by
       have hd:=HD.out;have hp:=HP.out;have afP:((((pr++ [y])++x::(mid++post)).set (P+1) y).set P x)=pr++x::((y::mid)++post):=by
        subst hp;rw[aC,dZ _ _ eE,show pr.length+1-pr.length=1 by omega];simp only[List.singleton_append,List.set_cons_succ,List.set_cons_zero];rw[dZ _ _ eE,Nat.sub_self];rfl
       have hlen:((pr++ [y])++x::(mid++post)).length=pr.length+mid.length+post.length+2:=by simp;omega
       have s6:=((S5.put (P+1) (by rw[hlen];omega) y).put P (by rw[List.length_set,hlen];omega) x).drewN 1;rw[afP]at s6;refine⟨s6,?_,?_,?_,?_,?_⟩
       ·refine List.Perm.trans ?_ hd.perm;rw[aC];exact List.Perm.append_left pr (by simpa using List.Perm.swap y x (mid++post))
       ·have:=hd.P8;rw[aC]at this;exact this
       ·intro z hz;rcases bn.1 hz with rfl|hz
        ·exact Yy
        ·exact hd.low z hz
       ·have:=hd.len;simp at this⊢;omega
       ·exact rV (z8 (z8 (rV hd.grown k5') (Ew _ g (P+1) y)) (Ew _ g P x)) (below_drewN (au _ _) 1)
      go_wp2
      go_region
      go_wp2_with(fail);refine⟨⟨pr,y::mid,post,x,?_,?_⟩,?_⟩
      ·rw[HP.out]
      ·exact hD6.out
      ·simp[intOf]
     ·have hhi:y.own<x.own:=by
       have h9:¬x.own=y.own:=HN.out;omega
      have hc1:cx=1:=by rw[<-Ug,l5,ae Yy,ag hhi]
      subst hc1;clear Ug
      go_wp2
      go_region_held3(λv=>v.cell? ⟨g,(P+1)*3,ν⟩=μ (ι κ x.own)/\v.cell? ⟨g,(P+1)*3+1,ν⟩=μ (ι κ x.seq)/\v.cell? ⟨g,(P+1)*3+2,ν⟩=μ (σ x.a x.n x.cap)/\v.cell? ⟨g,P*3,ν⟩=μ (ι κ y.own)/\v.cell? ⟨g,P*3+1,ν⟩=μ (ι κ y.seq)/\v.cell? ⟨g,P*3+2,ν⟩=μ (σ y.a y.n y.cap))
       (first|assumption|exact F0|exact F1)
       ((go_at_call 203;refine HC.mono ?_;rintro e w5 ⟨rfl,k5⟩;have F1:=abI k5 gl F0))
      have k5':eN wr w5:=iA (below_drewN (au _ _) 1) k5;have HE:Hid (∃ts:List SV,SR w5 g cap ts/\ts.Perm ss/\KE (ts.take (k+1))/\w.grownBy w5 (μ g)):=by
       have hd:=HD.out;refine⟨_,hd.sr.below k5',hd.perm,?_,rV hd.grown k5'⟩;have hm:=hd.len;have e:((pr++ [y])++x::(mid++post)).take (k+1)=(pr++ [y])++x::mid:=by
        rw[show(pr++ [y])++x::(mid++post)=((pr++ [y])++x::mid)++post by simp];rw[List.take_left' (by simp at hm⊢;omega)]
       rw[e];exact MF hd.P8 (Rw (bg.1 hd.P8).1 hhi) hd.low
      clear HC F0 F1 x0 x1 x2 y0 y1 y2 k5
      go_wp2
      go_roundw
      case rel=>
       obtain⟨us,q1,q2,q3,q4⟩:=HE.out;exact⟨k+1,us,eE,.inl eE,by go_num,q1,q2,q3,q4⟩
      case measure=>simp[intOf];omega
  ·have HE:Hid (∃ts,SR wr g cap ts/\ts.Perm ss/\KE ts/\w.grownBy wr (μ g)):=by
    refine⟨ts,hS,hP,?_,hG⟩;have:ts.take k=ts:=aK eE
    rwa [this]at hR
   clear hS hP hR hG;have yG:¬(k:Int)<(n:Int):=eE
   go_wp2
   first|go_end0|refine aj (ar rfl _ _ _) rfl ?_
   exact⟨rfl,HE.out⟩
theorem MG(n:Nat)(hn:n<=6)(w:eB):fj fk 221 #[.int .u64 (n:Int)] w λe w'=>∃r:Int,e=ρ (ι κ r)/\w=w':=by
 have h64:∀W:eB,fj fk 241 #[.int .u64 (n:Int)] W λe w'=>∃r:Int,e=ρ (ι κ r)/\W=w':=by
  intro W;rcases(show n=0 \/n=1 \/n=2 \/n=3 \/n=4 \/n=5 \/n=6 by omega)with rfl|rfl|rfl|rfl|rfl|rfl|rfl
  all_goals
   go_in
   go_wp2
   go_ret;exact⟨_,rfl,rfl⟩
 go_in
 go_wp2_with(fail);refine(h64 _).mono ?_;rintro e w1 ⟨r,rfl,rfl⟩
 go_wp2
 go_ret;exact⟨_,rfl,rfl⟩
theorem U8(g n cap:Nat)(L:Int)(ss:List SV)(w:eB)(h:SR w g cap ss)(hl:ss.length=n)(hn:n<=12)(hd:ss.Pairwise (λx y=>x.own≠y.own)):
 fj fk 220 #[σ (μ ⟨g,0,ν⟩) n cap,ι κ 0,ι κ (n:Int),ι κ L,.func (.func 203) #[] #[]] w λe w'=>e=ρ (τ #[])/\∃ts,SR w' g cap ts/\ts.Perm ss/\KE ts/\w.grownBy w' (μ g):=by
 have hc:=KF g n cap ss w h hl hn hd;have h12:(n:Int)<=12:=eE
 go_in
 go_wp2_with(fail);refine b9 1 ?_;rw[bO];go_wp2_with(fail);refine hc.mono ?_;rintro e w1 ⟨rfl,hE⟩;have HE:Hid _:=hE;clear hE hc
 go_wp2
 first|go_end0|refine aj (ar rfl _ _ _) rfl ?_
 exact⟨rfl,HE.out⟩
theorem Rx(g n cap:Nat)(ss:List SV)(w:eB)(h:SR w g cap ss)(hl:ss.length=n)(hn:n<=6)(hd:ss.Pairwise (λx y=>x.own≠y.own)):
 fj fk 202 #[σ (μ ⟨g,0,ν⟩) n cap,.func (.func 203) #[] #[]] w λe w'=>e=ρ (τ #[])/\∃ts,SR w' g cap ts/\ts.Perm ss/\KE ts/\w.grownBy w' (μ g):=by
 have hle:=MG n hn w;have h12:(n:Int)<=6:=eE
 go_in
 go_wp2_with(fail);refine hle.mono ?_;rintro e w1 ⟨r,rfl,rfl⟩;go_wp2_with(fail);refine(U8 g n cap r ss w h hl eE hd).mono ?_;rintro e w2 ⟨rfl,hE⟩;have HE:Hid _:=hE;clear hE hle
 go_wp2
 first|go_end0|refine aj (ar rfl _ _ _) rfl ?_
 exact⟨rfl,HE.out⟩
def SV.cells(s:SV):List eD:=[ι κ s.own,ι κ s.seq,σ s.a s.n s.cap]
def Ob(ss:List SV):List eD:=ss.flatMap SV.cells
theorem Ry(ss:List SV)(s:SV):Ob (ss++ [s])=Ob ss++ [ι κ s.own,ι κ s.seq,σ s.a s.n s.cap] :=by simp[Ob,SV.cells]
theorem MH:∀(ss:List SV) (j:Nat) (s:SV),ss[j]? =μ s->(Ob ss)[j*3]? =μ (ι κ s.own)/\(Ob ss)[j*3+1]? =μ (ι κ s.seq)/\(Ob ss)[j*3+2]? =μ (σ s.a s.n s.cap)
 |[],j,s,h=>by simp at h
 |x::l,0,s,h=>by
  have:x=s:=by simpa using h
  subst this;exact⟨rfl,rfl,rfl⟩
 |x::l,j+1,s,h=>by
  have h':l[j]? =μ s:=by simpa using h
  obtain⟨a,b,c⟩:=MH l j s h';have e:Ob (x::l)=ι κ x.own::ι κ x.seq::σ x.a x.n x.cap::Ob l:=rfl;have e1:(j+1)*3=j*3+3:=eE;have e2:(j+1)*3+1=j*3+1+3:=eE;have e3:(j+1)*3+2=j*3+2+3:=eE;rw[e,e2,e3,e1];simp only[List.getElem?_cons_succ];exact⟨a,b,c⟩
theorem Row.sr {ss:List SV} (h:Row w 3 (σ (μ ⟨g,0,ν⟩) ss.length cap) ss.length (Ob ss)):SR w g cap ss:=by
 rcases h.2 with⟨e,_⟩|⟨g',jL,e,_,hle,J6,_,hs⟩
 ·cases e
 ·cases e;refine⟨h.lt g rfl,λj s e=> ?_,hs,hle,J6⟩;obtain⟨a,b,c⟩:=MH ss j s e;exact⟨Row.cell h _ _ a,Row.cell h _ _ b,Row.cell h _ _ c⟩
theorem tS:∀(l m:List Int),l.Pairwise (·≠·)->(∀x∈l,x∈m)->l.length<=m.length
 |[],_,_,_=>Nat.zero_le _
 |x::l,m,hp,hs=>by
  obtain⟨h1,h2⟩:=cC.1 hp;have hx:=hs x iC;have:=tS l (m.erase x) h2 (λy hy=>(List.mem_erase_of_ne (λe=>h1 y hy e.symm)).2 (hs y (dj _ hy)));rw[List.length_erase_of_mem hx]at this;have hm:0<m.length:=List.length_pos_of_mem hx;simp only[List.length_cons];omega
structure Yz(w wr:eB)(f:Int->Option SV)(es:Int->List j2)(v:eD)(s:SV):Prop where
 at_:∃t,f s.own=μ t/\s.seq=t.seq
 inr:rS s.own
 n:s.n=(es s.own).length
 opt:jm wr s.a s.n (es s.own)
 nil:kM s.a s.cap
 new:∀j,eF (σ s.a s.n s.cap)=μ j->w.heap.size<j/\j<wr.heap.size/\v.ownBlock≠μ j
structure RA(w wr:eB)(f:Int->Option SV)(es:Int->List j2)(left:Lit->Bool)(v:eD)(out:List SV):Prop where
 row:Row wr 3 v out.length (Ob out)
 own:∀g,v.ownBlock=μ g->w.heap.size<g
 el:∀s∈out,Yz w wr f es v s/\left (.int .i64 s.own)=false
 df:out.Pairwise (λx y=>x.own≠y.own)
 all:∀k,rS k->(f k).isSome=true->left (.int .i64 k)=false->∃s∈out,s.own=k
 nU:eN w wr
theorem RA.step {f:Int->Option SV} {v':eD} {out:List SV} {s t:SV} (h:RA w wr f es left v out)
 (ki:wr.grownBy w1 (μ w.heap.size)) (G:w1.grownBy w3 v.ownBlock) (hr:Row w3 3 v' (out.length+1) (Ob out++ [ι κ s.own,ι κ s.seq,σ s.a s.n s.cap]))
 (hv:∀g,v'.ownBlock=μ g->v.ownBlock=μ g \/wr.heap.size<=g) (hw:w.heap.size<wr.heap.size) (jw:∀j,eF (σ s.a s.n s.cap)=μ j->wr.heap.size<=j/\j<w3.heap.size/\v'.ownBlock≠μ j)
 (hx:rS s.own) (hlx:left (.int .i64 s.own)=true) (WU:f s.own=μ t) (hq:s.seq=t.seq) (hn:s.n=(es s.own).length) (ho:jm w3 s.a s.n (es s.own)) (kj:kM s.a s.cap):
 RA w w3 f es (λz=>left z&& !z.sameKey (.int .i64 s.own)) v' (out++ [s]):=by
 have qI:wr.heap.size<=w3.heap.size:=Nat.le_trans ki.size G.size;have hK:∀i,i<wr.heap.size->i≠w.heap.size->v.ownBlock≠μ i->w3.heap[i]? =wr.heap[i]? :=λi hi h1 h2=>
  (G.block i (Nat.lt_of_lt_of_le hi ki.size) (λe=>h2 e.symm)).trans (ki.block i hi (λe=>h1 (by simpa using e)))
 refine⟨?_,?_,?_,?_,?_,?_⟩
 ·rw[Ry,aA];exact hr
 ·intro g hg;rcases hv g hg with e|e
  ·exact h.own g e
  ·omega
 ·intro q hq;rcases aD.1 hq with hq|hq
  ·obtain⟨a,b⟩:=h.el q hq;refine⟨⟨a.at_,a.inr,a.n,a.opt.kept (cap:=q.cap) (λj hj=> ?_),a.nil,λj hj=> ?_⟩,by simp[b]⟩
   ·obtain⟨c1,c2,c3⟩:=a.new j hj;exact hK j c2 eE c3
   ·obtain⟨c1,c2,c3⟩:=a.new j hj;refine⟨c1,eE,λe=> ?_⟩;rcases hv j e with e|e
    ·exact c3 e
    ·omega
  ·have:q=s:=by simpa using hq
   subst this;refine⟨⟨⟨t,WU,jj⟩,hx,hn,ho,kj,λj hj=> ?_⟩,by simp[qv]⟩;obtain⟨c1,c2,c3⟩:=jw j hj;exact⟨eE,c2,c3⟩
 ·rw[bg];refine⟨h.df,List.pairwise_singleton _ _,λa ha b hb=> ?_⟩;have:b=s:=by simpa using hb
  subst this;intro e;have:=(h.el a ha).2;rw[e,hlx]at this;cases this
 ·intro k hk hs hl;by_cases e:k=s.own
  ·exact⟨s,iC,e.symm⟩
  ·have:left (.int .i64 k)=false:=by simpa[qv,e]using hl
   obtain⟨q,h1,h2⟩:=h.all k hk hs this;exact⟨q,by simp[h1],h2⟩
 ·refine⟨?_,?_,?_,?_,?_⟩
  ·exact G.os.trans (ki.os.trans h.nU.os)
  ·exact G.tape.trans (ki.tape.trans h.nU.tape)
  ·exact G.output.trans (ki.output.trans h.nU.output)
  ·exact Nat.le_trans h.nU.size qI
  ·intro i hi;refine(hK i eE eE (λe=> ?_)).trans (h.nU.block i hi);have:=h.own i e;omega
theorem RA.few {f:Int->Option SV} {out:List SV} (h:RA w wr f es left v out)(hf:∀k s,rS k->f k=μ s->1<=k/\k<=6):out.length<=6:=by
 have h1:=tS (out.map SV.own) [1,2,3,4,5,6] (by rw[dG];exact h.df) (λx hx=>by
  obtain⟨s,hs,rfl⟩:=bI.1 hx;obtain⟨t,ht,_⟩:=(h.el s hs).1.at_;have:=hf _ t (h.el s hs).1.inr ht;simp;omega)
 simpa using h1
theorem infoState:(fk.info? 40).map (λi=>(i.zero,i.size,i.bytes))=μ (μ (.agg #[ι κ 0,ι κ 0,σ ν 0 0]),3,40):=gT
theorem Iw(w:eB)(x y z:eD)(t:TypeId)(g:Nat)(hg:w.heap.size=g):∀(j:Nat) (u:eD),[x,y,z][j]? =μ u->(w.alloc (γ #[x,y,z] t)).cell? ((⟨g,0,ν⟩:Addr).add j)=μ u:=by
 subst hg;intro j u hu;rw[add_plain,aq];simpa using hu
theorem YA(x y:Int)(a:Option Addr)(n c:Nat):∀u∈ [eI .i64 x,eI .i64 y,Value.slice a n c],u.oneCell'=true:=by simp[Value.oneCell']
structure Cc(w w':eB)(f:Int->Option SV)(es:Int->List j2)(v:eD)(ts:List SV):Prop where
 shape:(v=σ ν 0 0/\ts=[]) \/ ∃g cap,v=σ (μ ⟨g,0,ν⟩) ts.length cap/\SR w' g cap ts/\w.heap.size<g
 el:∀s∈ts,Yz w w' f es v s
 P8:KE ts
 all:∀k,rS k->(f k).isSome=true->∃s∈ts,s.own=k
 nU:eN w w'
theorem RA.YB {f:Int->Option SV} {out:List SV} (h:RA w wr f es left v out)(hl:∀kl,left kl=false)(hv:v=σ ν 0 0):Cc w wr f es v [] /\out=[] :=by
 have ho:out=[] :=by
  rcases h.row.2 with⟨_,e⟩|⟨g,cap,e,_⟩
  ·exact aG e
  ·rw[hv]at e;cases e
 subst ho;exact⟨⟨.inl ⟨hv,rfl⟩,λs hs=>by simp at hs,gk,λk hk hs=>h.all k hk hs (hl _),h.nU⟩,rfl⟩
theorem RA.abL {f:Int->Option SV} {out ts:List SV} (h:RA w wr f es left (σ (μ ⟨g,0,ν⟩) out.length cap) out)(hl:∀kl,left kl=false)
 (hs:SR w' g cap ts) (hp:ts.Perm out) (hr:KE ts) (hg:wr.grownBy w' (μ g)):Cc w w' f es (σ (μ ⟨g,0,ν⟩) out.length cap) ts:=by
 have Ha:w.heap.size<g:=h.own g rfl;refine⟨.inr ⟨g,cap,by rw[hp.length_eq],hs,Ha⟩,λs hq=> ?_,hr,λk hk h1=> ?_,?_⟩
 ·have a:=(h.el s (hp.mem_iff.1 hq)).1;refine⟨a.at_,a.inr,a.n,a.opt.kept (cap:=s.cap) (λj hj=> ?_),a.nil,λj hj=> ?_⟩
  ·obtain⟨c1,c2,c3⟩:=a.new j hj;exact hg.block j c2 (λe=>c3 e.symm)
  ·obtain⟨c1,c2,c3⟩:=a.new j hj;exact⟨c1,Nat.lt_of_lt_of_le c2 hg.size,c3⟩
 ·obtain⟨s,h2,h3⟩:=h.all k hk h1 (hl _);exact⟨s,hp.mem_iff.2 h2,h3⟩
 ·refine⟨hg.os.trans h.nU.os,hg.tape.trans h.nU.tape,hg.output.trans h.nU.output,Nat.le_trans h.nU.size hg.size,λi hi=>(hg.block i (Nat.lt_of_lt_of_le hi h.nU.size) (λe=> ?_)).trans (h.nU.block i hi)⟩;have:i=g:=by simpa using e
  omega
theorem RB(w:eB):fj fk 202 #[σ ν 0 0,.func (.func 203) #[] #[]] w λe w'=>e=ρ (τ #[])/\w=w':=by
 have hle:=MG 0 eH w;have pw:fj fk 232 #[σ ν 0 0,ι κ 0,ι κ 0,.func (.func 203) #[] #[]] w λe w'=>e=ρ (τ #[])/\w=w':=by
  go_in
  go_wp2_with(fail);refine b9 1 ?_;rw[bO]
  go_wp2
  first|go_end0|refine aj (ar rfl _ _ _) rfl ?_
  exact⟨rfl,rfl⟩
 have hpd:∀L:Int,fj fk 220 #[σ ν 0 0,ι κ 0,ι κ 0,ι κ L,.func (.func 203) #[] #[]] w λe w'=>e=ρ (τ #[])/\w=w':=by
  intro L
  go_in
  go_wp2_with(fail);refine b9 1 ?_;rw[bO];go_wp2_with(fail);refine pw.mono ?_;rintro e w1 ⟨rfl,rfl⟩
  go_wp2
  first|go_end0|refine aj (ar rfl _ _ _) rfl ?_
  exact⟨rfl,rfl⟩
 go_in
 go_wp2_with(fail);refine hle.mono ?_;rintro e w1 ⟨r,rfl,rfl⟩;go_wp2_with(fail);refine(hpd r).mono ?_;rintro e w2 ⟨rfl,rfl⟩
 go_wp2
 first|go_end0|refine aj (ar rfl _ _ _) rfl ?_
 exact⟨rfl,rfl⟩
theorem KG {w2:eB} {o o2:Obj} {row:Option Nat} (k2:Below (w1.alloc o).heap.size (w1.alloc o) w2)(tI:(w2.alloc o2).grownBy w3 row):w1.grownBy w3 row:=by
 have s1:(w1.alloc o).heap.size=w1.heap.size+1:=iC;have s2:(w2.alloc o2).heap.size=w2.heap.size+1:=iC;have hk:=k2.size;have b1:=iB w1 o;have b2:=iB w2 o2;refine⟨tI.os.trans (b2.os.trans (k2.os.trans b1.os)),tI.tape.trans (b2.tape.trans (k2.tape.trans b1.tape)),tI.output.trans (b2.output.trans (k2.output.trans b1.output)),by have:=tI.size;omega,λi hi jV=> ?_⟩;exact(tI.block i eE jV).trans ((b2.block i eE).trans ((k2.block i eE).trans (b1.block i hi)))
theorem Cd(b n:Nat)(f:Int->Option SV)(es:Int->List j2)(w:eB)(h:SMap w b n f)
 (hf:∀k s,rS k->f k=μ s->(1<=k/\k<=6)/\s.own=k/\jm w s.a s.n (es k)/\kM s.a s.cap/\s.n<=1000000):
 fj fk 160 #[.map (μ b)] w λe w'=>∃v ts,e=ρ v/\Cc w w' f es v ts:=by
 obtain⟨i0,hi,oz,mW,nT⟩:=aW infoState;obtain⟨D,jC,KA⟩:=h.own;have A8:=h.lt;have hz:=oT;have H0:Hid (∀k,rS k->f k=ν->∀z,D.atKey (.int .i64 k) z=z):=λk hk e=>by have:=KA k hk;rw[e]at this;exact this
 have H1:Hid (∀k s,rS k->f k=μ s->∀z,D.atKey (.int .i64 k) z=.held s):=λk s hk e=>by have:=KA k hk;rw[e]at this;exact this
 have HF:Hid _:=hf;clear KA h hf
 go_in
 go_wp2_with(first
  |(at_range;refine wpList_range_own _ rfl _ 211 rfl 3 40 tP bU rR b n _ rfl jC ?_;intro w0 Rq KB WN)
  |fail)
 go_frame
 go_loopw [3] (λv wr=>∃(left:Lit->Bool) (WT:Nat) (out:List SV),wr.ranges fk 3 rR b w.heap.size n D left WT/\w.heap.size<wr.heap.size/\RA w wr f es left v out)
  (λ_ wr=>wr.rangeLeft b w.heap.size)
 case atStart=>
  refine⟨_,_,[],Rq,eE,⟨Row.nil _ 3,λg hg=>by simp[eF]at hg,λs hs=>by simp at hs,gk,λk hk h1 h2=> ?_,⟨KB.os,KB.tape,KB.output,KB.size,λi hi=>KB.block i hi iC⟩⟩⟩;cases e:f k with
  |none=>rw[e]at h1;cases h1
  |some s=>
   rw[dV (H1.out k s hk e)]at h2;cases h2
 case round=>
  clear Rq KB WN jC;obtain⟨left,WT,out,H7,hww,hC⟩:=hrel;go_wp2_with(first
   |(at_next;refine wpList_next_ranges _ rfl _ rfl 3 tP rR (eI .i64) SV.v (λkey kl wX=>by obtain⟨x,rfl,_⟩:=cB aJ wX;exact⟨x,rfl⟩) (λv y hv=>by obtain⟨s,rfl,_⟩:=vI hv;exact⟨s,rfl⟩) b w.heap.size n _ _ _ rfl H7 ?_ ?_)
   |fail)
  ·intro qD wy;have h6:=hC.few (λk s hk e=>(HF.out k s hk e).1);rcases hC.row.2 with⟨hv,RC⟩|⟨g,cap,hv,_⟩
   ·subst hv;have HR:Hid _:=(hC.YB wy rfl).1;have X9:=RB wr;clear hC H7 wy RC h6;go_wp2_with(fail);refine X9.mono ?_;rintro e w2 ⟨rfl,rfl⟩;clear X9
    go_wp2
    go_ret;exact⟨_,_,rfl,HR.out⟩
   ·subst hv;have X9:=Rx g out.length cap out wr hC.row.sr rfl h6 hC.df;have HC:Hid _:=hC;have HL:Hid _:=wy;clear hC H7 wy h6;go_wp2_with(fail);refine X9.mono ?_;rintro e w2 ⟨rfl,ts,hS,hp,hr,hg⟩;have HR:Hid _:=HC.out.abL HL.out hS hp hr hg;clear X9 hS hp hr hg
    go_wp2
    go_ret;exact⟨_,_,rfl,HR.out⟩
  ·intro x c kl yd yp w1 Iv wX hlx hv hat Rr DR ki BF Oa;obtain⟨x',ex,rfl,hwx⟩:=cB aJ wX;cases ex;have U7:=za hwx;obtain⟨cw,cs,ca,cn,cc⟩:=c;rw[xO]at hv;have hy:yd=.held ⟨cw,cs,ca,cn,cc⟩:=by have:=Option.some.inj hv;simp only[Prod.mk.injEq]at this;exact this.1.symm
   have WU:f x=μ ⟨cw,cs,ca,cn,cc⟩:=by
    cases e:f x with
    |none=>
     have h1:=H0.out x U7 e .nil;rw[hat,hy]at h1;cases h1
    |some s=>
     have h1:=H1.out x s U7 e .nil;rw[hat,hy]at h1;cases h1;rfl
   obtain⟨hx6,hxo,AG,kj,hcn⟩:=HF.out x _ U7 WU;simp only at hxo AG kj hcn;subst hxo;have h6:=hC.few (λk s hk e=>(HF.out k s hk e).1);have abG:(Instr.entry (π (μ ⟨w.heap.size,0,ν⟩))).run fk w1=.ok (τ #[ι κ cw,.agg #[ι κ cw,ι κ cs,σ ca cn cc]]) w1:=Oa;have kt:eN w w1:=⟨ki.os.trans hC.nU.os,ki.tape.trans hC.nU.tape,ki.output.trans hC.nU.output,Nat.le_trans hC.nU.size ki.size,λi hi=>(ki.block i eE (λe=>by simp at e;omega)).trans (hC.nU.block i hi)⟩
   have A6:=BP cw cs ca cn cc (es cw) (w1.alloc (γ #[ι κ cw,ι κ cs,σ ca cn cc] 40)) hcn kj (AG.below (kt.alloc kt.size _));have HC:Hid _:=hC;have HX:Hid (left (.int .i64 cw)=true/\rS cw/\f cw=μ ⟨cw,cs,ca,cn,cc⟩/\wr.grownBy w1 (μ w.heap.size)/\w1.heap.size=wr.heap.size/\w.heap.size<wr.heap.size/\out.length<=6):=⟨hlx,U7,WU,ki,BF,hww,h6⟩
   have HG:Hid (w1.ranges fk 3 rR b w.heap.size n D (λz=>left z&& !z.sameKey (.int .i64 cw)) Iv):=Rr;have HM:Hid _:=DR;have HO:Hid (wr.rangeLeft b w.heap.size=WT):=H7.left_eq;clear hC hlx U7 WU ki BF hww h6 Rr DR H7 Oa hat hy hv wX hwx hx6 AG kj hcn kt;go_wp2_with(fail);refine A6.mono ?_;rintro e w2 ⟨⟨va,vc,rfl,vo,vn,vl,DM⟩,k2⟩;clear A6 abG;have uI:Row w2 3 u3 out.length (Ob out):=by
    obtain⟨q1,q2,q3,q4,q5,q6,q7⟩:=HX.out;have s1:(w1.alloc (γ #[ι κ cw,ι κ cs,σ ca cn cc] 40)).heap.size=w1.heap.size+1:=iC;refine HC.out.row.keep (by have:=k2.size;omega) (λk hk=> ?_);have T8:=HC.out.row.lt k hk;have sg:=HC.out.own k hk;exact(k2.block k eE).trans (((iB w1 _).block k eE).trans (q4.block k T8 (λe=>by simp at e;omega)))
   have h7:out.length<=6:=HX.out.2.2.2.2.2.2;obtain⟨m,hm⟩:=gH (out.length);rw[hm]at uI h7;have HN:Hid _:=hm;clear hm;go_wp2_with(at_builtin;go_must(refine iX _ rfl (.tmp 12) (.tmp 15) 91 rfl 40 i0 (.agg #[ι κ 0,ι κ 0,σ ν 0 0]) 3 40 Tryz.underlying91 hi oz mW nT rfl eH u3 m (Ob out) rfl (uI.alloc _) _ 1 1 [ι κ cw,ι κ cs,σ va (es cw).length vc] rfl rfl eH (Iw _ _ _ _ _ _ iC) (YA _ _ _ _ _) (by unfold maxLen;omega) eE ?_));intro g' jL w3 sM tI uh;have HR:Hid (w3.ranges fk 3 rR b w.heap.size n D (λz=>left z&& !z.sameKey (.int .i64 cw)) Iv/\w.heap.size<w3.heap.size/\RA w w3 f es (λz=>left z&& !z.sameKey (.int .i64 cw)) (σ (μ ⟨g',0,ν⟩) (m+1) jL) (out++ [⟨cw,cs,va,(es cw).length,vc⟩])):=by
    obtain⟨q1,q2,q3,q4,q5,q6,q7⟩:=HX.out;have G:=KG k2 tI;have s1:(w1.alloc (γ #[ι κ cw,ι κ cs,σ ca cn cc] 40)).heap.size=w1.heap.size+1:=iC;have s2:(w2.alloc (γ #[ι κ cw,ι κ cs,σ va (es cw).length vc] 40)).heap.size=w2.heap.size+1:=iC;have k2s:=k2.size;have g3s:=tI.size;have hvo:∀k,u3.ownBlock=μ k->w.heap.size<k/\k<wr.heap.size:=λk hk=>⟨HC.out.own k hk,HC.out.row.lt k hk⟩
    refine⟨World.ranges.kept HG.out G (λe=>by have:=hvo b e.symm;omega) (λe=>by have:=hvo _ e.symm;omega),eE,?_⟩;refine HC.out.step (s:=⟨cw,cs,va,(es cw).length,vc⟩) (t:=⟨cw,cs,ca,cn,cc⟩) q4 G (by rw[HN.out];exact sM) (λg hg=> ?_) q6 (λj hj=> ?_) q2 q1 q3 rfl rfl (vo.kept (cap:=vc) (λj hj=> ?_)) vn
    ·have Qw:g'=g:=by simpa[eF]using hg
     subst Qw;rcases uh with e|e
     ·exact .inl e
     ·right;omega
    ·obtain⟨c1,c2⟩:=DM j hj;refine⟨eE,eE,λe=> ?_⟩;have Qw:g'=j:=by simpa[eF]using e
     subst Qw;rcases uh with e|e
     ·have:=hvo _ e;omega
     ·omega
    ·obtain⟨c1,c2⟩:=DM j hj;exact(tI.block j eE (λe=>by have:=hvo j e.symm;omega)).trans ((iB w2 _).block j c2)
   have Oc:Hid (w3.rangeLeft b w.heap.size<wr.rangeLeft b w.heap.size):=by
    show _<_;rw[World.ranges.left_eq HR.out.1,HO.out];exact HM.out
   clear sM tI uh k2 vo DM uI HO
   go_wp2
   go_roundw
   case rel=>exact⟨_,Iv,_,HR.out⟩
   case measure=>exact Oc.out
def Fine(w:eB)(f:Int->Option SV)(es:Int->List j2):Prop:=∀k s,rS k->f k=μ s->(1<=k/\k<=6)/\s.own=k/\jm w s.a s.n (es k)/\kM s.a s.cap/\s.n<=1000000
theorem KH(B:Nat)(m:FM)(k:Nat)(kn:Int->Option SV)(ow:Nat->Int->Option SV)(es:Int->List j2)(w:eB)(h:FB w B m k kn ow)(hf:Fine w kn es):
 fj fk 110 #[π (μ ⟨B,0,ν⟩)] w λe w'=>∃v ts,e=ρ v/\Cc w w' kn es v ts:=by
 have G5:=Cd m.bm k kn es w h.km hf;have c0:=h.c0;have lB:=h.lt;clear h hf
 go_in
 go_wp2_with(fail);refine G5.mono ?_;rintro e w2 ⟨v,ts,rfl,hR⟩;have HR:Hid _:=hR;clear G5 hR
 go_wp2
 go_ret;exact⟨_,_,rfl,HR.out⟩
theorem RD(B:Nat)(m:FM)(k:Nat)(kn:Int->Option SV)(ow:Nat->Int->Option SV)(es:Int->List j2)(p:Nat)(w:eB)(h:FB w B m k kn ow)(hp:p<m.bs.length)(hf:Fine w (ow p) es):
 fj fk 151 #[π (μ ⟨B,0,ν⟩),ι κ (p:Int)] w λe w'=>∃v ts,e=ρ v/\Cc w w' (ow p) es v ts:=by
 have hh:=A5 B m k kn ow (p:Int) w h;have hv:(decide (0<=(p:Int))&&decide ((p:Int)<(m.bs.length:Int)))=true:=by simp;omega
 rw[hv]at hh;clear hv;have WS:(p:Int)<(m.bs.length:Int):=eE;have uo:=h.few;have ui:m.bs[p]? =μ m.bs[p] :=ay hp;have G5:=Cd m.bs[p] k (ow p) es w (h.om p _ ui) hf;have c1:w.cell? ⟨B,1,ν⟩=μ (σ (μ ⟨m.g,0,ν⟩) m.bs.length m.cap):=h.c1;have lB:=h.lt;have cp:=h.port p _ ui;have gl:m.g<w.heap.size:=af w _ cp;generalize m.bs[p] =bp at cp G5;clear ui h hf
 go_in
 go_wp2_with(fail);refine hh.mono ?_;rintro e w1 ⟨rfl,rfl⟩;clear hh;go_wp2_with(fail);refine G5.mono ?_;rintro e w2 ⟨v,ts,rfl,hR⟩;have HR:Hid _:=hR;clear G5 hR
 go_wp2
 go_ret;exact⟨_,_,rfl,HR.out⟩
end Go.Proofs.YtieklnlbljejdaaGreatDoor
