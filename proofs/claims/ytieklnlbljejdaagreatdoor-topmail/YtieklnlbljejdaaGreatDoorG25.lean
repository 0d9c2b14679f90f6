import Derived.Test.YtieklnlbljejdaaGreatDoorG24
open Go.Value renaming int → ι, slice → σ, pointer → π, tuple → τ, nilIface → η
open Go.IntKind renaming i64 → κ
open Go.Ending renaming returned → ρ
open Go.Obj renaming cells → γ
open Option renaming none → ν, some → μ
open Go renaming World → eB, Value → eD, Calls → fj
open Go.Builtin renaming append_ → gL
open Go.Region renaming wanted → eW
open Go.Proofs.Tryz renaming prog → fk
open Go.RowKit renaming intOf → ft
open Go.Act renaming put → gW
open List renaming setIfInBounds_toArray → gX, set_cons_zero → gY, set_cons_succ → gZ
set_option maxRecDepth 100000
set_option maxHeartbeats 8000000
namespace Go.Proofs.YtieklnlbljejdaaGreatDoor
open Go.RowKit St
namespace Rt
variable {k:Nat} {w:World}
section
variable {P:Program}
theorem oM(w:eB)(t ty e:TypeId)(i:TypeInfo)(ht:P.underlying t=μ (.slice e))(hi:P.info? e=μ i)(base ao:Option Addr)(n cap c:Nat)(hle:n<=cap):
 (gL #[t,t] ty #[σ base n cap,σ ao 0 c]).run P w=.ok (σ base n cap) w:=by
 cases base<;>cases ao<;>simp[gL,run_underlying ht,sizeOf,typeInfo,hi,Builtin.lenOf,hle,Builtin.firstCells,loadCells,loadCellsFrom,storeCells]
theorem tg {ops:Array Oper} {o:Oper} {a:Act} {K:Act->eB->Prop} {Q:Exit->Act->eB->Prop} {E:Prop}
 (Hc:o.guard=ν) (s x:Operand) (t:TypeId) (ho:o.op=.call {callee:=.builtin .append,args:= #[s,x],argTypes:= #[t,t] })
 (e:TypeId) (i:TypeInfo) (z:eD) (size bytes:Nat) (ht:P.underlying t=μ (.slice e)) (hi:P.info? e=μ i) (hz:i.zero=μ z)
 (qH:i.size=size) (yF:i.bytes=bytes) (J5:z.cells.size=size) (qI:0<size)
 (v:eD) (n:Nat) (xs:List eD) (hs:a.eval s=v) (jC:Row w size v n xs)
 (v2:eD) (m:Nat) (news:List eD) (hx:a.eval x=v2) (kV:Row w size v2 m news) (h1:∀u∈news,u.oneCell'=true)
 (h63:n+m<=maxLen) (uz:(n+m)*bytes<=140737488355328)
 (h:∀v' w',Row w' size v' (n+m) (xs++news)->w.grownBy w' v.ownBlock->(v'.ownBlock=v.ownBlock \/ ∃k,v'.ownBlock=μ k/\w.heap.size<=k)->K (a.put o.dst v') w'):
 if eW o (yielded ops a.tmps)=true then Oper.wp P o a w K Q else E:=by
 have hw:eW o (yielded ops a.tmps)=true:=by simp[eW,Hc]
 rw[ag hw];have key:∃v' w',(gL #[t,t] o.type #[v,v2]).run P w=.ok v' w'/\Row w' size v' (n+m) (xs++news)/\w.grownBy w' v.ownBlock/\(v'.ownBlock=v.ownBlock \/ ∃k,v'.ownBlock=μ k/\w.heap.size<=k):=by
  by_cases hm:0<m
  ·rcases kV.2 with⟨_,e2⟩|⟨g,cap,rfl,hg,hle,J6,hcell,_⟩
   ·omega
   ·exact rh (P:=P) w t o.type e i z size bytes ht hi hz qH yF J5 qI v n xs jC ⟨g,0,ν⟩ m cap news kV.1 hm (λj u hu=>by rw[add_plain];exact hcell j u hu) h1 h63 uz
  ·have hm0:m=0:=eE;subst hm0;have kj:news=[] :=aG (by rw[kV.1];simp);subst kj;have g0:w.grownBy w v.ownBlock:=⟨rfl,rfl,rfl,Nat.le_refl _,λ_ _ _=>rfl⟩
   rcases kV.2 with⟨rfl,_⟩|⟨g2,cap2,rfl,_⟩
   ·rcases jC.2 with⟨rfl,rfl⟩|⟨g,cap,rfl,hg,hle,J6,hcell,J7⟩
    ·exact⟨_,w,oM w t o.type e i ht hi ν ν 0 0 0 (Nat.le_refl _),by simpa using jC,g0,.inl rfl⟩
    ·exact⟨_,w,oM w t o.type e i ht hi _ ν n cap 0 hle,by simpa using jC,g0,.inl rfl⟩
   ·rcases jC.2 with⟨rfl,rfl⟩|⟨g,cap,rfl,hg,hle,J6,hcell,J7⟩
    ·exact⟨_,w,oM w t o.type e i ht hi ν _ 0 0 cap2 (Nat.le_refl _),by simpa using jC,g0,.inl rfl⟩
    ·exact⟨_,w,oM w t o.type e i ht hi _ _ n cap cap2 hle,by simpa using jC,g0,.inl rfl⟩
 obtain⟨v',w',hr,h2,h3,h4⟩:=key;unfold Oper.wp execOp;simp only[ho,resolve,invoke,builtin,Sem.run_bind,Sem.run_pure,Result.andThen_ok,List.map_toArray,List.map_cons,List.map_nil,hs,hx,hr];exact h v' w' h2 h3 h4
end
theorem SL(a b:List tV):nh (a++b)=nh a++nh b:=by simp[nh]
theorem I4(l:List tV):∀u∈nh l,u.oneCell'=true:=by
 intro u hu;unfold nh at hu;obtain⟨t,_,ht⟩:=bB.1 hu;exact MV _ _ _ u ht
theorem O1(w:eB)(y:Yt)(M:jc)(m j:Nat)(W:eB)(hW:iV w W y M m)(hn:M.n=m)(hj:j<m):∃R iv,W.cell? ⟨y.gR,j,ν⟩=μ (π (μ ⟨R,0,ν⟩))/\(∀W1,eN W W1->W1.cell? ⟨y.gI,j,ν⟩=μ iv/\W1.cell? ⟨y.N,1,ν⟩=μ (σ (μ ⟨y.gI,0,ν⟩) m y.xh)/\y.gI<W1.heap.size)/\iv.ownBlock≠μ y.gI/\iv.ownBlock≠μ y.N/\y.N≠y.gI/\
 ∀W1,eN W W1->fj fk 32 #[π (μ ⟨R,0,ν⟩)] W1 λe w'=>∃v,e=ρ v/\Row w' 3 v (M.R j).jA.length (nh (M.R j).jA)/\Row w' 3 iv (M.jA j).length (nh (M.jA j))/\w'.cell? ⟨y.gI,j,ν⟩=μ iv/\w'.frozen? ⟨y.gI,j,ν⟩=false/\w'.cell? ⟨y.N,1,ν⟩=μ (σ (μ ⟨y.gI,0,ν⟩) m y.xh)/\
  ∀x1 v',Row x1 3 v' ((M.jA j).length+(M.R j).jA.length) (nh (M.jA j)++nh (M.R j).jA)->w'.grownBy x1 iv.ownBlock->(v'.ownBlock=iv.ownBlock \/ ∃k,v'.ownBlock=μ k/\w'.heap.size<=k)->iV w (x1.setCell ⟨y.gI,j,ν⟩ v') y (M.wG j) m:=by
 subst hn;obtain⟨y1,R0,s1,vY,xI⟩:=hW.ex;refine⟨(y1.z j).R,y1.iv j,?_,λW1 hb=> ?_,λe=> ?_,λe=> ?_,λe=> ?_,λW1 hb=> ?_⟩
 ·rw[<-s1.gR];exact R0.ptr hj
 ·have R1:=R0.below hb;rw[<-s1.gI,<-s1.N,<-s1.xh];exact⟨R1.Sn hj,R1.k1,R1.Vt⟩
 ·rw[<-s1.gI]at e;exact R0.sZ (l:=.ib j) (l':=.I) e rfl (by intro e;cases e) rfl
 ·rw[<-s1.N]at e;exact R0.sZ (l:=.ib j) (l':=.N) e rfl (by intro e;cases e) rfl
 ·rw[<-s1.gI,<-s1.N]at e;exact R0.sZ (l:=.N) (l':=.I) rfl rfl (by intro e;cases e) e
 have R1:=R0.below hb;have h3:=(R1.rn j hj).1;refine(OY (y1.z j) (M.R j) W1 (R1.rt j hj)).mono ?_;rintro e w1 ⟨rfl,hr,pN⟩;have hw:iU W1 w1 (y1.z j) {M.R j with jA:=[] } 3:=(congrArg (λt=>iU W1 w1 (y1.z j) ({M.R j with jA:=[] }:iY) t) h3).mp pN;have jC:∀k,y1.own k->w1.heap[k]? =W1.heap[k]? :=λk hk=>by
  have hf:=R1.Gc hj hk;exact hw.kept.block k (R1.lt (.inl hk)) (λe=>hf (.inl e)) (λe=>hf (.inr (.inl e))) (λe=>hf (.inr (.inr e)))
 have hN:=R1.CB hj hw (R1.rn j hj);have Zm:=jC y1.gI ⟨.I,rfl⟩;refine⟨_,rfl,hr,(R1.ib j hj).keep hw.kept.size (λk hk=>jC k ⟨.ib j,hk⟩),?_,?_,?_,λx1 v' ji hg hov=> ?_⟩
 ·rw[<-s1.gI];exact(ai (a:=⟨y1.gI,j,ν⟩) Zm).trans (R1.Sn hj)
 ·rw[<-s1.gI];have:=R1.ri.fz j hj;rw[Nat.zero_add]at this;exact(aN (a:=⟨y1.gI,j,ν⟩) Zm).trans this
 ·rw[<-s1.N,<-s1.gI,<-s1.xh];exact(ai (a:=⟨y1.N,1,ν⟩) (jC y1.N ⟨.N,rfl⟩)).trans R1.k1
 have sO:iV W1 (x1.setCell ⟨y1.gI,j,ν⟩ v') y1 (M.wG j) M.n:=by
  refine hN.step λy2 R2 s2=> ?_;have KX:y2.iv j=y1.iv j:=by
   have h1:=R2.Sn (i:=j) hj;rw[s2.gI,(ai (a:=⟨y1.gI,j,ν⟩) Zm).trans (R1.Sn hj)]at h1;exact(Option.some.inj h1).symm
  have jV:(y1.iv j).ownBlock≠μ y1.gI:=λe=>R1.sZ (l:=.ib j) (l':=.I) e rfl (by intro e;cases e) rfl;have Vh:v'.ownBlock≠μ y1.gI:=λe=>by
   rcases hov with h1|⟨k,h1,h2⟩
   ·exact jV (by rw[<-h1];exact e)
   ·rw[e]at h1;have wU:=Option.some.inj h1;have h4:y1.gI<w1.heap.size:=by rw[<-s2.gI];exact R2.Vt
    omega
  have hx:x1.heap[y1.gI]? =w1.heap[y1.gI]? :=hg.block y1.gI (by rw[<-s2.gI];exact R2.Vt) (λe=>jV e.symm);have qC:=R2.box (i:=j) (w':=x1.setCell ⟨y1.gI,j,ν⟩ v') hj v' (M.jA j++(M.R j).jA) (by simpa using hg.size) hg.os hg.tape hg.output (λk hk h1 h2=> ?_) ?_ ?_ (λk hk=> ?_)
  ·exact qC
  ·rw[s2.gI]at h1;rw[KX]at h2;rw[ak _ _ _ k h1];exact hg.block k hk (λe=>h2 e.symm)
  ·rw[s2.gI];have h1:=R2.ri;rw[s2.gI]at h1;have h2:=h1.keep hx;have h3:=h2.set j hj v';rw[Nat.zero_add]at h3;refine h3.congr λx hx=> ?_;by_cases e:x=j
   ·subst e;rw[iP];unfold qF;simp
   ·rw[iL _ _ e];unfold qF;simp[e]
  ·rw[SL,aA];exact ji.keep iC (λk hk=>ak _ _ _ k (λe=>Vh (by rw[hk,e])))
  ·rcases hov with h1|⟨k',h1,h2⟩
   ·left;rw[KX,<-h1];exact hk
   ·right;rw[hk]at h1;have:=Option.some.inj h1;omega
 rw[s1.gI]at sO;exact iV.pF hW.kept s1 vY xI (iV.first hb sO)
theorem nZ {x:eB} {b g j:Nat} {u v:eD} (h:x.cell? ⟨b,k,ν⟩=μ u)(jV:b≠g):(x.setCell ⟨g,j,ν⟩ v).cell? ⟨b,k,ν⟩=μ u:=by
 rw[aU _ _ _ _ (λe=>jV (congrArg Addr.block e).symm)];exact h
theorem pZ(y:Yt)(n:jc)(D k:Nat)(w:eB)(h:jJ w y n)(jb:j6 n D k)(hD:D<=1000000000)(hk:k<=100000):
 fj fk 111 #[π (μ ⟨y.N,0,ν⟩)] w λe w'=>e=ρ (τ #[])/\iV w w' y n.gather n.n:=by
 have c3:=h.k3;obtain⟨a,cp,uM,I5⟩:=h.Y0;rw[uM]at c3;have cl:=h.uW;have c9:=h.c9;have n6:=h.n6;obtain⟨nc,sH⟩:=gH (n.nc);obtain⟨m,hm⟩:=gH (n.n);have H0:Hid (iV w w y (n.kr 0) m):=by
  show iV _ _ _ _ _;rw[<-hm];exact iV.refl h
 have HK3:Hid (∀q W,iV w W y (n.kr q) m->W.cell? ⟨y.N,3,ν⟩=μ (σ a nc cp)/\y.N<W.heap.size):=by
  intro q W hw;have h1:=hw.k3;rw[(ka n q).2.1,uM,sH]at h1;exact⟨h1,hw.lt⟩
 have HGC:Hid (∀c,c<nc->∃g,y.gC=μ g/\a=μ ⟨g,0,ν⟩):=by
  show∀c,_->_;rw[<-sH];exact I5
 have acB:Hid (∀q W g,q<nc->y.gC=μ g->iV w W y (n.kr q) m->W.cell? ⟨g,q*7,ν⟩=μ (ι κ ((((n.C q).e 0).1:Int)+1))/\W.cell? ⟨g,q*7+1,ν⟩=μ (ι κ (((n.C q).e 0).2:Int))/\W.cell? ⟨g,q*7+2,ν⟩=μ (ι κ ((((n.C q).e 1).1:Int)+1))/\W.cell? ⟨g,q*7+2+1,ν⟩=μ (ι κ (((n.C q).e 1).2:Int))/\g<W.heap.size):=by
  intro q W g hq hg hw;obtain⟨ov,hC⟩:=hw.MT (c:=q) (by rw[(ka n q).2.1,sH];exact hq) hg;have e1:=((ka n q).2.2.2.2 q).1;have h0:=hC.cell 0 eH;have h1:=hC.cell 1 eH;have h2:=hC.cell 2 eH;have h3:=hC.cell 3 eH;rw[(Ai _ _).1,e1]at h0;rw[(Ai _ _).2.1,e1]at h1;rw[(Ai _ _).2.2.1,e1]at h2;rw[(Ai _ _).2.2.2.1,e1]at h3;exact⟨h0,h1,h2,h3,hC.lt eH⟩
 have Gi:Hid (∀(q d g i p:Nat) (W0:eB),q<nc->d<2->y.gC=μ g->(n.C q).e d=(i,p)->iV w W0 y (n.oB q d) m->
  fj fk 157 #[π (μ ⟨y.N,0,ν⟩),.agg #[ι κ ((i:Int)+1),ι κ (p:Int)]] (W0.alloc (γ #[ι κ ((i:Int)+1),ι κ (p:Int)] 192)).drew λe w1=>∃R,e=ρ (π (μ ⟨R,0,ν⟩))/\(w1.cell? ⟨W0.heap.size,0,ν⟩=μ (ι κ ((i:Int)+1))/\w1.cell? ⟨W0.heap.size,1,ν⟩=μ (ι κ (p:Int)))/\
  fj fk 29 #[π (μ ⟨R,0,ν⟩),ι κ (p:Int)] w1 λe w2=>∃s:ByteArray,e=ρ (τ #[.string s,η])/\(w2.cell? ⟨W0.heap.size,0,ν⟩=μ (ι κ ((i:Int)+1))/\w2.cell? ⟨W0.heap.size,1,ν⟩=μ (ι κ (p:Int)))/\
   ∀w3,eN w2 w3->fj fk 161 #[π (μ ⟨g,q*7,ν⟩),ι κ (d:Int),.string s] w3 λe w4=>e=ρ (τ #[])/\iV w w4 y (n.oB q (d+1)) m):=by
  intro q d g i p W0 hq hd hg yI hw;have hb:=jO (iB W0 (γ #[ι κ ((i:Int)+1),ι κ (p:Int)] 192));have hB:jr (W0.alloc (γ #[ι κ ((i:Int)+1),ι κ (p:Int)] 192)).drew W0.heap.size #[ι κ ((i:Int)+1),ι κ (p:Int)] 192:=(jr.new W0 _ _).drew;exact Lm w y n D k q d g m jb eE hk (by rw[sH];exact hq) hd hg hm i p yI W0 _ hw hb W0.heap.size _ _ (Nat.le_refl _) ⟨hB.cell 0,hB.cell 1⟩
 rw[sH]at c3 c9;rw[hm]at n6⊢;have QL:Hid _:=jb;have HNC:Hid _:=sH;have HM:Hid _:=hm;clear h jb I5 uM sH hm
 go_in
 go_wp2
 go_loopw [15] (λx wr=>∃q:Nat,q<=nc/\x=ι κ q/\iV w wr y (n.kr q) m) (λx _=>nc-(ft x).toNat)
 case atStart=>exact⟨0,Nat.zero_le _,rfl,H0.out⟩
 case round=>
  obtain⟨q,hq,rfl,qS⟩:=hrel;obtain⟨V,rfl⟩:∃V,V=wr:=⟨_,rfl⟩
  by_cases kH:q<nc
  ·have nG:(q:Int)<(nc:Int):=eE;have hq0:(0:Int)<=(q:Int):=eE;obtain⟨g,hg,rfl⟩:=HGC.out q kH;obtain⟨d3,dl⟩:=HK3.out q V qS;obtain⟨e0,e1,e2,e3,gl⟩:=acB.out q V g kH hg qS;obtain⟨i0,p0,I6⟩:∃i0 p0,(n.C q).e 0=(i0,p0):=⟨_,_,rfl⟩
   obtain⟨i1,p1,I7⟩:∃i1 p1,(n.C q).e 1=(i1,p1):=⟨_,_,rfl⟩
   rw[I6]at e0 e1;rw[I7]at e2 e3;have HD0:Hid _:=qS;have agU:Hid _:=I6;have agV:Hid _:=I7;have HG:Hid _:=hg;clear qS I6 I7 hg
   go_wp2
   go_loopw [28] (λx wr=>(x=ι κ 0/\iV w wr y (n.oB q 0) m) \/(x=ι κ 1/\iV w wr y (n.oB q 1) m) \/(x=ι κ 2/\iV w wr y (n.oB q 2) m)) (λx _=>2-(ft x).toNat)
   case atStart=>exact .inl ⟨rfl,HD0.out⟩
   case round=>
    rcases hrel with⟨rfl,Bk⟩|⟨rfl,Bk⟩|⟨rfl,Bk⟩
    ·have hix:=Zk ((i0:Int)+1) (p0:Int) ((i1:Int)+1) (p1:Int);have hE:=Gi.out q 0 g i0 p0 wr kH eH HG.out agU.out Bk;obtain⟨W1,ke⟩:=gH (wr.alloc (γ #[ι κ ((i0:Int)+1),ι κ (p0:Int)] 192));obtain⟨E,ug⟩:=gH (wr.heap.size);have F0:W1.drew.cell? ⟨E,0,ν⟩=μ (ι κ ((i0:Int)+1))/\W1.drew.cell? ⟨E,1,ν⟩=μ (ι κ (p0:Int)):=by
      have hB:jr (wr.alloc (γ #[ι κ ((i0:Int)+1),ι κ (p0:Int)] 192)).drew wr.heap.size #[ι κ ((i0:Int)+1),ι κ (p0:Int)] 192:=(jr.new wr _ _).drew;rw[ke,ug]at hB;exact⟨hB.cell 0,hB.cell 1⟩
     have El:E<W1.drew.heap.size:=af _ _ F0.1;rw[ke,ug]at hE;have O2:Hid _:=ke;have Sj:Hid _:=ug;clear Bk ke ug;go_wp2_with(fail)
     try rw[O2.out]
     try rw[Sj.out]
     go_region_held3(λx=>x.cell? ⟨E,0,ν⟩=μ (ι κ ((i0:Int)+1))/\x.cell? ⟨E,1,ν⟩=μ (ι κ (p0:Int)))
      (first|assumption|exact F0|exact F1|exact F2)
      (first
       |(go_at_call 157;refine hE.mono ?_;rintro e w1 ⟨R,rfl,F1,hO⟩)
       |(go_at_call 29;refine hO.mono ?_;rintro e w2 ⟨sx,rfl,F2,hP⟩))
     all_goals
      have hp:=hP _ (au _ _);clear hE hO hP F0 F1 F2 El;go_wp2_with(fail);refine hp.mono ?_;rintro e w4 ⟨rfl,G9⟩;have I0:Hid _:=G9;clear hp G9
      go_wp2
      go_roundw
      case rel=>exact .inr (.inl ⟨by go_num,I0.out⟩)
      case measure=>simp[ft]
    ·have hix:=Zl ((i0:Int)+1) (p0:Int) ((i1:Int)+1) (p1:Int);have hE:=Gi.out q 1 g i1 p1 wr kH eH HG.out agV.out Bk;obtain⟨W1,ke⟩:=gH (wr.alloc (γ #[ι κ ((i1:Int)+1),ι κ (p1:Int)] 192));obtain⟨E,ug⟩:=gH (wr.heap.size);have F0:W1.drew.cell? ⟨E,0,ν⟩=μ (ι κ ((i1:Int)+1))/\W1.drew.cell? ⟨E,1,ν⟩=μ (ι κ (p1:Int)):=by
      have hB:jr (wr.alloc (γ #[ι κ ((i1:Int)+1),ι κ (p1:Int)] 192)).drew wr.heap.size #[ι κ ((i1:Int)+1),ι κ (p1:Int)] 192:=(jr.new wr _ _).drew;rw[ke,ug]at hB;exact⟨hB.cell 0,hB.cell 1⟩
     have El:E<W1.drew.heap.size:=af _ _ F0.1;rw[ke,ug]at hE;have O2:Hid _:=ke;have Sj:Hid _:=ug;clear Bk ke ug;go_wp2_with(fail)
     try rw[O2.out]
     try rw[Sj.out]
     go_region_held3(λx=>x.cell? ⟨E,0,ν⟩=μ (ι κ ((i1:Int)+1))/\x.cell? ⟨E,1,ν⟩=μ (ι κ (p1:Int)))
      (first|assumption|exact F0|exact F1|exact F2)
      (first
       |(go_at_call 157;refine hE.mono ?_;rintro e w1 ⟨R,rfl,F1,hO⟩)
       |(go_at_call 29;refine hO.mono ?_;rintro e w2 ⟨sx,rfl,F2,hP⟩))
     all_goals
      have hp:=hP _ (au _ _);clear hE hO hP F0 F1 F2 El;go_wp2_with(fail);refine hp.mono ?_;rintro e w4 ⟨rfl,G9⟩;have I0:Hid _:=G9;clear hp G9
      go_wp2
      go_roundw
      case rel=>exact .inr (.inr ⟨by go_num,I0.out⟩)
      case measure=>simp[ft]
    ·have HQ:Hid _:=Bk;clear Bk
     go_wp2
     go_roundw
     case rel=>exact⟨q+1,eE,by go_num,HQ.out⟩
     case measure=>simp[ft];omega
  ·have yG:¬(q:Int)<(nc:Int):=eE;obtain rfl:q=nc:=eE;have HI0:Hid _:=qS;have k0:=qS.k0;have kl:=qS.lt;rw[(ka n q).1]at k0;have k0':V.cell? ⟨y.N,0,ν⟩=μ (σ (μ ⟨y.gR,0,ν⟩) m y.sA):=by rw[<-HM.out];exact k0
   obtain⟨i0,hi,oz,mW,nT⟩:=aW MU;have HE:Hid (n.gather=(n.kr q).mX m):=by
    show _=_;unfold jc.gather;rw[HNC.out,HM.out]
   have HN2:Hid ((n.kr q).n=m):=by show _=_;rw[(ka n q).1,HM.out]
   have HK:Hid (∀j,j<m->(((n.kr q).mX j).jA j).length<=2000000000/\((((n.kr q).mX j).R j).jA).length<=2000000000):=by
    intro j hj;have h1:=(QL.out.kr eE q (by rw[HNC.out];exact Nat.le_refl _)).mX j;have h2:=h1.ib j (by rw[(oo (n.kr q) j).1,HN2.out];exact hj);have h3:=(h1.fit j (by rw[(oo (n.kr q) j).1,HN2.out];exact hj)).1;omega
   clear qS k0 QL HNC acB Gi HK3 HGC
   go_wp2
   go_loopw [54] (λx wr=>∃j:Nat,j<=m/\x=ι κ j/\iV w wr y ((n.kr q).mX j) m) (λx _=>m-(ft x).toNat)
   case atStart=>exact⟨0,Nat.zero_le _,rfl,HI0.out⟩
   case round=>
    obtain⟨j,hj,rfl,hwj⟩:=hrel;by_cases VF:j<m
    ·have acG:(j:Int)<(m:Int):=eE;have xd:(0:Int)<=(j:Int):=eE;have hnM:((n.kr q).mX j).n=m:=by rw[(oo (n.kr q) j).1,HN2.out]
     obtain⟨l1,l2⟩:=HK.out j VF;have HS:Hid ((n.kr q).mX (j+1)=((n.kr q).mX j).wG j):=rfl;obtain⟨R,iv,r0,qC,acH,acI,hNI,VG⟩:=O1 w y _ m j wr hwj hnM VF;have BO:Hid ((n.kr q).mX (j+1)=((n.kr q).mX j).wG j):=rfl;have HSS:∀x,iV w x y (((n.kr q).mX j).wG j) m=iV w x y ((n.kr q).mX (j+1)) m:=λx=>rfl;obtain⟨M,hM⟩:=gH ((n.kr q).mX j);rw[hM]at l1 l2 VG HSS;simp only[HSS]at VG;have hIn:=VG wr.drew (jk wr);obtain⟨c1,F0,gIl⟩:=qC wr.drew (jk wr);have rl:=af _ _ r0;have VH:Hid _:=acH;have acJ:Hid _:=acI;have HNI:Hid _:=hNI;have Nl:=af _ _ F0;generalize y.N=YN at*;generalize y.gI=GI at*;generalize y.xh=cI at*;clear hwj hM qC VG HSS HS BO acH acI hNI;go_wp2_with(fail);refine cz (S:=λx=>x.cell? ⟨YN,1,ν⟩=μ (σ (μ ⟨GI,0,ν⟩) m cI)) gT F0 (λkY=> ?_);refine jq 0 (μ 59) rfl rfl gT gT gT (λ_ _ _ h=>h) (by rfl) (v:= ?_) ?_ jj ?_
     rotate_left
     ·intro wS kJ
      (try dsimp only at kJ)
      go_simp
      try with_reducible rfl
     simp only[gW,gX,gY,gZ];refine jq 1 (μ 60) rfl rfl gT gT gT (λ_ _ _ h=>h) (by rfl) (v:= ?_) ?_ jj ?_
     rotate_left
     ·intro wS kJ
      (try dsimp only at kJ)
      go_simp
      try with_reducible rfl
     simp only[gW,gX,gY,gZ];refine jq 2 (μ 61) rfl rfl gT gT gT (λ_ _ _ h=>h) (by rfl) (v:= ?_) ?_ jj ?_
     rotate_left
     ·intro wS kJ
      (try dsimp only at kJ)
      go_simp
      try with_reducible rfl
     simp only[gW,gX,gY,gZ];refine jq 3 (μ 62) rfl rfl gT gT gT (λ_ _ _ h=>h) (by rfl) (v:= ?_) ?_ jj ?_
     rotate_left
     ·intro wS kJ
      (try dsimp only at kJ)
      go_simp
      try with_reducible rfl
     simp only[gW,gX,gY,gZ];refine jq 4 (μ 63) rfl rfl gT gT gT (λ_ _ _ h=>h) (by rfl) (v:= ?_) ?_ jj ?_
     rotate_left
     ·intro wS kJ
      (try dsimp only at kJ)
      go_simp
      try with_reducible rfl
     simp only[gW,gX,gY,gZ];refine jq 5 (μ 64) rfl rfl gT gT gT (λ_ _ _ h=>h) (by rfl) (v:= ?_) ?_ jj ?_
     rotate_left
     ·intro wS kJ
      (try dsimp only at kJ)
      go_simp
      try with_reducible rfl
     simp only[gW,gX,gY,gZ];refine jq 6 (μ 65) rfl rfl gT gT gT (λ_ _ _ h=>h) (by rfl) (v:= ?_) ?_ jj ?_
     rotate_left
     ·intro wS kJ
      (try dsimp only at kJ)
      go_simp
      try with_reducible rfl
     simp only[gW,gX,gY,gZ];refine jq 7 (μ 66) rfl rfl gT gT gT (λ_ _ _ h=>h) (by rfl) (v:= ?_) ?_ jj ?_
     rotate_left
     ·intro wS kJ
      (try dsimp only at kJ)
      go_simp
      try with_reducible rfl
     simp only[gW,gX,gY,gZ];refine jq 8 (μ 67) rfl rfl gT gT gT (λ_ _ _ h=>h) (by rfl) (v:= ?_) ?_ jj ?_
     rotate_left
     ·intro wS kJ
      (try dsimp only at kJ)
      go_simp
      try with_reducible rfl
     simp only[gW,gX,gY,gZ];refine jq 9 (μ 68) rfl rfl gT gT gT (λ_ _ _ h=>h) (by rfl) (v:= ?_) ?_ jj ?_
     rotate_left
     ·intro wS kJ
      (try dsimp only at kJ)
      go_simp
      try with_reducible rfl
     simp only[gW,gX,gY,gZ];refine jq 10 (μ 69) rfl rfl gT gT gT (λ_ _ _ h=>h) (by rfl) (v:= ?_) ?_ jj ?_
     rotate_left
     ·intro wS kJ
      (try dsimp only at kJ)
      go_simp
      try with_reducible rfl
     simp only[gW,gX,gY,gZ];refine jq 12 (μ 71) rfl rfl gT gT gT (λ_ _ _ h=>h) (by rfl) (v:= ?_) ?_ jj ?_
     rotate_left
     ·intro wS kJ
      (try dsimp only at kJ)
      go_simp
      try with_reducible rfl
     simp only[gW,gX,gY,gZ];refine aL (rs:=[11,13]) gT iC ?_;refine aB (o:=_) rfl (λK hK=> ?_) (aB (o:=_) rfl (λK hK=> ?_) aF)
     ·go_simp
      (try go_wp2_with(fail))
      refine hK.out _ _ (by exact F0) (λkY=> ?_);clear hK K;refine aL (rs:=[13]) gT iC ?_;refine aB (o:=_) rfl (λK hK=> ?_) aF
      go_simp
      refine hIn.mono ?_;rintro e w1 ⟨v1,rfl,ji,KX,b1,z1,F1,sO⟩
      (try go_wp2_with(fail))
      refine hK.out _ _ (by exact F1) (λkY=> ?_);clear hK K;have Zn:=af _ _ b1;refine aL (rs:=[14]) gT iC ?_;refine aB (o:=_) rfl (λK hK=> ?_) aF;refine tg (by rfl) (.tmp 70) (.tmp 72) 53 (by rfl) 106 i0 (.agg #[ι κ 0,ι κ 0,.string ⟨#[]⟩]) 3 32 dI hi oz mW nT (by rfl) eH iv (M.jA j).length (nh (M.jA j)) (by rfl) KX v1 (M.R j).jA.length (nh (M.R j).jA) (by rfl) ji (I4 _) (by unfold maxLen;omega) eE ?_;intro v2 x1 kU ki jD;have F2:x1.cell? ⟨YN,1,ν⟩=μ (σ (μ ⟨GI,0,ν⟩) m cI):=(ai (a:=⟨YN,1,ν⟩) (ki.block YN (af _ _ F1) (λe=>acJ.out e.symm))).trans F1;have b2:x1.cell? ⟨GI,j,ν⟩=μ iv:=(ai (a:=⟨GI,j,ν⟩) (ki.block GI Zn (λe=>VH.out e.symm))).trans b1;have z2:x1.frozen? ⟨GI,j,ν⟩=false:=(aN (a:=⟨GI,j,ν⟩) (ki.block GI Zn (λe=>VH.out e.symm))).trans z1;have gl2:=af _ _ b2;obtain⟨a2,cp2,rfl⟩:=Row.shape kU;refine hK.out _ _ (by exact F2) (λkY=> ?_);clear hK K;refine jq 15 (μ 74) rfl rfl gT gT gT (λ_ _ _ h=>h) (by rfl) (v:= ?_) ?_ jj ?_
      rotate_left
      ·intro wS kJ
       (try dsimp only at kJ)
       go_simp
       try with_reducible rfl
      simp only[gW,gX];refine aL (rs:=[16]) gT iC ?_;refine aB (o:=_) rfl (λK hK=> ?_) aF
      go_simp
      (try go_wp2_with(fail))
      refine hK.out _ _ (by exact nZ F2 HNI.out) (λkY=> ?_);clear hK K;refine bZ gT ?_ _;have HF:Hid _:=sO x1 _ kU ki jD;clear hIn ji KX b1 z1 F0 F1 F2 b2 z2 sO kU ki jD Zn gl2
      go_wp2
      go_roundw
      case rel=>exact⟨j+1,eE,by go_num,HF.out⟩
      case measure=>simp[ft];omega
     ·go_simp
      refine hIn.mono ?_;rintro e w1 ⟨v1,rfl,ji,KX,b1,z1,F1,sO⟩
      (try go_wp2_with(fail))
      refine hK.out _ _ (by exact F1) (λkY=> ?_);clear hK K;have Zn:=af _ _ b1;refine aL (rs:=[11]) gT iC ?_;refine aB (o:=_) rfl (λK hK=> ?_) aF
      go_simp
      (try go_wp2_with(fail))
      refine hK.out _ _ (by exact F1) (λkY=> ?_);clear hK K;refine aL (rs:=[14]) gT iC ?_;refine aB (o:=_) rfl (λK hK=> ?_) aF;refine tg (by rfl) (.tmp 70) (.tmp 72) 53 (by rfl) 106 i0 (.agg #[ι κ 0,ι κ 0,.string ⟨#[]⟩]) 3 32 dI hi oz mW nT (by rfl) eH iv (M.jA j).length (nh (M.jA j)) (by rfl) KX v1 (M.R j).jA.length (nh (M.R j).jA) (by rfl) ji (I4 _) (by unfold maxLen;omega) eE ?_;intro v2 x1 kU ki jD;have F2:x1.cell? ⟨YN,1,ν⟩=μ (σ (μ ⟨GI,0,ν⟩) m cI):=(ai (a:=⟨YN,1,ν⟩) (ki.block YN (af _ _ F1) (λe=>acJ.out e.symm))).trans F1;have b2:x1.cell? ⟨GI,j,ν⟩=μ iv:=(ai (a:=⟨GI,j,ν⟩) (ki.block GI Zn (λe=>VH.out e.symm))).trans b1;have z2:x1.frozen? ⟨GI,j,ν⟩=false:=(aN (a:=⟨GI,j,ν⟩) (ki.block GI Zn (λe=>VH.out e.symm))).trans z1;have gl2:=af _ _ b2;obtain⟨a2,cp2,rfl⟩:=Row.shape kU;refine hK.out _ _ (by exact F2) (λkY=> ?_);clear hK K;refine jq 15 (μ 74) rfl rfl gT gT gT (λ_ _ _ h=>h) (by rfl) (v:= ?_) ?_ jj ?_
      rotate_left
      ·intro wS kJ
       (try dsimp only at kJ)
       go_simp
       try with_reducible rfl
      simp only[gW,gX];refine aL (rs:=[16]) gT iC ?_;refine aB (o:=_) rfl (λK hK=> ?_) aF
      go_simp
      (try go_wp2_with(fail))
      refine hK.out _ _ (by exact nZ F2 HNI.out) (λkY=> ?_);clear hK K;refine bZ gT ?_ _;have HF:Hid _:=sO x1 _ kU ki jD;clear hIn ji KX b1 z1 F0 F1 F2 b2 z2 sO kU ki jD Zn gl2
      go_wp2
      go_roundw
      case rel=>exact⟨j+1,eE,by go_num,HF.out⟩
      case measure=>simp[ft];omega
    ·have hjm:¬(j:Int)<(m:Int):=eE;obtain rfl:j=m:=eE;have HW:Hid (iV w wr y n.gather j):=by
      show iV _ _ _ _ _;rw[HE.out];exact hwj
     clear hwj
     go_wp2
     first|go_end0|refine aj (ar rfl _ _ _) rfl ?_
     exact⟨rfl,HW.out⟩
theorem jJ.Bl {w':eB} {y:Yt} {n:jc} {i:Nat} {r:iY} (h:jJ w y n)(hi:i<n.n)(hW:iU w w' (y.z i) r (n.R i).n)(hr:r.n=(n.R i).n/\r.id=(n.R i).id):iV w w' y (n.jQ i r) n.n:=by
 obtain⟨h3,h4⟩:=h.rn i hi;rw[h3]at hW;exact h.CB hi hW ⟨hr.1.trans h3,hr.2.trans h4⟩
theorem O3(y:Yt)(n:jc)(D k i:Nat)(w:eB)(h:jJ w y n)(hT:jo w)(jb:j6 n D k)(hD:D<=1000000000)(hk:k<=90000)(hi:i<n.n):
 fj fk 25 #[π (μ ⟨(y.z i).R,0,ν⟩)] w λe w'=>e=ρ (τ #[])/\iV w w' y (n.jQ i (n.R i).tick) n.n:=by
 refine(OV (y.z i) (n.R i) k w (h.rt i hi) hT (jb.ok i hi) (jb.fits eE hi) hk).mono ?_;rintro e w1 ⟨rfl,hw⟩;have hg:=jR.jB (n.R i) (n.R i).n;exact⟨rfl,h.Bl hi hw ⟨hg.n,hg.id⟩⟩
theorem O4(y:Yt)(n:jc)(D k i:Nat)(t:Int)(tx:ByteArray)(w:eB)(h:jJ w y n)(jb:j6 n D k)(hD:D<=1000000000)(hk:k<=90000)(hi:i<n.n):
 fj fk 27 #[π (μ ⟨(y.z i).R,0,ν⟩),ι κ t,.string tx] w λe w'=>e=ρ (jy (kg (n.R i) t tx.data.toList).2)/\iV w w' y (n.jQ i (kg (n.R i) t tx.data.toList).1) n.n:=by
 refine(OW (y.z i) (n.R i) k t tx w (h.rt i hi) (jb.ok i hi) (jb.fits eE hi) eE).mono ?_;rintro e w1 ⟨rfl,hw⟩;have hg:=jR.kg (n.R i) t tx.data.toList;exact⟨rfl,h.Bl hi hw ⟨hg.n,hg.id⟩⟩
theorem vR {m:Nat} (h:k<m)(hm:m<=6):IntKind.i64.wrap ((k:Int)+1-1)=(k:Int):=by
 have:(k:Int)+1-1=k:=eE;rw[this];exact aS _ ⟨eE,eE⟩
theorem I8(y:Yt)(n:jc)(D:Nat)(i:Int)(w:eB)(h:jJ w y n)(hT:jo w)(jb:j6 n D 0)(hD:D<=900000000):
 fj fk 56 #[π (μ ⟨y.N,0,ν⟩),ι κ i] w λe w'=>e=ρ (jy (n.tick i).2)/\iV w w' y (n.tick i).1 n.n:=by
 have hh:=oJ y n i w h;rcases xr i n.n with⟨hn,hi⟩|⟨k,hk,rfl⟩
 ·have hE:n.tick i=(n,6):=by unfold jc.tick;rw[ag hi]
  rw[hE];rw[hn]at hh;have HW:Hid _:=iV.refl h;clear h jb hT
  go_in
  go_wp2_with(fail);refine hh.mono ?_;rintro e w1 ⟨rfl,rfl⟩;clear hh
  go_wp2
  go_ret;exact⟨rfl,HW.out⟩
 ·rw[uX hk]at hh;have hE:n.tick ((k:Int)+1)=((n.jQ k (n.R k).tick).gather,0):=by
   unfold jc.tick;have e1:((k:Int)+1-1).toNat=k:=eE;rw[ae eE,e1]
  rw[hE];have c0:=h.k0;have cl:=h.uW;have d0:=h.ptr hk;have dl:=h.OB;have n6:=h.n6;have hw:=vR hk n6;have lO:(k:Int)<(n.n:Int):=eE;have NR:(0:Int)<=(k:Int):=eE;have ht:=O3 y n D 0 k w h hT jb eE eE hk;have kN:=jb.jn eE hk;have hg:Hid (∀W,iV w W y (n.jQ k (n.R k).tick) n.n->fj fk 111 #[π (μ ⟨y.N,0,ν⟩)] W λe w'=>e=ρ (τ #[])/\iV w w' y (n.jQ k (n.R k).tick).gather n.n):=by
   intro W hW;refine hW.call λy1 R1 s1=> ?_;rw[<-s1.N];exact pZ y1 _ D _ W R1 kN eE eE
  have e0:jy 0=η:=rfl;rw[e0];clear h jb hT kN
  go_in
  go_wp2_with(fail);refine hh.mono ?_;rintro e w1 ⟨rfl,rfl⟩;clear hh;go_wp2_with(fail);refine ht.mono ?_;rintro e w1 ⟨rfl,l7⟩;have ki:=hg.out _ l7;clear ht l7;go_wp2_with(fail);refine ki.mono ?_;rintro e w2 ⟨rfl,sT⟩;have HW:Hid _:=sT;clear ki sT
  go_wp2
  go_ret;exact⟨rfl,HW.out⟩
theorem SM(y:Yt)(n:jc)(D:Nat)(i t:Int)(tx:ByteArray)(w:eB)(h:jJ w y n)(jb:j6 n D 0)(hD:D<=900000000):
 fj fk 53 #[π (μ ⟨y.N,0,ν⟩),ι κ i,ι κ t,.string tx] w λe w'=>e=ρ (jy (n.send i t tx.data.toList).2)/\iV w w' y (n.send i t tx.data.toList).1 n.n:=by
 have hh:=oJ y n i w h;rcases xr i n.n with⟨hn,hi⟩|⟨k,hk,rfl⟩
 ·have hE:n.send i t tx.data.toList=(n,6):=by unfold jc.send;rw[ag hi]
  rw[hE];rw[hn]at hh;have HW:Hid _:=iV.refl h;clear h jb
  go_in
  go_wp2_with(fail);refine hh.mono ?_;rintro e w1 ⟨rfl,rfl⟩;clear hh
  go_wp2
  go_ret;exact⟨rfl,HW.out⟩
 ·rw[uX hk]at hh;have e1:((k:Int)+1-1).toNat=k:=eE;have c0:=h.k0;have cl:=h.uW;have d0:=h.ptr hk;have dl:=h.OB;have n6:=h.n6;have hw:=vR hk n6;have lO:(k:Int)<(n.n:Int):=eE;have NR:(0:Int)<=(k:Int):=eE;have ht:=O4 y n D 0 k t tx w h jb eE eE hk;have kN:=jb.SI eE hk t tx.data.toList;obtain⟨q,hq⟩:=gH (kg (n.R k) t tx.data.toList);have hE:n.send ((k:Int)+1) t tx.data.toList=if q.2≠0 then(n,q.2)else((n.jQ k q.1).gather,0):=by
   unfold jc.send;rw[ae eE,e1,hq]
  rw[hE];rw[hq]at ht kN;have hg:Hid (∀W,iV w W y (n.jQ k q.1) n.n->fj fk 111 #[π (μ ⟨y.N,0,ν⟩)] W λe w'=>e=ρ (τ #[])/\iV w w' y (n.jQ k q.1).gather n.n):=by
   intro W hW;refine hW.call λy1 R1 s1=> ?_;rw[<-s1.N];exact pZ y1 _ _ _ W R1 kN eE eE
  have ko:q.2≠0->q.1=n.R k:=λhz=>by
   rw[<-hq]at hz⊢;unfold Rt.kg at hz⊢;split at hz
   ·rename_i hc;rw[ag hc]
   ·exact absurd rfl hz
  have zU:n.jQ k (n.R k)=n:=by
   unfold jc.jQ;rw[uS]
  by_cases h0:q.2=0
  ·rw[ae (by simp[h0])];rw[h0]at ht;have e0:jy 0=η:=rfl;rw[e0]at ht⊢;clear h jb kN ko hE hq h0
   go_in
   go_wp2_with(fail);refine hh.mono ?_;rintro e w1 ⟨rfl,rfl⟩;clear hh;go_wp2_with(fail);refine ht.mono ?_;rintro e w1 ⟨rfl,l7⟩;have ki:=hg.out _ l7;clear ht l7;go_wp2_with(fail);refine ki.mono ?_;rintro e w2 ⟨rfl,sT⟩;have HW:Hid _:=sT;clear ki sT
   go_wp2
   go_ret;exact⟨rfl,HW.out⟩
  ·rw[ag h0];rw[ko h0,zU]at ht;have ee:jy q.2=.iface 128 (ι κ (q.2:Int)):=by simp only[jy];rw[ae h0]
   rw[ee]at ht⊢;clear h jb kN ko hE hq hg h0
   go_in
   go_wp2_with(fail);refine hh.mono ?_;rintro e w1 ⟨rfl,rfl⟩;clear hh;go_wp2_with(fail);refine ht.mono ?_;rintro e w1 ⟨rfl,l7⟩;have HW:Hid _:=l7;clear ht l7
   go_wp2
   go_ret;exact⟨rfl,HW.out⟩
end Rt
end Go.Proofs.YtieklnlbljejdaaGreatDoor
