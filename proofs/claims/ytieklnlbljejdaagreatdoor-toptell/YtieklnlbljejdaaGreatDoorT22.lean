import Derived.Test.YtieklnlbljejdaaGreatDoorT21
open Go.Value renaming int → ι, slice → σ, pointer → π, tuple → τ, nilIface → η
open Go.IntKind renaming i64 → κ
open Go.Ending renaming returned → ρ
open Go.Obj renaming cells → γ
open Option renaming none → ν, some → μ
open Go renaming World → dN, Value → dO, Calls → eM
open Go.Builtin renaming append_ → fR
open Go.Region renaming wanted → eA
open Go.Proofs.Tryz renaming prog → eN
open Go.RowKit renaming intOf → eP
open Go.Act renaming put → gh
open List renaming setIfInBounds_toArray → gj, set_cons_zero → gk, set_cons_succ → gp
set_option maxRecDepth 100000
set_option maxHeartbeats 8000000
namespace Go.Proofs.YtieklnlbljejdaaGreatDoor
open Go.RowKit St
namespace Rt
variable {b g i k m:Nat} {n:iB} {t u v:Value} {w x:World} {y:Yt}
section
variable {P:Program}
theorem od(w:dN)(t ty e:TypeId)(i:TypeInfo)(Y:P.underlying t=μ (.slice e))(hi:P.info? e=μ i)(base ao:Option Addr)(n cap c:Nat)(Z:n<=cap):
 (fR #[t,t] ty #[σ base n cap,σ ao 0 c]).run P w=.ok (σ base n cap) w:=by
 cases base<;>cases ao<;>simp[fR,run_underlying Y,sizeOf,typeInfo,hi,Builtin.lenOf,Z,Builtin.firstCells,loadCells,loadCellsFrom,storeCells]
theorem r6 {ops:Array Oper} {o:Oper} {a:Act} {K:Act->dN->Prop} {Q:Exit->Act->dN->Prop} {E:Prop}
 (H:o.guard=ν) (s x:Operand) (t:TypeId) (ho:o.op=.call {callee:=.builtin .append,args:= #[s,x],argTypes:= #[t,t] })
 (e:TypeId) (i:TypeInfo) (z:dO) (size bytes:Nat) (V:P.underlying t=μ (.slice e)) (hi:P.info? e=μ i) (hz:i.zero=μ z)
 (pX:i.size=size) (x6:i.bytes=bytes) (G:z.cells.size=size) (pY:0<size)
 (v:dO) (n:Nat) (xs:List dO) (hs:a.eval s=v) (X:Row w size v n xs)
 (v2:dO) (m:Nat) (Z:List dO) (hx:a.eval x=v2) (U:Row w size v2 m Z) (A:∀u∈Z,u.oneCell'=true)
 (T:n+m<=maxLen) (tK:(n+m)*bytes<=140737488355328)
 (h:∀v' w',Row w' size v' (n+m) (xs++Z)->w.grownBy w' v.ownBlock->(v'.ownBlock=v.ownBlock \/ ∃k,v'.ownBlock=μ k/\w.heap.size<=k)->K (a.put o.dst v') w'):
 if eA o (yielded ops a.tmps)=true then Oper.wp P o a w K Q else E:=by
 have hw:eA o (yielded ops a.tmps)=true:=by simp[eA,H]
 rw[ag hw];have key:∃v' w',(fR #[t,t] o.type #[v,v2]).run P w=.ok v' w'/\Row w' size v' (n+m) (xs++Z)/\w.grownBy w' v.ownBlock/\(v'.ownBlock=v.ownBlock \/ ∃k,v'.ownBlock=μ k/\w.heap.size<=k):=by
  by_cases hm:0<m
  ·rcases U.2 with⟨_,e2⟩|⟨g,cap,rfl,J,Y,M,hcell,_⟩
   ·omega
   ·exact qB (P:=P) w t o.type e i z size bytes V hi hz pX x6 G pY v n xs X ⟨g,0,ν⟩ m cap Z U.1 hm (λj u hu=>by rw[add_plain];exact hcell j u hu) A T tK
  ·have S:m=0:=dP;subst S;have jS:Z=[] :=aE (by rw[U.1];simp);subst jS;have g0:w.grownBy w v.ownBlock:=⟨rfl,rfl,rfl,Nat.le_refl _,λ_ _ _=>rfl⟩
   rcases U.2 with⟨rfl,_⟩|⟨g2,cap2,rfl,_⟩
   ·rcases X.2 with⟨rfl,rfl⟩|⟨g,cap,rfl,J,Y,M,hcell,D⟩
    ·exact⟨_,w,od w t o.type e i V hi ν ν 0 0 0 (Nat.le_refl _),by simpa using X,g0,.inl rfl⟩
    ·exact⟨_,w,od w t o.type e i V hi _ ν n cap 0 Y,by simpa using X,g0,.inl rfl⟩
   ·rcases X.2 with⟨rfl,rfl⟩|⟨g,cap,rfl,J,Y,M,hcell,D⟩
    ·exact⟨_,w,od w t o.type e i V hi ν _ 0 0 cap2 (Nat.le_refl _),by simpa using X,g0,.inl rfl⟩
    ·exact⟨_,w,od w t o.type e i V hi _ _ n cap cap2 Y,by simpa using X,g0,.inl rfl⟩
 obtain⟨v',w',hr,h2,h3,h4⟩:=key;unfold Oper.wp execOp;simp only[ho,resolve,invoke,builtin,Sem.run_bind,Sem.run_pure,Result.andThen_ok,List.map_toArray,List.map_cons,List.map_nil,hs,hx,hr];exact h v' w' h2 h3 h4
end
theorem RC(a b:List wT):pV (a++b)=pV a++pV b:=by simp[pV]
theorem Hz(l:List wT):∀u∈pV l,u.oneCell'=true:=by
 intro u Z;unfold pV at Z;obtain⟨t,_,Y⟩:=br.1 Z;exact LV _ _ _ u Y
theorem N2(w:dN)(y:Yt)(M:iB)(m j:Nat)(W:dN)(hW:il w W y M m)(hn:M.n=m)(T:j<m):∃R iv,W.cell? ⟨y.gR,j,ν⟩=μ (π (μ ⟨R,0,ν⟩))/\(∀U,dV W U->U.cell? ⟨y.gI,j,ν⟩=μ iv/\U.cell? ⟨y.N,1,ν⟩=μ (σ (μ ⟨y.gI,0,ν⟩) m y.wv)/\y.gI<U.heap.size)/\iv.ownBlock≠μ y.gI/\iv.ownBlock≠μ y.N/\y.N≠y.gI/\
 ∀U,dV W U->eM eN 32 #[π (μ ⟨R,0,ν⟩)] U λe w'=>∃v,e=ρ v/\Row w' 3 v (M.R j).jM.length (pV (M.R j).jM)/\Row w' 3 iv (M.jM j).length (pV (M.jM j))/\w'.cell? ⟨y.gI,j,ν⟩=μ iv/\w'.frozen? ⟨y.gI,j,ν⟩=false/\w'.cell? ⟨y.N,1,ν⟩=μ (σ (μ ⟨y.gI,0,ν⟩) m y.wv)/\
  ∀x1 v',Row x1 3 v' ((M.jM j).length+(M.R j).jM.length) (pV (M.jM j)++pV (M.R j).jM)->w'.grownBy x1 iv.ownBlock->(v'.ownBlock=iv.ownBlock \/ ∃k,v'.ownBlock=μ k/\w'.heap.size<=k)->il w (x1.setCell ⟨y.gI,j,ν⟩ v') y (M.vF j) m:=by
 subst hn;obtain⟨Z,Q,V,wO,wU⟩:=hW.ex;refine⟨(Z.z j).R,Z.iv j,?_,λU hb=> ?_,λe=> ?_,λe=> ?_,λe=> ?_,λU hb=> ?_⟩
 ·rw[<-V.gR];exact Q.ptr T
 ·have X:=Q.below hb;rw[<-V.gI,<-V.N,<-V.wv];exact⟨X.Uq T,X.k1,X.XL⟩
 ·rw[<-V.gI]at e;exact Q.uq (l:=.ib j) (l':=.I) e rfl (by intro e;cases e) rfl
 ·rw[<-V.N]at e;exact Q.uq (l:=.ib j) (l':=.N) e rfl (by intro e;cases e) rfl
 ·rw[<-V.gI,<-V.N]at e;exact Q.uq (l:=.N) (l':=.I) rfl rfl (by intro e;cases e) e
 have X:=Q.below hb;have h:=(X.rn j T).1;refine(NY (Z.z j) (M.R j) U (X.rt j T)).mono ?_;rintro e A ⟨rfl,hr,oW⟩;have hw:ig U A (Z.z j) {M.R j with jM:=[] } 3:=(congrArg (λt=>ig U A (Z.z j) ({M.R j with jM:=[] }:iy) t) h).mp oW;have iY:∀k,Z.own k->A.heap[k]? =U.heap[k]? :=λk S=>by
  have hf:=X.LL T S;exact hw.kept.block k (X.lt (.inl S)) (λe=>hf (.inl e)) (λe=>hf (.inr (.inl e))) (λe=>hf (.inr (.inr e)))
 have hN:=X.wA T hw (X.rn j T);have Yd:=iY Z.gI ⟨.I,rfl⟩;refine⟨_,rfl,hr,(X.ib j T).keep hw.kept.size (λk S=>iY k ⟨.ib j,S⟩),?_,?_,?_,λx1 v' iJ H D=> ?_⟩
 ·rw[<-V.gI];exact(ai (a:=⟨Z.gI,j,ν⟩) Yd).trans (X.Uq T)
 ·rw[<-V.gI];have:=X.ri.fz j T;rw[Nat.zero_add]at this;exact(aH (a:=⟨Z.gI,j,ν⟩) Yd).trans this
 ·rw[<-V.N,<-V.gI,<-V.wv];exact(ai (a:=⟨Z.N,1,ν⟩) (iY Z.N ⟨.N,rfl⟩)).trans X.k1
 have rR:il U (x1.setCell ⟨Z.gI,j,ν⟩ v') Z (M.vF j) M.n:=by
  refine hN.step λy2 E G=> ?_;have O3:y2.iv j=Z.iv j:=by
   have Y:=E.Uq (i:=j) T;rw[G.gI,(ai (a:=⟨Z.gI,j,ν⟩) Yd).trans (X.Uq T)]at Y;exact(Option.some.inj Y).symm
  have jq:(Z.iv j).ownBlock≠μ Z.gI:=λe=>X.uq (l:=.ib j) (l':=.I) e rfl (by intro e;cases e) rfl;have ZD:v'.ownBlock≠μ Z.gI:=λe=>by
   rcases D with Y|⟨k,Y,J⟩
   ·exact jq (by rw[<-Y];exact e)
   ·rw[e]at Y;have vV:=Option.some.inj Y;have h4:Z.gI<A.heap.size:=by rw[<-G.gI];exact E.XL
    omega
  have hx:x1.heap[Z.gI]? =A.heap[Z.gI]? :=H.block Z.gI (by rw[<-G.gI];exact E.XL) (λe=>jq e.symm);have pj:=E.box (i:=j) (w':=x1.setCell ⟨Z.gI,j,ν⟩ v') T v' (M.jM j++(M.R j).jM) (by simpa using H.size) H.os H.tape H.output (λk S Y J=> ?_) ?_ ?_ (λk S=> ?_)
  ·exact pj
  ·rw[G.gI]at Y;rw[O3]at J;rw[ak _ _ _ k Y];exact H.block k S (λe=>J e.symm)
  ·rw[G.gI];have Y:=E.ri;rw[G.gI]at Y;have J:=Y.keep hx;have h:=J.set j T v';rw[Nat.zero_add]at h;refine h.congr λx hx=> ?_;by_cases e:x=j
   ·subst e;rw[ij];unfold qV;simp
   ·rw[gW _ _ e];unfold qV;simp[e]
  ·rw[RC,ay];exact iJ.keep gN (λk S=>ak _ _ _ k (λe=>ZD (by rw[S,e])))
  ·rcases D with Y|⟨k',Y,J⟩
   ·left;rw[O3,<-Y];exact S
   ·right;rw[S]at Y;have:=Option.some.inj Y;omega
 rw[V.gI]at rR;exact il.py hW.kept V wO wU (il.first hb rR)
theorem nD {j:Nat} (h:x.cell? ⟨b,k,ν⟩=μ u)(Z:b≠g):(x.setCell ⟨g,j,ν⟩ v).cell? ⟨b,k,ν⟩=μ u:=by
 rw[aP _ _ _ _ (λe=>Z (congrArg Addr.block e).symm)];exact h
theorem qM(y:Yt)(n:iB)(D k:Nat)(w:dN)(h:jl w y n)(iC:jN n D k)(hD:D<=1000000000)(hk:k<=100000):
 eM eN 111 #[π (μ ⟨y.N,0,ν⟩)] w λe w'=>e=ρ (τ #[])/\il w w' y n.gather n.n:=by
 have c3:=h.k3;obtain⟨a,cp,tU,HJ⟩:=h.XM;rw[tU]at c3;have cl:=h.vH;have c9:=h.c9;have n6:=h.n6;obtain⟨nc,rJ⟩:=fP (n.nc);obtain⟨m,hm⟩:=fP (n.n);have H0:Hid (il w w y (n.jW 0) m):=by
  show il _ _ _ _ _;rw[<-hm];exact il.refl h
 have HK3:Hid (∀q W,il w W y (n.jW q) m->W.cell? ⟨y.N,3,ν⟩=μ (σ a nc cp)/\y.N<W.heap.size):=by
  intro q W hw;have h1:=hw.k3;rw[(jK n q).2.1,tU,rJ]at h1;exact⟨h1,hw.lt⟩
 have HGC:Hid (∀c,c<nc->∃g,y.gC=μ g/\a=μ ⟨g,0,ν⟩):=by
  show∀c,_->_;rw[<-rJ];exact HJ
 have abP:Hid (∀q W g,q<nc->y.gC=μ g->il w W y (n.jW q) m->W.cell? ⟨g,q*7,ν⟩=μ (ι κ ((((n.C q).e 0).1:Int)+1))/\W.cell? ⟨g,q*7+1,ν⟩=μ (ι κ (((n.C q).e 0).2:Int))/\W.cell? ⟨g,q*7+2,ν⟩=μ (ι κ ((((n.C q).e 1).1:Int)+1))/\W.cell? ⟨g,q*7+2+1,ν⟩=μ (ι κ (((n.C q).e 1).2:Int))/\g<W.heap.size):=by
  intro q W g hq hg hw;obtain⟨ov,hC⟩:=hw.LR (c:=q) (by rw[(jK n q).2.1,rJ];exact hq) hg;have e1:=((jK n q).2.2.2.2 q).1;have h0:=hC.cell 0 dS;have h1:=hC.cell 1 dS;have h2:=hC.cell 2 dS;have h3:=hC.cell 3 dS;rw[(zA _ _).1,e1]at h0;rw[(zA _ _).2.1,e1]at h1;rw[(zA _ _).2.2.1,e1]at h2;rw[(zA _ _).2.2.2.1,e1]at h3;exact⟨h0,h1,h2,h3,hC.lt dS⟩
 have Fb:Hid (∀(q d g i p:Nat) (J:dN),q<nc->d<2->y.gC=μ g->(n.C q).e d=(i,p)->il w J y (n.nT q d) m->
  eM eN 157 #[π (μ ⟨y.N,0,ν⟩),.agg #[ι κ ((i:Int)+1),ι κ (p:Int)]] (J.alloc (γ #[ι κ ((i:Int)+1),ι κ (p:Int)] 192)).drew λe w1=>∃R,e=ρ (π (μ ⟨R,0,ν⟩))/\(w1.cell? ⟨J.heap.size,0,ν⟩=μ (ι κ ((i:Int)+1))/\w1.cell? ⟨J.heap.size,1,ν⟩=μ (ι κ (p:Int)))/\
  eM eN 29 #[π (μ ⟨R,0,ν⟩),ι κ (p:Int)] w1 λe w2=>∃s:ByteArray,e=ρ (τ #[.string s,η])/\(w2.cell? ⟨J.heap.size,0,ν⟩=μ (ι κ ((i:Int)+1))/\w2.cell? ⟨J.heap.size,1,ν⟩=μ (ι κ (p:Int)))/\
   ∀w3,dV w2 w3->eM eN 161 #[π (μ ⟨g,q*7,ν⟩),ι κ (d:Int),.string s] w3 λe w4=>e=ρ (τ #[])/\il w w4 y (n.nT q (d+1)) m):=by
  intro q d g i p J hq hd hg yc hw;have hb:=iZ (gM J (γ #[ι κ ((i:Int)+1),ι κ (p:Int)] 192));have hB:iM (J.alloc (γ #[ι κ ((i:Int)+1),ι κ (p:Int)] 192)).drew J.heap.size #[ι κ ((i:Int)+1),ι κ (p:Int)] 192:=(iM.new J _ _).drew;exact Ku w y n D k q d g m iC dP hk (by rw[rJ];exact hq) hd hg hm i p yc J _ hw hb J.heap.size _ _ (Nat.le_refl _) ⟨hB.cell 0,hB.cell 1⟩
 rw[rJ]at c3 c9;rw[hm]at n6⊢;have PO:Hid _:=iC;have HNC:Hid _:=rJ;have HM:Hid _:=hm;clear h iC HJ tU rJ hm
 go_in
 go_wp2
 go_loopw [15] (λx wr=>∃q:Nat,q<=nc/\x=ι κ q/\il w wr y (n.jW q) m) (λx _=>nc-(eP x).toNat)
 case atStart=>exact⟨0,Nat.zero_le _,rfl,H0.out⟩
 case round=>
  obtain⟨q,hq,rfl,qk⟩:=hrel;obtain⟨V,rfl⟩:∃V,V=wr:=⟨_,rfl⟩
  by_cases kc:q<nc
  ·have nh:(q:Int)<(nc:Int):=dP;have hq0:(0:Int)<=(q:Int):=dP;obtain⟨g,hg,rfl⟩:=HGC.out q kc;obtain⟨d3,dl⟩:=HK3.out q V qk;obtain⟨e0,e1,e2,e3,gl⟩:=abP.out q V g kc hg qk;obtain⟨H,p0,H4⟩:∃H p0,(n.C q).e 0=(H,p0):=⟨_,_,rfl⟩
   obtain⟨i1,p1,H5⟩:∃i1 p1,(n.C q).e 1=(i1,p1):=⟨_,_,rfl⟩
   rw[H4]at e0 e1;rw[H5]at e2 e3;have HD0:Hid _:=qk;have agb:Hid _:=H4;have agc:Hid _:=H5;have HG:Hid _:=hg;clear qk H4 H5 hg
   go_wp2
   go_loopw [28] (λx wr=>(x=ι κ 0/\il w wr y (n.nT q 0) m) \/(x=ι κ 1/\il w wr y (n.nT q 1) m) \/(x=ι κ 2/\il w wr y (n.nT q 2) m)) (λx _=>2-(eP x).toNat)
   case atStart=>exact .inl ⟨rfl,HD0.out⟩
   case round=>
    rcases hrel with⟨rfl,Aw⟩|⟨rfl,Aw⟩|⟨rfl,Aw⟩
    ·have hix:=Yb ((H:Int)+1) (p0:Int) ((i1:Int)+1) (p1:Int);have hE:=Fb.out q 0 g H p0 wr kc dS HG.out agb.out Aw;obtain⟨W1,jO⟩:=fP (wr.alloc (γ #[ι κ ((H:Int)+1),ι κ (p0:Int)] 192));obtain⟨E,tg⟩:=fP (wr.heap.size);have T:W1.drew.cell? ⟨E,0,ν⟩=μ (ι κ ((H:Int)+1))/\W1.drew.cell? ⟨E,1,ν⟩=μ (ι κ (p0:Int)):=by
      have hB:iM (wr.alloc (γ #[ι κ ((H:Int)+1),ι κ (p0:Int)] 192)).drew wr.heap.size #[ι κ ((H:Int)+1),ι κ (p0:Int)] 192:=(iM.new wr _ _).drew;rw[jO,tg]at hB;exact⟨hB.cell 0,hB.cell 1⟩
     have El:E<W1.drew.heap.size:=af _ _ T.1;rw[jO,tg]at hE;have N3:Hid _:=jO;have Rb:Hid _:=tg;clear Aw jO tg;go_wp2_with(fail)
     try rw[N3.out]
     try rw[Rb.out]
     go_region_held3(λx=>x.cell? ⟨E,0,ν⟩=μ (ι κ ((H:Int)+1))/\x.cell? ⟨E,1,ν⟩=μ (ι κ (p0:Int)))
      (first|assumption|exact T|exact X|exact Q)
      (first
       |(go_at_call 157;refine hE.mono ?_;rintro e w1 ⟨R,rfl,X,hO⟩)
       |(go_at_call 29;refine hO.mono ?_;rintro e w2 ⟨sx,rfl,Q,hP⟩))
     all_goals
      have hp:=hP _ (aq _ _);clear hE hO hP T X Q El;go_wp2_with(fail);refine hp.mono ?_;rintro e w4 ⟨rfl,LY⟩;have Kr:Hid _:=LY;clear hp LY
      go_wp2
      go_roundw
      case rel=>exact .inr (.inl ⟨by go_num,Kr.out⟩)
      case measure=>simp[eP]
    ·have hix:=Yc ((H:Int)+1) (p0:Int) ((i1:Int)+1) (p1:Int);have hE:=Fb.out q 1 g i1 p1 wr kc dS HG.out agc.out Aw;obtain⟨W1,jO⟩:=fP (wr.alloc (γ #[ι κ ((i1:Int)+1),ι κ (p1:Int)] 192));obtain⟨E,tg⟩:=fP (wr.heap.size);have T:W1.drew.cell? ⟨E,0,ν⟩=μ (ι κ ((i1:Int)+1))/\W1.drew.cell? ⟨E,1,ν⟩=μ (ι κ (p1:Int)):=by
      have hB:iM (wr.alloc (γ #[ι κ ((i1:Int)+1),ι κ (p1:Int)] 192)).drew wr.heap.size #[ι κ ((i1:Int)+1),ι κ (p1:Int)] 192:=(iM.new wr _ _).drew;rw[jO,tg]at hB;exact⟨hB.cell 0,hB.cell 1⟩
     have El:E<W1.drew.heap.size:=af _ _ T.1;rw[jO,tg]at hE;have N3:Hid _:=jO;have Rb:Hid _:=tg;clear Aw jO tg;go_wp2_with(fail)
     try rw[N3.out]
     try rw[Rb.out]
     go_region_held3(λx=>x.cell? ⟨E,0,ν⟩=μ (ι κ ((i1:Int)+1))/\x.cell? ⟨E,1,ν⟩=μ (ι κ (p1:Int)))
      (first|assumption|exact T|exact X|exact Q)
      (first
       |(go_at_call 157;refine hE.mono ?_;rintro e w1 ⟨R,rfl,X,hO⟩)
       |(go_at_call 29;refine hO.mono ?_;rintro e w2 ⟨sx,rfl,Q,hP⟩))
     all_goals
      have hp:=hP _ (aq _ _);clear hE hO hP T X Q El;go_wp2_with(fail);refine hp.mono ?_;rintro e w4 ⟨rfl,LY⟩;have Kr:Hid _:=LY;clear hp LY
      go_wp2
      go_roundw
      case rel=>exact .inr (.inr ⟨by go_num,Kr.out⟩)
      case measure=>simp[eP]
    ·have HQ:Hid _:=Aw;clear Aw
     go_wp2
     go_roundw
     case rel=>exact⟨q+1,dP,by go_num,HQ.out⟩
     case measure=>simp[eP];omega
  ·have zN:¬(q:Int)<(nc:Int):=dP;obtain rfl:q=nc:=dP;have HI0:Hid _:=qk;have k0:=qk.k0;have kl:=qk.lt;rw[(jK n q).1]at k0;have k0':V.cell? ⟨y.N,0,ν⟩=μ (σ (μ ⟨y.gR,0,ν⟩) m y.rH):=by rw[<-HM.out];exact k0
   obtain⟨H,hi,nH,l8,mZ⟩:=aT LU;have HE:Hid (n.gather=(n.jW q).mf m):=by
    show _=_;unfold iB.gather;rw[HNC.out,HM.out]
   have HN2:Hid ((n.jW q).n=m):=by show _=_;rw[(jK n q).1,HM.out]
   have HK:Hid (∀j,j<m->(((n.jW q).mf j).jM j).length<=2000000000/\((((n.jW q).mf j).R j).jM).length<=2000000000):=by
    intro j hj;have h1:=(PO.out.jW dP q (by rw[HNC.out];exact Nat.le_refl _)).mf j;have h2:=h1.ib j (by rw[(nN (n.jW q) j).1,HN2.out];exact hj);have h3:=(h1.fit j (by rw[(nN (n.jW q) j).1,HN2.out];exact hj)).1;omega
   clear qk k0 PO HNC abP Fb HK3 HGC
   go_wp2
   go_loopw [54] (λx wr=>∃j:Nat,j<=m/\x=ι κ j/\il w wr y ((n.jW q).mf j) m) (λx _=>m-(eP x).toNat)
   case atStart=>exact⟨0,Nat.zero_le _,rfl,HI0.out⟩
   case round=>
    obtain⟨j,hj,rfl,hwj⟩:=hrel;by_cases hjl:j<m
    ·have age:(j:Int)<(m:Int):=dP;have vr:(0:Int)<=(j:Int):=dP;have hnM:((n.jW q).mf j).n=m:=by rw[(nN (n.jW q) j).1,HN2.out]
     obtain⟨l1,l2⟩:=HK.out j hjl;have HS:Hid ((n.jW q).mf (j+1)=((n.jW q).mf j).vF j):=rfl;obtain⟨R,iv,r0,pj,abT,abU,hNI,UB⟩:=N2 w y _ m j wr hwj hnM hjl;have A3:Hid ((n.jW q).mf (j+1)=((n.jW q).mf j).vF j):=rfl;have HSS:∀x,il w x y (((n.jW q).mf j).vF j) m=il w x y ((n.jW q).mf (j+1)) m:=λx=>rfl;obtain⟨M,hM⟩:=fP ((n.jW q).mf j);rw[hM]at l1 l2 UB HSS;simp only[HSS]at UB;have hIn:=UB wr.drew (iI wr);obtain⟨c1,T,gIl⟩:=pj wr.drew (iI wr);have rl:=af _ _ r0;have UC:Hid _:=abT;have abV:Hid _:=abU;have HNI:Hid _:=hNI;have Nl:=af _ _ T;generalize y.N=YN at*;generalize y.gI=U at*;generalize y.wv=cI at*;clear hwj hM pj UB HSS HS A3 abT abU hNI;go_wp2_with(fail);refine bW (S:=λx=>x.cell? ⟨YN,1,ν⟩=μ (σ (μ ⟨U,0,ν⟩) m cI)) gJ T (λkI=> ?_);refine iR 0 (μ 59) rfl rfl gJ gJ gJ (λ_ _ _ h=>h) (by rfl) (v:= ?_) ?_ iL ?_
     rotate_left
     ·intro G Z
      (try dsimp only at Z)
      go_simp
      try with_reducible rfl
     simp only[gh,gj,gk,gp];refine iR 1 (μ 60) rfl rfl gJ gJ gJ (λ_ _ _ h=>h) (by rfl) (v:= ?_) ?_ iL ?_
     rotate_left
     ·intro G Z
      (try dsimp only at Z)
      go_simp
      try with_reducible rfl
     simp only[gh,gj,gk,gp];refine iR 2 (μ 61) rfl rfl gJ gJ gJ (λ_ _ _ h=>h) (by rfl) (v:= ?_) ?_ iL ?_
     rotate_left
     ·intro G Z
      (try dsimp only at Z)
      go_simp
      try with_reducible rfl
     simp only[gh,gj,gk,gp];refine iR 3 (μ 62) rfl rfl gJ gJ gJ (λ_ _ _ h=>h) (by rfl) (v:= ?_) ?_ iL ?_
     rotate_left
     ·intro G Z
      (try dsimp only at Z)
      go_simp
      try with_reducible rfl
     simp only[gh,gj,gk,gp];refine iR 4 (μ 63) rfl rfl gJ gJ gJ (λ_ _ _ h=>h) (by rfl) (v:= ?_) ?_ iL ?_
     rotate_left
     ·intro G Z
      (try dsimp only at Z)
      go_simp
      try with_reducible rfl
     simp only[gh,gj,gk,gp];refine iR 5 (μ 64) rfl rfl gJ gJ gJ (λ_ _ _ h=>h) (by rfl) (v:= ?_) ?_ iL ?_
     rotate_left
     ·intro G Z
      (try dsimp only at Z)
      go_simp
      try with_reducible rfl
     simp only[gh,gj,gk,gp];refine iR 6 (μ 65) rfl rfl gJ gJ gJ (λ_ _ _ h=>h) (by rfl) (v:= ?_) ?_ iL ?_
     rotate_left
     ·intro G Z
      (try dsimp only at Z)
      go_simp
      try with_reducible rfl
     simp only[gh,gj,gk,gp];refine iR 7 (μ 66) rfl rfl gJ gJ gJ (λ_ _ _ h=>h) (by rfl) (v:= ?_) ?_ iL ?_
     rotate_left
     ·intro G Z
      (try dsimp only at Z)
      go_simp
      try with_reducible rfl
     simp only[gh,gj,gk,gp];refine iR 8 (μ 67) rfl rfl gJ gJ gJ (λ_ _ _ h=>h) (by rfl) (v:= ?_) ?_ iL ?_
     rotate_left
     ·intro G Z
      (try dsimp only at Z)
      go_simp
      try with_reducible rfl
     simp only[gh,gj,gk,gp];refine iR 9 (μ 68) rfl rfl gJ gJ gJ (λ_ _ _ h=>h) (by rfl) (v:= ?_) ?_ iL ?_
     rotate_left
     ·intro G Z
      (try dsimp only at Z)
      go_simp
      try with_reducible rfl
     simp only[gh,gj,gk,gp];refine iR 10 (μ 69) rfl rfl gJ gJ gJ (λ_ _ _ h=>h) (by rfl) (v:= ?_) ?_ iL ?_
     rotate_left
     ·intro G Z
      (try dsimp only at Z)
      go_simp
      try with_reducible rfl
     simp only[gh,gj,gk,gp];refine iR 12 (μ 71) rfl rfl gJ gJ gJ (λ_ _ _ h=>h) (by rfl) (v:= ?_) ?_ iL ?_
     rotate_left
     ·intro G Z
      (try dsimp only at Z)
      go_simp
      try with_reducible rfl
     simp only[gh,gj,gk,gp];refine aN (rs:=[11,13]) gJ gN ?_;refine aB (o:=_) rfl (λK Y=> ?_) (aB (o:=_) rfl (λK Y=> ?_) aJ)
     ·go_simp
      (try go_wp2_with(fail))
      refine Y.out _ _ (by exact T) (λkI=> ?_);clear Y K;refine aN (rs:=[13]) gJ gN ?_;refine aB (o:=_) rfl (λK Y=> ?_) aJ
      go_simp
      refine hIn.mono ?_;rintro e w1 ⟨v1,rfl,iJ,O3,b1,z1,X,rR⟩
      (try go_wp2_with(fail))
      refine Y.out _ _ (by exact X) (λkI=> ?_);clear Y K;have Ye:=af _ _ b1;refine aN (rs:=[14]) gJ gN ?_;refine aB (o:=_) rfl (λK Y=> ?_) aJ;refine r6 (by rfl) (.tmp 70) (.tmp 72) 53 (by rfl) 106 H (.agg #[ι κ 0,ι κ 0,.string ⟨#[]⟩]) 3 32 dk hi nH l8 mZ (by rfl) dS iv (M.jM j).length (pV (M.jM j)) (by rfl) O3 v1 (M.R j).jM.length (pV (M.R j).jM) (by rfl) iJ (Hz _) (by unfold maxLen;omega) dP ?_;intro v2 x1 kD A jj;have Q:x1.cell? ⟨YN,1,ν⟩=μ (σ (μ ⟨U,0,ν⟩) m cI):=(ai (a:=⟨YN,1,ν⟩) (A.block YN (af _ _ X) (λe=>abV.out e.symm))).trans X;have b2:x1.cell? ⟨U,j,ν⟩=μ iv:=(ai (a:=⟨U,j,ν⟩) (A.block U Ye (λe=>UC.out e.symm))).trans b1;have z2:x1.frozen? ⟨U,j,ν⟩=false:=(aH (a:=⟨U,j,ν⟩) (A.block U Ye (λe=>UC.out e.symm))).trans z1;have gl2:=af _ _ b2;obtain⟨a2,cp2,rfl⟩:=Row.shape kD;refine Y.out _ _ (by exact Q) (λkI=> ?_);clear Y K;refine iR 15 (μ 74) rfl rfl gJ gJ gJ (λ_ _ _ h=>h) (by rfl) (v:= ?_) ?_ iL ?_
      rotate_left
      ·intro G Z
       (try dsimp only at Z)
       go_simp
       try with_reducible rfl
      simp only[gh,gj];refine aN (rs:=[16]) gJ gN ?_;refine aB (o:=_) rfl (λK Y=> ?_) aJ
      go_simp
      (try go_wp2_with(fail))
      refine Y.out _ _ (by exact nD Q HNI.out) (λkI=> ?_);clear Y K;refine cD gJ ?_ _;have HF:Hid _:=rR x1 _ kD A jj;clear hIn iJ O3 b1 z1 T X Q b2 z2 rR kD A jj Ye gl2
      go_wp2
      go_roundw
      case rel=>exact⟨j+1,dP,by go_num,HF.out⟩
      case measure=>simp[eP];omega
     ·go_simp
      refine hIn.mono ?_;rintro e w1 ⟨v1,rfl,iJ,O3,b1,z1,X,rR⟩
      (try go_wp2_with(fail))
      refine Y.out _ _ (by exact X) (λkI=> ?_);clear Y K;have Ye:=af _ _ b1;refine aN (rs:=[11]) gJ gN ?_;refine aB (o:=_) rfl (λK Y=> ?_) aJ
      go_simp
      (try go_wp2_with(fail))
      refine Y.out _ _ (by exact X) (λkI=> ?_);clear Y K;refine aN (rs:=[14]) gJ gN ?_;refine aB (o:=_) rfl (λK Y=> ?_) aJ;refine r6 (by rfl) (.tmp 70) (.tmp 72) 53 (by rfl) 106 H (.agg #[ι κ 0,ι κ 0,.string ⟨#[]⟩]) 3 32 dk hi nH l8 mZ (by rfl) dS iv (M.jM j).length (pV (M.jM j)) (by rfl) O3 v1 (M.R j).jM.length (pV (M.R j).jM) (by rfl) iJ (Hz _) (by unfold maxLen;omega) dP ?_;intro v2 x1 kD A jj;have Q:x1.cell? ⟨YN,1,ν⟩=μ (σ (μ ⟨U,0,ν⟩) m cI):=(ai (a:=⟨YN,1,ν⟩) (A.block YN (af _ _ X) (λe=>abV.out e.symm))).trans X;have b2:x1.cell? ⟨U,j,ν⟩=μ iv:=(ai (a:=⟨U,j,ν⟩) (A.block U Ye (λe=>UC.out e.symm))).trans b1;have z2:x1.frozen? ⟨U,j,ν⟩=false:=(aH (a:=⟨U,j,ν⟩) (A.block U Ye (λe=>UC.out e.symm))).trans z1;have gl2:=af _ _ b2;obtain⟨a2,cp2,rfl⟩:=Row.shape kD;refine Y.out _ _ (by exact Q) (λkI=> ?_);clear Y K;refine iR 15 (μ 74) rfl rfl gJ gJ gJ (λ_ _ _ h=>h) (by rfl) (v:= ?_) ?_ iL ?_
      rotate_left
      ·intro G Z
       (try dsimp only at Z)
       go_simp
       try with_reducible rfl
      simp only[gh,gj];refine aN (rs:=[16]) gJ gN ?_;refine aB (o:=_) rfl (λK Y=> ?_) aJ
      go_simp
      (try go_wp2_with(fail))
      refine Y.out _ _ (by exact nD Q HNI.out) (λkI=> ?_);clear Y K;refine cD gJ ?_ _;have HF:Hid _:=rR x1 _ kD A jj;clear hIn iJ O3 b1 z1 T X Q b2 z2 rR kD A jj Ye gl2
      go_wp2
      go_roundw
      case rel=>exact⟨j+1,dP,by go_num,HF.out⟩
      case measure=>simp[eP];omega
    ·have hjm:¬(j:Int)<(m:Int):=dP;obtain rfl:j=m:=dP;have HW:Hid (il w wr y n.gather j):=by
      show il _ _ _ _ _;rw[HE.out];exact hwj
     clear hwj
     go_wp2
     first|go_end0|refine iq rfl rfl ?_
     exact⟨rfl,HW.out⟩
theorem jl.Ax {w':dN} {r:iy} (h:jl w y n)(hi:i<n.n)(Y:ig w w' (y.z i) r (n.R i).n)(X:r.n=(n.R i).n/\r.id=(n.R i).id):il w w' y (n.jg i r) n.n:=by
 obtain⟨Z,V⟩:=h.rn i hi;rw[Z]at Y;exact h.wA hi Y ⟨X.1.trans Z,X.2.trans V⟩
theorem N4(y:Yt)(n:iB)(D k i:Nat)(w:dN)(h:jl w y n)(X:iQ w)(Y:jN n D k)(hD:D<=1000000000)(V:k<=90000)(hi:i<n.n):
 eM eN 25 #[π (μ ⟨(y.z i).R,0,ν⟩)] w λe w'=>e=ρ (τ #[])/\il w w' y (n.jg i (n.R i).tick) n.n:=by
 refine(NU (y.z i) (n.R i) k w (h.rt i hi) X (Y.ok i hi) (Y.fits dP hi) V).mono ?_;rintro e w1 ⟨rfl,U⟩;have Z:=jm.iW (n.R i) (n.R i).n;exact⟨rfl,h.Ax hi U ⟨Z.n,Z.id⟩⟩
theorem N5(y:Yt)(n:iB)(D k i:Nat)(t:Int)(tx:ByteArray)(w:dN)(h:jl w y n)(Y:jN n D k)(hD:D<=1000000000)(hk:k<=90000)(hi:i<n.n):
 eM eN 27 #[π (μ ⟨(y.z i).R,0,ν⟩),ι κ t,.string tx] w λe w'=>e=ρ (iP (jR (n.R i) t tx.data.toList).2)/\il w w' y (n.jg i (jR (n.R i) t tx.data.toList).1) n.n:=by
 refine(NV (y.z i) (n.R i) k t tx w (h.rt i hi) (Y.ok i hi) (Y.fits dP hi) dP).mono ?_;rintro e w1 ⟨rfl,X⟩;have Z:=jm.jR (n.R i) t tx.data.toList;exact⟨rfl,h.Ax hi X ⟨Z.n,Z.id⟩⟩
theorem yM(h:k<m)(hm:m<=6):IntKind.i64.wrap ((k:Int)+1-1)=(k:Int):=by
 have:(k:Int)+1-1=k:=dP;rw[this];exact aM _ ⟨dP,dP⟩
theorem H6(y:Yt)(n:iB)(D:Nat)(i:Int)(w:dN)(h:jl w y n)(U:iQ w)(Y:jN n D 0)(hD:D<=900000000):
 eM eN 56 #[π (μ ⟨y.N,0,ν⟩),ι κ i] w λe w'=>e=ρ (iP (n.tick i).2)/\il w w' y (n.tick i).1 n.n:=by
 have hh:=pH y n i w h;rcases wC i n.n with⟨hn,hi⟩|⟨k,Z,rfl⟩
 ·have V:n.tick i=(n,6):=by unfold iB.tick;rw[ag hi]
  rw[V];rw[hn]at hh;have X:Hid _:=il.refl h;clear h Y U
  go_in
  go_wp2_with(fail);refine hh.mono ?_;rintro e H ⟨rfl,rfl⟩;clear hh
  go_wp2
  go_ret;exact⟨rfl,X.out⟩
 ·rw[xF Z]at hh;have V:n.tick ((k:Int)+1)=((n.jg k (n.R k).tick).gather,0):=by
   unfold iB.tick;have A:((k:Int)+1-1).toNat=k:=dP;rw[ae dP,A]
  rw[V];have c0:=h.k0;have cl:=h.vH;have d0:=h.ptr Z;have dl:=h.NF;have n6:=h.n6;have hw:=yM Z n6;have kV:(k:Int)<(n.n:Int):=dP;have Jv:(0:Int)<=(k:Int):=dP;have T:=N4 y n D 0 k w h U Y dP dP Z;have Q:=Y.iT dP Z;have hg:Hid (∀W,il w W y (n.jg k (n.R k).tick) n.n->eM eN 111 #[π (μ ⟨y.N,0,ν⟩)] W λe w'=>e=ρ (τ #[])/\il w w' y (n.jg k (n.R k).tick).gather n.n):=by
   intro W j;refine j.call λy1 G s1=> ?_;rw[<-s1.N];exact qM y1 _ D _ W G Q dP dP
  have E:iP 0=η:=rfl;rw[E];clear h Y U Q
  go_in
  go_wp2_with(fail);refine hh.mono ?_;rintro e H ⟨rfl,rfl⟩;clear hh;go_wp2_with(fail);refine T.mono ?_;rintro e H ⟨rfl,M⟩;have S:=hg.out _ M;clear T M;go_wp2_with(fail);refine S.mono ?_;rintro e w2 ⟨rfl,J⟩;have X:Hid _:=J;clear S J
  go_wp2
  go_ret;exact⟨rfl,X.out⟩
theorem RD(y:Yt)(n:iB)(D:Nat)(i t:Int)(tx:ByteArray)(w:dN)(h:jl w y n)(S:jN n D 0)(hD:D<=900000000):
 eM eN 53 #[π (μ ⟨y.N,0,ν⟩),ι κ i,ι κ t,.string tx] w λe w'=>e=ρ (iP (n.send i t tx.data.toList).2)/\il w w' y (n.send i t tx.data.toList).1 n.n:=by
 have hh:=pH y n i w h;rcases wC i n.n with⟨hn,hi⟩|⟨k,U,rfl⟩
 ·have V:n.send i t tx.data.toList=(n,6):=by unfold iB.send;rw[ag hi]
  rw[V];rw[hn]at hh;have X:Hid _:=il.refl h;clear h S
  go_in
  go_wp2_with(fail);refine hh.mono ?_;rintro e H ⟨rfl,rfl⟩;clear hh
  go_wp2
  go_ret;exact⟨rfl,X.out⟩
 ·rw[xF U]at hh;have e1:((k:Int)+1-1).toNat=k:=dP;have c0:=h.k0;have cl:=h.vH;have d0:=h.ptr U;have dl:=h.NF;have n6:=h.n6;have hw:=yM U n6;have kV:(k:Int)<(n.n:Int):=dP;have Jv:(0:Int)<=(k:Int):=dP;have Z:=N5 y n D 0 k t tx w h S dP dP U;have J:=S.Ry dP U t tx.data.toList;obtain⟨q,T⟩:=fP (jR (n.R k) t tx.data.toList);have V:n.send ((k:Int)+1) t tx.data.toList=if q.2≠0 then(n,q.2)else((n.jg k q.1).gather,0):=by
   unfold iB.send;rw[ae dP,e1,T]
  rw[V];rw[T]at Z J;have E:Hid (∀W,il w W y (n.jg k q.1) n.n->eM eN 111 #[π (μ ⟨y.N,0,ν⟩)] W λe w'=>e=ρ (τ #[])/\il w w' y (n.jg k q.1).gather n.n):=by
   intro W hW;refine hW.call λy1 R1 s1=> ?_;rw[<-s1.N];exact qM y1 _ _ _ W R1 J dP dP
  have G:q.2≠0->q.1=n.R k:=λM=>by
   rw[<-T]at M⊢;unfold Rt.jR at M⊢;split at M
   ·rename_i hc;rw[ag hc]
   ·exact absurd rfl M
  have zi:n.jg k (n.R k)=n:=by
   unfold iB.jg;rw[ui]
  by_cases Y:q.2=0
  ·rw[ae (by simp[Y])];rw[Y]at Z;have e0:iP 0=η:=rfl;rw[e0]at Z⊢;clear h S J G V T Y
   go_in
   go_wp2_with(fail);refine hh.mono ?_;rintro e H ⟨rfl,rfl⟩;clear hh;go_wp2_with(fail);refine Z.mono ?_;rintro e H ⟨rfl,Q⟩;have A:=E.out _ Q;clear Z Q;go_wp2_with(fail);refine A.mono ?_;rintro e w2 ⟨rfl,j⟩;have X:Hid _:=j;clear A j
   go_wp2
   go_ret;exact⟨rfl,X.out⟩
  ·rw[ag Y];rw[G Y,zi]at Z;have ee:iP q.2=.iface 128 (ι κ (q.2:Int)):=by simp only[iP];rw[ae Y]
   rw[ee]at Z⊢;clear h S J G V T E Y
   go_in
   go_wp2_with(fail);refine hh.mono ?_;rintro e H ⟨rfl,rfl⟩;clear hh;go_wp2_with(fail);refine Z.mono ?_;rintro e H ⟨rfl,Q⟩;have X:Hid _:=Q;clear Z Q
   go_wp2
   go_ret;exact⟨rfl,X.out⟩
theorem il.Wc {W:dN} {y1:Yt} {R:Nat} (Y:jl W y1 n)(S:y.same y1)(hi:i<n.n)(hc:W.cell? ⟨y.gR,i,ν⟩=μ (π (μ ⟨R,0,ν⟩))):(y1.z i).R=R:=by
 have Z:=Y.ptr hi;rw[S.gR,hc]at Z;have X:=Option.some.inj Z;injection X with V
 injection V with U
 injection U with T
 exact T.symm
def xK(W3:dN)(y:Yt)(n n1:iB)(i R:Nat)(b:Bool)(W:dN):Prop:=il W3 W y (if b=true then n1 else n) n.n/\W.cell? ⟨y.gR,i,ν⟩=μ (π (μ ⟨R,0,ν⟩))
theorem xK.below {W3:dN} {y:Yt} {n n1:iB} {i R:Nat} {b:Bool} {W W':dN} (h:xK W3 y n n1 i R b W)(Z:n1.n=n.n)(hb:dV W W'):xK W3 y n n1 i R b W':=by
 refine⟨h.1.below (by cases b<;>simp[Z]) hb,?_⟩;exact(ai (a:=⟨y.gR,i,ν⟩) (hb.block y.gR (af _ _ h.2))).trans h.2
theorem N6(X:dN)(y:Yt)(n n1:iB)(i p R:Nat)(b:Bool)(W:dN)(V:n1.n=n.n)(hi:i<n.n)(Z:xK X y n n1 i R b W):
 eM eN 157 #[π (μ ⟨y.N,0,ν⟩),.agg #[ι κ ((i:Int)+1),ι κ (p:Int)]] W λe w'=>e=ρ (π (μ ⟨R,0,ν⟩))/\xK X y n n1 i R b w':=by
 obtain⟨Q,Y,U,wO,wU⟩:=Z.1.ex;have T:(if b=true then n1 else n).n=n.n:=by cases b<;>simp[V]
 have S:=il.Wc Y U (by rw[T];exact hi) Z.2;rw[<-U.N];refine(Km Q _ i p W Y (by rw[T];exact hi)).mono ?_;rintro e w1 ⟨rfl,b1⟩;exact⟨by rw[S],Z.below V b1⟩
theorem H7(U:dN)(y:Yt)(n:iB)(D c d g i R:Nat)(many:Int)(W:dN)(G:jN n D 0)(hc:c<n.nc)(hd:d<2)(H:y.gC=μ g)(n1:iB)(E:n.kG c {n.C c with on:=jy (n.C c).on d (((n.C c).on d).drop (min many.toNat ((n.C c).on d).length))}=n1)(J:xK U y n n1 i R false W):
 eM eN 158 #[π (μ ⟨g,c*7,ν⟩),ι κ (d:Int),ι κ many] W λe w'=>e=ρ (.string ⟨(((n.C c).on d).take (min many.toNat ((n.C c).on d).length)).toArray⟩)/\xK U y n n1 i R true w':=by
 obtain⟨Y,S⟩:=J;have Y:il U W y n n.n:=Y;obtain⟨V,Z,T,A,j⟩:=Y.ex;have X:V.gC=μ g:=by rw[T.gC];exact H
 refine(NK g (c*7) d (n.C c) (V.ov c) many W hd (Z.rc g X c hc) (Z.ob c d hc hd) (Z.abO X) (Z.ol c d hc hd)).mono ?_;rintro e w1 ⟨rfl,v',M⟩;have Q:=Z.cbW hc hd X M rfl (λx hx=>gW _ _ hx) (by
  show(jy (n.C c).on d _ d).length<=2000;rw[ij,dw];have:=G.ol c d hc hd;omega)
 rw[E]at Q;refine⟨rfl,il.py Y.kept T A j Q,?_⟩;rw[<-T.gR]at S⊢;refine(ai (a:=⟨V.gR,i,ν⟩) (M.block V.gR Z.NF (λe=> ?_) (λe=> ?_))).trans S
 ·exact Z.uq (l:=.R) (l':=.C) rfl X (by intro e;cases e) e
 ·exact Z.uq (l:=.on c d) (l':=.R) e rfl (by intro e;cases e) rfl
theorem H8(Z:dN)(y:Yt)(n:iB)(D c d i p R q:Nat)(W:dN)(V:jN n D 0)(hD:D<=900000000)(h3:jl Z y n)(hT:iQ Z)(hc:c<n.nc)(hd:d<2)(j:(n.C c).e (1-d)=(i,p))(n1:iB)(S:n.kG c {n.C c with on:=jy (n.C c).on d (((n.C c).on d).drop q)}=n1)(hW:xK Z y n n1 i R true W):
 eM eN 23 #[π (μ ⟨R,0,ν⟩),ι κ (p:Int),.string ⟨(((n.C c).on d).take q).toArray⟩] W λe w'=>e=ρ η/\il Z w' y (n.jw c d q) n.n:=by
 obtain⟨Y,h2⟩:=hW;have Y:il Z W y n1 n.n:=Y;have hi:=(V.en c (1-d) hc dP)
 rw[j]at hi;have U:n1.n=n.n:=by rw[<-S];rfl
 have Q:n1.R=n.R:=by rw[<-S];rfl
 have Yf:=Y.tab h3 rfl hT;obtain⟨A,T,G,wO,wU⟩:=Y.ex;have hR:=il.Wc T G (by rw[U];exact hi.1) h2;rw[<-hR];have hl:=V.ol c d hc hd;have pY:(⟨(((n.C c).on d).take q).toArray⟩:ByteArray).size<=2000:=by
  show Array.size _<=_;simp;omega
 have X:=T.rt i (by rw[U];exact hi.1);have h:=V.fits dP (i:=i) hi.1;rw[Q]at X;refine(Ro _ (A.z i) (n.R i) p 0 W X Yf (V.ok i hi.1) h dP (by rw[(V.rn i hi.1).1];exact hi.2)).mono ?_;rintro e w1 ⟨rfl,H⟩;have e1:(⟨(((n.C c).on d).take q).toArray⟩:ByteArray).data.toList=((n.C c).on d).take q:=gN;rw[e1]at H;have E:=jm.recv (n.R i) p (((n.C c).on d).take q);have tO:i<n1.n:=by rw[U];exact hi.1
 have M:il W w1 A (n1.jg i ((n.R i).recv p (((n.C c).on d).take q))) n1.n:=by
  have J:(n.R i)=n1.R i:=by rw[Q]
  refine T.Ax tO ?_ ?_
  ·rw[<-J];exact H
  ·rw[<-J];exact⟨E.n,E.id⟩
 rw[U]at M;refine⟨rfl,il.py Y.kept G wO wU ?_⟩;have e3:n.jw c d q=n1.jg i ((n.R i).recv p (((n.C c).on d).take q)):=by
  unfold iB.jw;rw[j,S]
 rw[e3];exact M
theorem zB {p q r:Addr} {o:Obj} (h:w.cell? p=μ u/\w.cell? q=μ v/\w.cell? r=μ t):(w.alloc o).cell? p=μ u/\(w.alloc o).cell? q=μ v/\(w.alloc o).cell? r=μ t:=⟨lH h.1,lH h.2.1,lH h.2.2⟩
theorem Kv {c d l:Nat} {a1 a2:dO} (h:x.cell? ⟨b,k,ν⟩=μ u/\x.cell? ⟨c,l,ν⟩=μ v/\x.cell? ⟨d,m,ν⟩=μ t)(hb:b≠g)(hc:c≠g)(hd:d≠g):
 ((x.setCell ⟨g,0,ν⟩ a1).setCell ⟨g,1,ν⟩ a2).cell? ⟨b,k,ν⟩=μ u/\((x.setCell ⟨g,0,ν⟩ a1).setCell ⟨g,1,ν⟩ a2).cell? ⟨c,l,ν⟩=μ v/\((x.setCell ⟨g,0,ν⟩ a1).setCell ⟨g,1,ν⟩ a2).cell? ⟨d,m,ν⟩=μ t:=
 ⟨nD (nD h.1 hb) hb,nD (nD h.2.1 hc) hc,nD (nD h.2.2 hd) hd⟩
