import Derived.Test.YtieklnlbljejdaaGreatDoorQ14
open Go.Value renaming int → ι, slice → σ, pointer → π, tuple → τ, nilIface → η
open Go.IntKind renaming i64 → κ
open Go.Ending renaming returned → ρ
open Go.Obj renaming cells → γ
open Option renaming none → ν, some → μ
open Go renaming World → dR, Calls → eT, Value → dT
open Go.Proofs.Tryz renaming prog → eU
open Go.RowKit renaming intOf → eV
open Go.Value renaming int → dY, ownBlock → dV
open Go.Instr renaming makeSlice → gQ, loadAt → fH
open Go.Act renaming put → gj
open List renaming setIfInBounds_toArray → gk, set_cons_zero → gp, set_cons_succ → gq
set_option maxRecDepth 100000
set_option maxHeartbeats 8000000
namespace Go.Proofs.YtieklnlbljejdaaGreatDoor
open Go.RowKit St
namespace Rt
variable {L:List oR} {P:Nat->Nat} {W W2 w w':World} {c:oR} {i q:Nat} {many p r:Int}
theorem MF(l:List oR)(c:oR):ki (l++ [c])=ki l++ [(c.a,c.pa,c.m),(c.b,c.pb,c.m)] :=by simp[ki]
theorem Qf(h:ot many r p=true)(h6:many<=6):1<=r/\r<=6/\0<=p/\p<=2:=by
 unfold ot at h;simp only[Bool.and_eq_true,decide_eq_true_eq]at h;omega
def qJ(many:Int)(c:oR)(E:List (Int×Int×Int)):Nat:=
 if c.m<1 \/20<c.m then 1
 else if ot many c.a c.pa=false then 1
 else if(kJ E c.a c.pa).isSome=true then 8
 else if ot many c.b c.pb=false then 1
 else if(kJ (E++ [(c.a,c.pa,c.m)]) c.b c.pb).isSome=true then 8
 else 0
theorem Gg(many:Int)(c:oR)(l:List oR)(E:List (Int×Int×Int)):xS many (c::l) E=if qJ many c E≠0 then qJ many c E else xS many l (E++ [(c.a,c.pa,c.m),(c.b,c.pb,c.m)]):=by
 conv=>lhs;unfold xS
 unfold qJ;split
 ·rfl
 ·split
  ·rfl
  ·split
   ·rfl
   ·split
    ·rfl
    ·split
     ·rfl
     ·rw[ae gO]
def Ao(w:dR)(many:Int)(L:List oR)(e:Ending)(w':dR):Prop:=(ng many L≠0->e=ρ (τ #[.map ν,jb (ng many L)]))/\(ng many L=0->∃b,e=ρ (τ #[.map (μ b),η])/\nV w' b (ki L)/\Co (ki L)/\w.heap.size<=b)/\eh w w'
theorem Ao.bad {f:Nat} (hf:ng many L=f)(Z:f≠0)(hb:eh w w'):Ao w many L (ρ (τ #[.map ν,jb f])) w':=⟨λ_=>by rw[hf],λe=>absurd (hf.symm.trans e) Z,hb⟩
theorem Ao.good {b:Nat} (hf:ng many L=0)(Y:nV w' b (ki L))(X:Co (ki L))(hb:w.heap.size<=b)(Z:eh w w'):Ao w many L (ρ (τ #[.map (μ b),η])) w':=⟨λe=>absurd hf e,λ_=>⟨b,rfl,Y,X,hb⟩,Z⟩
theorem WU(W:dR):(Instr.makeMap 184 ν).run eU W=.ok (.map (μ W.heap.size)) (W.alloc (.map #[] 0)):=rfl
theorem Bl(w:dR)(b:Nat)(E:List (Int×Int×Int))(T:Co E)(many r p:Int)(h6:many<=6)(W:dR)(hM:nV W b E)(hb:w.heap.size<=b)(y:eh w W)(h:b<W.heap.size)(Z Y:Nat)(m:Int)(D:W.cell? ⟨Z,0,ν⟩=μ (ι κ r)/\W.cell? ⟨Z,1,ν⟩=μ (ι κ p))(Q:W.cell? ⟨Y,4,ν⟩=μ (ι κ m)):
 eT eU 154 #[.agg #[ι κ r,ι κ p],ι κ many] W λe w1=>e=ρ (.bool (ot many r p))/\eh w w1/\(w1.cell? ⟨Z,0,ν⟩=μ (ι κ r)/\w1.cell? ⟨Z,1,ν⟩=μ (ι κ p))/\w1.cell? ⟨Y,4,ν⟩=μ (ι κ m)/\
  (ot many r p=true->(Instr.lookup 184 (.map (μ b)) (.agg #[ι κ r,ι κ p]) true).run eU w1=.ok (τ #[ι κ ((kJ E r p).getD 0),.bool (kJ E r p).isSome]) w1/\
   (kJ E r p=ν->∃X,(Instr.mapUpdate 184 (.map (μ b)) (.agg #[ι κ r,ι κ p]) (ι κ m)).run eU w1=.ok () X/\nV X b (E++ [(r,p,m)])/\Co (E++ [(r,p,m)])/\eh w X/\X.cell? ⟨Y,4,ν⟩=μ (ι κ m)/\b<X.heap.size)):=by
 refine(wA r p many W).mono ?_;rintro e w1 ⟨rfl,b1⟩;have V:=af _ _ D.1;have J:=af _ _ Q;have y1:=(ai (a:=⟨Y,4,ν⟩) (b1.block Y J)).trans Q;have u:=hM.keep (b1.block b h);refine⟨rfl,fY y b1,⟨(ai (a:=⟨Z,0,ν⟩) (b1.block Z V)).trans D.1,(ai (a:=⟨Z,1,ν⟩) (b1.block Z V)).trans D.2⟩,y1,λiF=> ?_⟩;have H:=Qf iF h6;refine⟨nV.look u T H,λhn=> ?_⟩;obtain⟨X,g1,g2,g3,g4,g5,A,g7⟩:=nV.store (m:=m) u T H hn;have G:Y≠b:=λe=>by
  subst e;obtain⟨es,clock,h1,_⟩:=hM;simp[World.cell?,h1]at Q
 have U:=fY y b1;refine⟨X,g1,g2,T.snoc H hn,⟨g3.trans U.os,g4.trans U.tape,g5.trans U.output,by rw[A];exact U.size,λk hk=> ?_⟩,(ai (a:=⟨Y,4,ν⟩) (g7 Y G)).trans y1,by rw[A];exact Nat.lt_of_lt_of_le h b1.size⟩;have M:k≠b:=dU;exact(g7 k M).trans (U.block k hk)
theorem xr(many:Int)(a:Option Addr)(cap:Nat)(L:List oR)(w:dR)(hL:B1 w a L)(hl:L.length<=1000):
 eT eU 95 #[ι κ many,σ a L.length cap] w λe w'=>Ao w many L e w':=by
 by_cases h1:many<1 \/6<many
 ·have D:ng many L=1:=by unfold ng;rw[ag h1]
  have Q:Hid _:=Ao.bad D dX (au _ w);clear hL D;generalize L.length=n at hl⊢;by_cases h2:many<1
  ·clear h1
   go_in
   go_wp2
   go_ret2
   exact Q.out
  ·have h3:6<many:=dU;clear h1
   go_in
   go_wp2
   go_ret2
   exact Q.out
 ·have h1a:¬many<1:=dU;have h1b:¬6<many:=dU;by_cases h9:9<L.length
  ·have D:ng many L=2:=by unfold ng;rw[ae h1,ag h9]
   have Q:Hid _:=Ao.bad D dX (au _ w);have h9':(9:Int)<(L.length:Int):=dU;clear hL D h1;generalize L.length=n at hl h9 h9'⊢
   go_in
   go_wp2
   go_ret2
   exact Q.out
  ·have HE:Hid (ng many L=xS many L []):=by show _=_;unfold ng;rw[ae h1,ae h9]
   have h9':¬(9:Int)<(L.length:Int):=dU;have HL:Hid _:=hL;obtain⟨n,hn⟩:=fW (L.length);have HN:Hid _:=hn;have JW:nV (w.alloc (.map #[] 0)) w.heap.size [] :=⟨#[],0,aW w _,rfl⟩
   have XM:=WU;obtain⟨bM,hbM⟩:=fW (w.heap.size);have H0:Hid (nV (w.alloc (.map #[] 0)) bM (ki (L.take 0))/\Co (ki (L.take 0))/\eh w (w.alloc (.map #[] 0))/\bM<(w.alloc (.map #[] 0)).heap.size/\xS many L [] =xS many (L.drop 0) (ki (L.take 0))):=by
    rw[hbM]at JW;exact⟨JW,λx hx=>by simp[ki]at hx,gN _ _,by rw[<-hbM];simp,rfl⟩
   have HbM:Hid _:=hbM;rw[hn]at hl h9'⊢;clear hL h1 h9 hn JW
   go_in
   go_wp2_with(fail)
   try rw[HbM.out]
   go_loopw [27] (λx wr=>∃j:Nat,j<=n/\x=ι κ j/\nV wr bM (ki (L.take j))/\Co (ki (L.take j))/\eh w wr/\bM<wr.heap.size/\xS many L [] =xS many (L.drop j) (ki (L.take j))) (λx _=>n-(eV x).toNat)
   case atStart=>exact⟨0,Nat.zero_le _,rfl,H0.out⟩
   case round=>
    obtain⟨j,hj,rfl,hm,D,hB,pO,hF⟩:=hrel;obtain⟨V,rfl⟩:∃V,V=wr:=⟨_,rfl⟩
    by_cases ka:j<n
    ·have m8:(j:Int)<(n:Int):=dU;have xQ:(0:Int)<=(j:Int):=dU;have hjL:j<L.length:=by rw[HN.out];exact ka
     obtain⟨b,off,rfl,k0,k1,k2,k3,k4⟩:=B1.below (w:=w) HL.out hB j hjL;have hd:L.drop j=L[j] ::L.drop (j+1):=aO hjL;have ht:ki (L.take (j+1))=ki (L.take j)++ [(L[j].a,L[j].pa,L[j].m),(L[j].b,L[j].pb,L[j].m)] :=by
      rw[ay hjL,MF]
     rw[hd,Gg]at hF;generalize L[j] =c at k0 k1 k2 k3 k4 hF ht;obtain⟨E,hEe⟩:=fW (ki (L.take j));rw[hEe]at hm D hF ht;have HT:Hid _:=ht;have Uh:Hid (∀f,qJ many c E=f->f≠0->ng many L=f):=by
      intro f h1 h2;rw[HE.out,hF,h1,ag h2]
     have aef:Hid (qJ many c E=0->xS many L [] =xS many (L.drop (j+1)) (E++ [(c.a,c.pa,c.m),(c.b,c.pb,c.m)])):=by
      intro h1;rw[hF,h1,ae gO]
     obtain⟨ca,X,T,U,cm⟩:=c;have bl:=af _ _ k0;have HM:Hid _:=hm;have HEO:Hid _:=D;have HB:Hid _:=hB;have HBL:Hid _:=pO;obtain⟨W1,j0⟩:=fW (V.alloc (γ #[ι κ ca,ι κ X,ι κ T,ι κ U,ι κ cm] 81));obtain⟨Y,hY⟩:=fW (V.heap.size);have j7:=gN V (γ #[ι κ ca,ι κ X,ι κ T,ι κ U,ι κ cm] 81);have MG:jc (V.alloc (γ #[ι κ ca,ι κ X,ι κ T,ι κ U,ι κ cm] 81)) V.heap.size #[ι κ ca,ι κ X,ι κ T,ι κ U,ι κ cm] 81:=jc.new V _ _;rw[j0]at j7 MG;rw[hY]at MG;have g0:W1.cell? ⟨Y,0,ν⟩=μ (ι κ ca):=MG.cell 0;have g1:W1.cell? ⟨Y,1,ν⟩=μ (ι κ X):=MG.cell 1;have g2:W1.cell? ⟨Y,2,ν⟩=μ (ι κ T):=MG.cell 2;have g3:W1.cell? ⟨Y,3,ν⟩=μ (ι κ U):=MG.cell 3;have g4:W1.cell? ⟨Y,4,ν⟩=μ (ι κ cm):=MG.cell 4;have gl:=MG.lt;have wQ:eh w W1:=fY hB j7;have tX:nV W1 bM E:=hm.keep (j7.block bM pO);have aeg:bM<W1.heap.size:=Nat.lt_of_lt_of_le pO j7.size;have P8:Hid _:=j0;have HY:Hid _:=hY;have C5:Hid _:=wQ;have HM1:Hid _:=tX;have aeh:Hid _:=aeg;have HBY:Hid _:=MG;have zc:=DY ca X T U cm W1;clear hm D hB pO hF hd ht hEe j7 MG wQ tX aeg j0 hY;by_cases xA:cm<1 \/20<cm
     ·have h:ng many L=1:=Uh.out 1 (by unfold qJ;rw[ag xA]) dX;have Q:Hid _:=Ao.bad (w':=W1) h dX C5.out;clear zc;by_cases BL:cm<1
      ·clear xA;go_wp2_with(fail);rw[P8.out]
       try rw[HY.out]
       go_wp2
       go_ret2
       exact Q.out
      ·have hm3:20<cm:=dU;clear xA;go_wp2_with(fail);rw[P8.out]
       try rw[HY.out]
       go_wp2
       go_ret2
       exact Q.out
     ·have BL:¬cm<1:=dU;have hm3:¬20<cm:=dU;have Pc:Hid _:=xA;clear xA;go_wp2_with(fail);rw[P8.out]
      try rw[HY.out]
      go_wp2_with(fail);refine zc.mono ?_;rintro e w2 ⟨rfl,be⟩;have HI0:Hid (nV w2 bM (E)/\Co (E)/\eh w w2/\bM<w2.heap.size/\w2.cell? ⟨Y,4,ν⟩=μ (ι κ cm)):=⟨nV.keep HM1.out (be.block bM aeh.out),HEO.out,fY C5.out be,Nat.lt_of_lt_of_le aeh.out be.size,(ai (a:=⟨Y,4,ν⟩) (be.block Y gl)).trans g4⟩
      clear zc be k0 k1 k2 k3 k4 g0 g1 g2 g3 g4 gl bl
      go_wp2
      go_loopw [42] (λx wr=>(x=ι κ 0/\(nV wr bM (E)/\Co (E)/\eh w wr/\bM<wr.heap.size/\wr.cell? ⟨Y,4,ν⟩=μ (ι κ cm))) \/(x=ι κ 1/\(nV wr bM (E++ [(ca,X,cm)])/\Co (E++ [(ca,X,cm)])/\eh w wr/\bM<wr.heap.size/\wr.cell? ⟨Y,4,ν⟩=μ (ι κ cm))/\(ot many ca X=true/\kJ E ca X=ν)) \/(x=ι κ 2/\(nV wr bM (E++ [(ca,X,cm)] ++ [(T,U,cm)])/\Co (E++ [(ca,X,cm)] ++ [(T,U,cm)])/\eh w wr/\bM<wr.heap.size/\wr.cell? ⟨Y,4,ν⟩=μ (ι κ cm))/\qJ many ⟨ca,X,T,U,cm⟩ E=0)) (λx _=>2-(eV x).toNat)
      case atStart=>exact .inl ⟨rfl,HI0.out⟩
      case round=>
       obtain⟨M,rfl⟩:∃M,M=wr:=⟨_,rfl⟩
       rcases hrel with⟨rfl,u⟩|⟨rfl,u,yv⟩|⟨rfl,u,yv⟩
       ·skip
        obtain⟨i1,i2,i3,i4,i5⟩:=u;have hix:=aaA ca X T U;obtain⟨W4,um⟩:=fW (M.alloc (γ #[ι κ ca,ι κ X] 192));obtain⟨Z,hZ⟩:=fW (M.heap.size);have ba:=gN M (γ #[ι κ ca,ι κ X] 192);have H:jc (M.alloc (γ #[ι κ ca,ι κ X] 192)) M.heap.size #[ι κ ca,ι κ X] 192:=jc.new M _ _;rw[um]at ba H;rw[hZ]at H;have z0:W4.cell? ⟨Z,0,ν⟩=μ (ι κ ca):=H.cell 0;have z1:W4.cell? ⟨Z,1,ν⟩=μ (ι κ X):=H.cell 1;have zl:=H.lt;have y4:W4.cell? ⟨Y,4,ν⟩=μ (ι κ cm):=(ai (a:=⟨Y,4,ν⟩) (ba.block Y (af _ _ i5))).trans i5;have Kh:=Bl w bM (E) i2 many ca X dU W4 (i1.keep (ba.block bM i4)) (by rw[HbM.out];exact Nat.le_refl _) (fY i3 ba) (Nat.lt_of_lt_of_le i4 ba.size) Z Y cm ⟨z0,z1⟩ y4;have JX:Hid _:=um;have HZ:Hid _:=hZ;clear i1 i2 i3 i4 i5 um hZ ba H;go_wp2_with(fail)
        try rw[JX.out]
        try rw[HZ.out]
        go_wp2_with(fail);refine Kh.mono ?_;rintro e w5 ⟨rfl,b5,⟨x0,x1⟩,x4,DZ⟩;have xl:=af _ _ x0;have yl:=af _ _ x4;clear Kh z0 z1 zl y4;cases G:ot many ca X with
        |false=>
         have h:ng many L=1:=Uh.out 1 (by unfold qJ;rw[ae Pc.out,ag G]) dX;have Q:Hid _:=Ao.bad (w':=w5) h dX b5;clear DZ b5
         go_wp2
         go_ret2
         exact Q.out
        |true=>
         obtain⟨oQ,jY⟩:=DZ G;clear DZ;cases J:kJ (E) ca X with
         |some m0=>
          have h:ng many L=8:=Uh.out 8 (by unfold qJ;rw[ae Pc.out,ae (by rw[G];simp),ag (by rw[J];rfl)]) dX;have Q:Hid _:=Ao.bad (w':=w5) h dX b5;rw[J]at oQ;have q1:(Option.getD (μ m0) 0)=m0:=rfl;have q2:(Option.isSome (μ m0))=true:=rfl;rw[q1,q2]at oQ;clear jY b5 G J h
          go_wp2
          go_ret2
          exact Q.out
         |none=>
          obtain⟨w6,u1,u2,u3,y,u5',A⟩:=jY J;have aaP:Hid (nV w6 bM (E++ [(ca,X,cm)])/\Co (E++ [(ca,X,cm)])/\eh w w6/\bM<w6.heap.size/\w6.cell? ⟨Y,4,ν⟩=μ (ι κ cm)):=⟨u2,u3,y,A,u5'⟩
          have HKK:Hid (ot many ca X=true/\kJ E ca X=ν):=⟨G,J⟩
          rw[J]at oQ;have q1:(Option.getD (ν:Option Int) 0)=0:=rfl;have q2:(Option.isSome (ν:Option Int))=false:=rfl;rw[q1,q2]at oQ;clear jY b5 u2 u3 y u5' A G J
          go_wp2
          go_roundw
          case rel=>exact .inr (.inl ⟨by go_num,aaP.out,HKK.out⟩)
          case measure=>simp[eV]
       ·obtain⟨Vd,sM⟩:=yv;obtain⟨i1,i2,i3,i4,i5⟩:=u;have hix:=aaB ca X T U;obtain⟨W4,um⟩:=fW (M.alloc (γ #[ι κ T,ι κ U] 192));obtain⟨Z,hZ⟩:=fW (M.heap.size);have ba:=gN M (γ #[ι κ T,ι κ U] 192);have H:jc (M.alloc (γ #[ι κ T,ι κ U] 192)) M.heap.size #[ι κ T,ι κ U] 192:=jc.new M _ _;rw[um]at ba H;rw[hZ]at H;have z0:W4.cell? ⟨Z,0,ν⟩=μ (ι κ T):=H.cell 0;have z1:W4.cell? ⟨Z,1,ν⟩=μ (ι κ U):=H.cell 1;have zl:=H.lt;have y4:W4.cell? ⟨Y,4,ν⟩=μ (ι κ cm):=(ai (a:=⟨Y,4,ν⟩) (ba.block Y (af _ _ i5))).trans i5;have Kh:=Bl w bM (E++ [(ca,X,cm)]) i2 many T U dU W4 (i1.keep (ba.block bM i4)) (by rw[HbM.out];exact Nat.le_refl _) (fY i3 ba) (Nat.lt_of_lt_of_le i4 ba.size) Z Y cm ⟨z0,z1⟩ y4;have JX:Hid _:=um;have HZ:Hid _:=hZ;clear i1 i2 i3 i4 i5 um hZ ba H;go_wp2_with(fail)
        try rw[JX.out]
        try rw[HZ.out]
        go_wp2_with(fail);refine Kh.mono ?_;rintro e w5 ⟨rfl,b5,⟨x0,x1⟩,x4,DZ⟩;have xl:=af _ _ x0;have yl:=af _ _ x4;clear Kh z0 z1 zl y4;cases G:ot many T U with
        |false=>
         have h:ng many L=1:=Uh.out 1 (by unfold qJ;rw[ae Pc.out,ae (by rw[Vd];simp),ae (by rw[sM];simp),ag G]) dX;have Q:Hid _:=Ao.bad (w':=w5) h dX b5;clear DZ b5
         go_wp2
         go_ret2
         exact Q.out
        |true=>
         obtain⟨oQ,jY⟩:=DZ G;clear DZ;cases J:kJ (E++ [(ca,X,cm)]) T U with
         |some m0=>
          have h:ng many L=8:=Uh.out 8 (by unfold qJ;rw[ae Pc.out,ae (by rw[Vd];simp),ae (by rw[sM];simp),ae (by rw[G];simp),ag (by rw[J];rfl)]) dX;have Q:Hid _:=Ao.bad (w':=w5) h dX b5;rw[J]at oQ;have q1:(Option.getD (μ m0) 0)=m0:=rfl;have q2:(Option.isSome (μ m0))=true:=rfl;rw[q1,q2]at oQ;clear jY b5 G J h
          go_wp2
          go_ret2
          exact Q.out
         |none=>
          obtain⟨w6,u1,u2,u3,y,u5',A⟩:=jY J;have aaP:Hid (nV w6 bM (E++ [(ca,X,cm)] ++ [(T,U,cm)])/\Co (E++ [(ca,X,cm)] ++ [(T,U,cm)])/\eh w w6/\bM<w6.heap.size/\w6.cell? ⟨Y,4,ν⟩=μ (ι κ cm)):=⟨u2,u3,y,A,u5'⟩
          have HKK:Hid (qJ many ⟨ca,X,T,U,cm⟩ E=0):=by show _=_;unfold qJ;rw[ae Pc.out,ae (by rw[Vd];simp),ae (by rw[sM];simp),ae (by rw[G];simp),ae (by rw[J];simp)]
          rw[J]at oQ;have q1:(Option.getD (ν:Option Int) 0)=0:=rfl;have q2:(Option.isSome (ν:Option Int))=false:=rfl;rw[q1,q2]at oQ;clear jY b5 u2 u3 y u5' A G J
          go_wp2
          go_roundw
          case rel=>exact .inr (.inr ⟨by go_num,aaP.out,HKK.out⟩)
          case measure=>simp[eV]
       ·obtain⟨i1,i2,i3,i4,i5⟩:=u;have HN2:Hid (nV M bM (ki (L.take (j+1)))/\Co (ki (L.take (j+1)))/\eh w M/\bM<M.heap.size/\xS many L [] =xS many (L.drop (j+1)) (ki (L.take (j+1)))):=by
         show _/\_/\_/\_/\_;rw[HT.out];have e5:E++ [(ca,X,cm)] ++ [(T,U,cm)] =E++ [(ca,X,cm),(T,U,cm)] :=gO;rw[e5]at i1 i2;exact⟨i1,i2,i3,i4,aef.out yv⟩
        clear i1 i2 i3 i4 i5 yv
        go_wp2
        go_roundw
        case rel=>exact⟨j+1,dU,by go_num,HN2.out⟩
        case measure=>simp[eV];omega
    ·have yt:¬(j:Int)<(n:Int):=dU;obtain rfl:j=n:=dU;have e9:L.take j=L:=by rw[<-HN.out];exact bX
     have e8:L.drop j=[] :=by rw[<-HN.out];exact List.drop_length
     rw[e9]at hm D hF;rw[e8]at hF;have Nd:ng many L=0:=by rw[HE.out,hF];rfl
     have Q:Hid _:=Ao.good Nd hm D (by rw[HbM.out];exact Nat.le_refl _) hB;clear hm D hB pO hF Nd e9 e8
     go_wp2
     go_ret2
     exact Q.out
theorem tD(many:Int)(a:Option Addr)(cap:Nat)(L:List oR)(w:dR)(V:B1 w a L)(hl:L.length<=1000):
 eT eU 38 #[ι κ many,σ a L.length cap] w λe w'=>e=ρ (jb (ng many L))/\eh w w':=by
 have X:=xr many a cap L w V hl;generalize L.length=n at X⊢;have Z:eT eU 95 #[ι κ many,σ a n cap] w λe w'=>∃v,e=ρ (τ #[.map v,jb (ng many L)])/\eh w w':=by
  refine X.mono ?_;rintro e w1 ⟨U,Z,hb⟩;by_cases Y:ng many L=0
  ·obtain⟨b,rfl,_⟩:=Z Y;exact⟨μ b,by rw[Y];rfl,hb⟩
  ·exact⟨ν,U Y,hb⟩
 clear X V;generalize jb (ng many L)=ev at Z⊢
 go_in
 go_wp2_with(fail);refine Z.mono ?_;rintro e w1 ⟨v,rfl,hb⟩;have T:Hid _:=hb;clear Z hb
 go_wp2
 go_ret;exact⟨rfl,T.out⟩
def WV(W:dR)(i:Nat)(ms:Nat->Int)(P lo hi:Nat):Prop:=∃z:Zt,z.R=P/\lJ W z (jE ((i:Int)+1) 3 ms)/\(∀b,z.oJ b->lo<=b/\b<hi)/\lo<=hi/\hi<=W.heap.size/\∀b,(b<lo \/(hi<=b/\b<W.heap.size))->z.fm.no b
theorem WV.step {W':dR} {ms:Nat->Int} {P lo hi:Nat} (h:WV W i ms P lo hi)(hs:W.heap.size<=W'.heap.size)(X:∀b,lo<=b->b<hi->W'.heap[b]? =W.heap[b]?):WV W' i ms P lo hi:=by
 obtain⟨z,T,V,Y,Q,U,Z⟩:=h;refine⟨z.plus λb=>W.heap.size<=b/\b<W'.heap.size,T,V.besides hs (λb hb hc=> ?_) _ (λb e=>e),Y,Q,Nat.le_trans U hs,λb hb=> ?_⟩
 ·rcases hc with hc|hc
  ·have:¬(b<lo \/(hi<=b/\b<W.heap.size)):=λe=>hc (Z b e);exact X b dU dU
  ·have:=Y b (.inl hc);exact X b this.1 this.2
 ·show z.fm.no b \/_;by_cases e:b<W.heap.size
  ·exact .inl (Z b dU)
  ·exact .inr dU
def ux:List oR->List dT
 |[] =>[]
 |c::l=>[.int .i64 c.a,.int .i64 c.pa,.int .i64 c.b,.int .i64 c.pb,.bool false,.slice none 0 0,.slice none 0 0] ++ux l
theorem Ki:∀(l m:List oR),ux (l++m)=ux l++ux m
 |[],_=>rfl
 |c::l,m=>by
  show _++ux (l++m)=_;rw[Ki l m,<-aD];rfl
theorem NY:∀(l:List oR) (j i:Nat) (Z:j<l.length),i<7->(ux l)[j*7+i]? =[ι κ l[j].a,ι κ l[j].pa,ι κ l[j].b,ι κ l[j].pb,(.bool false:dT),σ ν 0 0,σ ν 0 0][i]?
 |c::l,0,i,_,hi=>by
  show([_,_,_,_,_,_,_] ++ux l)[0*7+i]? =_;rw[Nat.zero_mul,Nat.zero_add,bJ (by simpa using hi)];rfl
 |c::l,j+1,i,Z,hi=>by
  show([_,_,_,_,_,_,_] ++ux l)[(j+1)*7+i]? =_;rw[bw (by simp;omega)];have e:(j+1)*7+i-List.length [dY .i64 c.a,ι κ c.pa,ι κ c.b,ι κ c.pb,.bool false,σ ν 0 0,σ ν 0 0] =j*7+i:=by simp;omega
  rw[e];exact NY l j i (by simpa using Z) hi
theorem Ui(l:List oR):∀u∈ux l,u.oneCell'=true:=by
 induction l with
 |nil=>intro u Z;simp[ux]at Z
 |cons c l ih=>
  intro u Z;have Y:u∈ [dY .i64 c.a,ι κ c.pa,ι κ c.b,ι κ c.pb,.bool false,σ ν 0 0,σ ν 0 0] ++ux l:=Z;rcases av.1 Y with h|h
  ·simp at h;rcases h with rfl|rfl|rfl|rfl|rfl|rfl<;>rfl
  ·exact ih u h
def vS(P:Nat->Nat)(q:Nat):List dT:=(List.range q).map λi=>π (μ ⟨P i,0,ν⟩)
theorem MH(P:Nat->Nat)(q:Nat):vS P (q+1)=vS P q++ [π (μ ⟨P q,0,ν⟩)] :=by simp[vS,List.range_succ]
theorem Kj {P':Nat->Nat} (h:∀i,i<q->P i=P' i):vS P q=vS P' q:=by
 unfold vS;refine List.map_congr_left λi hi=> ?_;rw[h i (aS.1 hi)]
theorem Uj(P:Nat->Nat)(h:i<q):(vS P q)[i]? =μ (π (μ ⟨P i,0,ν⟩)):=by simp[vS,h]
def oT(m:Nat):Array dT:=Array.replicate m (σ ν 0 0)
structure D3(w W:dR)(N gI bM m:Nat)(E:List (Int×Int×Int))(ms:Nat->Nat->Int)(q j:Nat)(L:List oR)(v v2:dT)(P lo hi:Nat->Nat):Prop where
 ny:eh w W
 nb:jc W N #[v,σ (μ ⟨gI,0,ν⟩) m m,.map (μ bM),v2] 190
 gi:jc W gI (oT m) 53
 mp:nV W bM E
 row:Row W 1 v q (vS P q)
 E8:Row W 7 v2 j (ux (L.take j))
 ne:N≠gI/\N≠bM/\gI≠bM/\w.heap.size<=N/\w.heap.size<=gI/\w.heap.size<=bM
 fv:∀k,v.ownBlock=μ k->w.heap.size<=k/\k≠N/\k≠gI/\k≠bM
 Kk:∀k,v2.ownBlock=μ k->w.heap.size<=k/\k≠N/\k≠gI/\k≠bM/\v.ownBlock≠μ k
 Vv:∀i,i<q->WV W i (ms i) (P i) (lo i) (hi i)
 lw:∀i,i<q->w.heap.size<=lo i
 sep:∀i k,i<k->k<q->hi i<=lo k
 out:∀i,i<q->∀k,(k=N \/k=gI \/k=bM \/v.ownBlock=μ k \/v2.ownBlock=μ k)->k<lo i \/hi i<=k
section
variable {w W W':World} {N gI bM m:Nat} {E:List (Int×Int×Int)} {ms:Nat->Nat->Int} {q j:Nat} {L:List oR} {v v2:Value} {P lo hi:Nat->Nat}
theorem D3.wU(h:D3 w W N gI bM m E ms q j L v v2 P lo hi):N<W.heap.size:=h.nb.lt
theorem D3.Qg(h:D3 w W N gI bM m E ms q j L v v2 P lo hi):bM<W.heap.size:=by
 obtain⟨es,clock,Z,_⟩:=h.mp;exact(aw.1 Z).1
theorem D3.below(h:D3 w W N gI bM m E ms q j L v v2 P lo hi)(hb:eh W W'):D3 w W' N gI bM m E ms q j L v v2 P lo hi:=
 ⟨fY h.ny hb,h.nb.below hb,h.gi.below hb,h.mp.keep (hb.block bM h.Qg),h.row.below hb,h.E8.below hb,h.ne,h.fv,h.Kk,λi Z=>(h.Vv i Z).step hb.size (λb _ h2=>hb.block b (by
  obtain⟨_,_,_,_,_,h5,_⟩:=h.Vv i Z;omega)),h.lw,h.sep,h.out⟩
theorem D3.Aa(h:D3 w W N gI bM m E ms q j L v v2 P lo hi) {W1:dR} {z:Zt} (hz:lJ W1 z (jE ((q:Int)+1) 3 (ms q)))(hb:eh W W1)(Q:∀b,z.oJ b->W.heap.size<=b)(Yy:∀b,b<W.heap.size->z.fm.no b)
 {o:Obj} {v':dT} (hr:Row W2 1 v' (q+1) (vS P q++ [π (μ ⟨z.R,0,ν⟩)])) (G:(W1.alloc o).grownBy W2 v.ownBlock) (hv:∀k,v'.ownBlock=μ k->v.ownBlock=μ k \/W1.heap.size<=k):
 D3 w (W2.setCell ⟨N,0,ν⟩ v') N gI bM m E ms (q+1) j L v' v2 (jK P q z.R) (jK lo q W.heap.size) (jK hi q W1.heap.size):=by
 have J:W1.heap.size<=W2.heap.size:=Nat.le_trans gO G.size;have Uk:∀b,b<W1.heap.size->v.ownBlock≠μ b->W2.heap[b]? =W1.heap[b]? :=λb V D=>(G.block b (by simp;omega) (λe=>D e.symm)).trans (aT W1 o b V);have M:∀b,b<W1.heap.size->v.ownBlock≠μ b->b≠N->(W2.setCell ⟨N,0,ν⟩ v').heap[b]? =W1.heap[b]? :=λb V D hN=>(aq _ _ _ b hN).trans (Uk b V D);have Z:=h.below hb;have u:v.ownBlock≠μ N:=λe=>(h.fv N e).2.1 rfl;have y:∀k,v'.ownBlock=μ k->k≠N:=λk e A=>by
  rcases hv k e with Y|Y
  ·exact(h.fv k Y).2.1 A
  ·have:=Z.wU;omega
 have Dz:eh w W2:=by
  have Y:=(Z.ny.alloc Z.ny.size o).grown G (by simp;have:=Z.ny.size;omega) (λk e=>(h.fv k e).1);exact Y
 have anI:=h.ny.size;have pX:∀i,i<q->lo i<=hi i/\hi i<=W.heap.size:=λi U=>by
  obtain⟨_,_,_,_,h4,h5,_⟩:=h.Vv i U;exact⟨h4,h5⟩
 have mK:lJ (W2.setCell ⟨N,0,ν⟩ v') (z.plus λb=>W1.heap.size<=b/\b<(W2.setCell ⟨N,0,ν⟩ v').heap.size) (jE ((q:Int)+1) 3 (ms q)):=by
  refine hz.besides (by simpa using J) (λb V hc=> ?_) _ (λb e=>e);have hbW:W.heap.size<=b:=by
   rcases hc with hc|hc
   ·exact Nat.le_of_not_lt (λe=>hc (Yy b e))
   ·exact Q b (.inl hc)
  exact M b V (λe=>by have:=h.row.lt b e;omega) (λe=>by have:=h.wU;omega)
 refine⟨Dz.setCell (by show w.heap.size<=N;exact h.ne.2.2.2.1) _,?_,Z.gi.keep (M gI Z.gi.lt (λe=>(h.fv gI e).2.2.1 rfl) (λe=>h.ne.1 e.symm)),Z.mp.keep (M bM Z.Qg (λe=>(h.fv bM e).2.2.2 rfl) (λe=>h.ne.2.1 e.symm)),?_,Z.E8.keep (by simpa using J) (λk e=>M k (Z.E8.lt k e) (h.Kk k e).2.2.2.2 (h.Kk k e).2.1),h.ne,λk e=> ?_,λk e=> ?_,λi U=> ?_,λi U=> ?_,λi k T hk=> ?_,λi U k hk=> ?_⟩
 ·have Y:jc W2 N #[v,σ (μ ⟨gI,0,ν⟩) m m,.map (μ bM),v2] 190:=Z.nb.keep (Uk N Z.wU u);exact Y.set 0 v'
 ·rw[MH,iu,Kj (P':=P) (λi U=>iq _ _ dU)];exact hr.keep gO (λk e=>aq _ _ _ k (y k e))
 ·rcases hv k e with Y|Y
  ·exact h.fv k Y
  ·have a1:=Z.wU;have a2:=Z.gi.lt;have a3:=Z.Qg;have a4:=Z.ny.size;omega
 ·refine⟨(h.Kk k e).1,(h.Kk k e).2.1,(h.Kk k e).2.2.1,(h.Kk k e).2.2.2.1,λA=> ?_⟩;rcases hv k A with Y|Y
  ·exact(h.Kk k e).2.2.2.2 Y
  ·have:=Z.E8.lt k e;omega
 ·by_cases X:i=q
  ·subst X;rw[iu,iu,iu];refine⟨z.plus λb=>W1.heap.size<=b/\b<(W2.setCell ⟨N,0,ν⟩ v').heap.size,rfl,mK,λb V=>⟨Q b V,hz.xV rfl V⟩,hb.size,by simpa using J,λb V=> ?_⟩;show z.fm.no b \/_;rcases V with e|e
   ·exact .inl (Yy b e)
   ·exact .inr e
  ·rw[iq _ _ X,iq _ _ X,iq _ _ X];have H:i<q:=dU;refine(Z.Vv i H).step (by simpa using J) (λb b1 b2=> ?_);have b3:=(pX i H).2;have hs:=hb.size;refine M b dU (λe=> ?_) (λe=> ?_)
   ·have:=h.out i H b (.inr (.inr (.inr (.inl e))));omega
   ·have:=h.out i H b (.inl e);omega
 ·by_cases X:i=q
  ·subst X;rw[iu];exact h.ny.size
  ·rw[iq _ _ X];exact h.lw i dU
 ·by_cases ek:k=q
  ·subst ek;rw[iq _ _ dU,iu];exact(pX i T).2
  ·rw[iq _ _ dU,iq _ _ ek];exact h.sep i k T dU
 ·have hold:(k=N \/k=gI \/k=bM \/v.ownBlock=μ k \/v2.ownBlock=μ k) \/W1.heap.size<=k:=by
   rcases hk with e|e|e|e|e
   ·exact .inl (.inl e)
   ·exact .inl (.inr (.inl e))
   ·exact .inl (.inr (.inr (.inl e)))
   ·exact(hv k e).imp_left (λe=>.inr (.inr (.inr (.inl e))))
   ·exact .inl (.inr (.inr (.inr (.inr e))))
  by_cases X:i=q
  ·subst X;rw[iu,iu];rcases hold with e|e
   ·left;rcases e with e|e|e|e|e
    ·have:=h.wU;omega
    ·have:=h.gi.lt;omega
    ·have:=h.Qg;omega
    ·exact h.row.lt k e
    ·exact h.E8.lt k e
   ·exact .inr e
  ·rw[iq _ _ X,iq _ _ X];rcases hold with e|e
   ·exact h.out i dU k e
   ·have:=(pX i dU).2;have hs:=hb.size;exact .inr dU
theorem D3.NQ(h:D3 w W N gI bM m E ms q j L v v2 P lo hi) {v':dT} (G:L.take (j+1)=L.take j++ [c])(hr:Row W2 7 v' (j+1) (ux (L.take j)++ux [c]))(V:W.grownBy W2 v2.ownBlock)(hv:∀k,v'.ownBlock=μ k->v2.ownBlock=μ k \/W.heap.size<=k):
 D3 w (W2.setCell ⟨N,3,ν⟩ v') N gI bM m E ms q (j+1) L v v' P lo hi:=by
 have H:∀b,b<W.heap.size->v2.ownBlock≠μ b->W2.heap[b]? =W.heap[b]? :=λb M T=>V.block b M (λe=>T e.symm);have U:∀b,b<W.heap.size->v2.ownBlock≠μ b->b≠N->(W2.setCell ⟨N,3,ν⟩ v').heap[b]? =W.heap[b]? :=λb M T A=>(aq _ _ _ b A).trans (H b M T);have J:v2.ownBlock≠μ N:=λe=>(h.Kk N e).2.1 rfl;have Q:∀k,v'.ownBlock=μ k->k≠N:=λk e X=>by
  rcases hv k e with Y|Y
  ·exact(h.Kk k Y).2.1 X
  ·have:=h.wU;omega
 have D:eh w W2:=h.ny.grown V h.ny.size (λk e=>(h.Kk k e).1);refine⟨D.setCell (by show w.heap.size<=N;exact h.ne.2.2.2.1) _,?_,h.gi.keep (U gI h.gi.lt (λe=>(h.Kk gI e).2.2.1 rfl) (λe=>h.ne.1 e.symm)),h.mp.keep (U bM h.Qg (λe=>(h.Kk bM e).2.2.2.1 rfl) (λe=>h.ne.2.1 e.symm)),h.row.keep (by simpa using V.size) (λk e=>U k (h.row.lt k e) (λX=>(h.Kk k X).2.2.2.2 e) (h.fv k e).2.1),?_,h.ne,h.fv,λk e=> ?_,λi Z=> ?_,h.lw,h.sep,λi Z k y=> ?_⟩
 ·have Y:jc W2 N #[v,σ (μ ⟨gI,0,ν⟩) m m,.map (μ bM),v2] 190:=h.nb.keep (H N h.wU J);exact Y.set 3 v'
 ·rw[G,Ki];exact hr.keep gO (λk e=>aq _ _ _ k (Q k e))
 ·rcases hv k e with Y|Y
  ·exact h.Kk k Y
  ·have a1:=h.wU;have a2:=h.gi.lt;have a3:=h.Qg;have a4:=h.ny.size;refine⟨dU,dU,dU,dU,λX=> ?_⟩;have:=h.row.lt k X;omega
 ·obtain⟨_,_,_,_,h4,u,_⟩:=h.Vv i Z;refine(h.Vv i Z).step (by simpa using V.size) (λb b1 b2=>U b dU (λe=> ?_) (λe=> ?_))
  ·have:=h.out i Z b (.inr (.inr (.inr (.inr e))));omega
  ·have:=h.out i Z b (.inl e);omega
 ·obtain⟨_,_,_,_,h4,u,_⟩:=h.Vv i Z;rcases y with e|e|e|e|e
  ·exact h.out i Z k (.inl e)
  ·exact h.out i Z k (.inr (.inl e))
  ·exact h.out i Z k (.inr (.inr (.inl e)))
  ·exact h.out i Z k (.inr (.inr (.inr (.inl e))))
  ·rcases hv k e with Y|Y
   ·exact h.out i Z k (.inr (.inr (.inr (.inr Y))))
   ·exact .inr dU
end
def ox(E:List (Int×Int×Int)):List (Int×Int):=E.map λx=>(x.1,x.2.1)
theorem Ap:∀ {E:List (Int×Int×Int)} {r p:Int},(kJ E r p).isSome=true↔(r,p)∈ox E
 |[],r,p=>by simp[kJ,ox]
 |x::E,r,p=>by
  unfold kJ;have ih:=Ap (E:=E) (r:=r) (p:=p);split
  ·rename_i h
   simp[ox,h.1,h.2]
  ·rename_i h
   rw[ih];constructor
   ·intro Y;exact cS _ Y
   ·intro Y;have Z:(r,p)=(x.1,x.2.1) \/(r,p)∈ox E:=by
     have:(r,p)∈(x.1,x.2.1)::ox E:=Y;simpa using this
    rcases Z with Z|Z
    ·injection Z with V X
     exact absurd ⟨V.symm,X.symm⟩ h
    ·exact Z
theorem Ul {E:List (Int×Int×Int)} (h:qJ many c E=0):(1<=c.m/\c.m<=20)/\ot many c.a c.pa=true/\ot many c.b c.pb=true/\(c.a,c.pa)∉ox E/\(c.b,c.pb)∉ox (E++ [(c.a,c.pa,c.m)]):=by
 unfold qJ at h;split at h
 ·simp at h
 ·split at h
  ·simp at h
  ·split at h
   ·simp at h
   ·split at h
    ·simp at h
    ·split at h
     ·simp at h
     ·rename_i h1 Z V X Y
      refine⟨dU,by simpa using Z,by simpa using X,λe=>V (Ap.2 e),λe=>Y (Ap.2 e)⟩
theorem NZ {many:Int}:∀(L:List oR) (E:List (Int×Int×Int)),xS many L E=0->(ox E).Nodup->(∀c∈L,(1<=c.m/\c.m<=20)/\ot many c.a c.pa=true/\ot many c.b c.pb=true)/\(ox (E++ki L)).Nodup
 |[],E,_,hn=>⟨λc hc=>by simp at hc,by simpa[ki]using hn⟩
 |c::L,E,h,hn=>by
  rw[Gg]at h;have Z:qJ many c E=0:=by
   rcases Nat.eq_zero_or_pos (qJ many c E)with e|e
   ·exact e
   ·rw[ag dU]at h;omega
  rw[Z,ae gO]at h;obtain⟨g1,T,V,J,Y⟩:=Ul Z;have M:(ox (E++ [(c.a,c.pa,c.m),(c.b,c.pb,c.m)])).Nodup:=by
   have U:ox (E++ [(c.a,c.pa,c.m),(c.b,c.pb,c.m)])=(ox E++ [(c.a,c.pa)])++ [(c.b,c.pb)] :=by simp[ox]
   have H:ox (E++ [(c.a,c.pa,c.m)])=ox E++ [(c.a,c.pa)] :=by simp[ox]
   rw[U];rw[H]at Y;refine bE.2 ⟨bE.2 ⟨hn,gO,?_⟩,gO,?_⟩
   ·intro x hx y hy e;have:y=(c.a,c.pa):=by simpa using hy
    exact J (by rw[<-this,<-e];exact hx)
   ·intro x hx y hy e;have:y=(c.b,c.pb):=by simpa using hy
    exact Y (by rw[<-this,<-e];exact hx)
  obtain⟨X,Q⟩:=NZ L _ h M;refine⟨λx hx=> ?_,?_⟩
  ·rcases aQ.1 hx with rfl|hx
   ·exact⟨g1,T,V⟩
   ·exact X x hx
  ·have e:E++ki (c::L)=E++ [(c.a,c.pa,c.m),(c.b,c.pb,c.m)] ++ki L:=by simp[ki]
   rw[e];exact Q
structure qk(many:Int)(L:List oR):Prop where
 m:1<=many/\many<=6
 l:L.length<=9
 c:∀c∈L,(1<=c.m/\c.m<=20)/\ot many c.a c.pa=true/\ot many c.b c.pb=true
 nd:(ox (ki L)).Nodup
theorem uy(h:ng many L=0):qk many L:=by
 unfold ng at h;split at h
 ·simp at h
 ·split at h
  ·simp at h
  ·obtain⟨Y,Z⟩:=NZ L [] h (by simp[ox]);exact⟨dU,dU,Y,by simpa using Z⟩
theorem pw(h:ot many r p=true):1<=r/\r<=many/\0<=p/\p<3:=by
 unfold ot at h;simp only[Bool.and_eq_true,decide_eq_true_eq]at h;omega
theorem Qh {x:Int×Int×Int} (h:x∈ki L):∃c∈L,x=(c.a,c.pa,c.m) \/x=(c.b,c.pb,c.m):=by
 unfold ki at h;obtain⟨c,hc,Z⟩:=aV.1 h;exact⟨c,hc,by simpa using Z⟩
theorem qk.ms(h:qk many L)(i p:Nat):1<=pH L i p/\pH L i p<=20:=by
 unfold pH;cases hl:kJ (ki L) ((i:Int)+1) (p:Int)with
 |none=>exact⟨dX,dX⟩
 |some m=>
  obtain⟨c,hc,Z⟩:=Qh (FY hl);have V:=(h.c c hc).1;show 1<=m/\m<=20;rcases Z with Z|Z
  ·injection Z with _ X
   injection X with _ Y
   rw[Y];exact V
  ·injection Z with _ X
   injection X with _ Y
   rw[Y];exact V
theorem qk.tells(h:qk many L)(m:Nat)(Z:Co (ki L)):Tw (ki L) m (pH L):=⟨λi p _ _=>⟨rfl,h.ms i p⟩,Z⟩
theorem zd(L:List oR)(c d:Nat)(hc:c<L.length):(rP L c).e d=if d=0 then((L[c].a-1).toNat,L[c].pa.toNat)else((L[c].b-1).toNat,L[c].pb.toNat):=by
 unfold rP oR.at;simp only[List.getD_eq_getElem?_getD,List.getElem?_eq_getElem hc,Option.getD_some]
theorem qk.en(h:qk many L)(c d:Nat)(hc:c<L.length):((rP L c).e d).1<many.toNat/\((rP L c).e d).2<3:=by
 rw[zd L c d hc];obtain⟨_,Y,Z⟩:=h.c L[c] (aK hc);have e1:=pw Y;have e2:=pw Z;split
 ·simp only;omega
 ·simp only;omega
theorem D4:∀(L:List oR) (c d:Nat) (hc:c<L.length),d<2->(ox (ki L))[2*c+d]? =μ (if d=0 then(L[c].a,L[c].pa)else(L[c].b,L[c].pb))
 |x::L,0,d,_,hd=>by
  have:d=0 \/d=1:=dU;rcases this with rfl|rfl<;>rfl
 |x::L,c+1,d,hc,hd=>by
  have e:ox (ki (x::L))=[(x.a,x.pa),(x.b,x.pb)] ++ox (ki L):=by simp[ox,ki]
  rw[e,bw (by simp;omega)];have Z:2*(c+1)+d-List.length [(x.a,x.pa),(x.b,x.pb)] =2*c+d:=by simp;omega
  rw[Z];exact D4 L c d (by simpa using hc) hd
theorem Qi {α:Type} {l:List α} (h:l.Nodup) {j:Nat} (hi:i<l.length)(X:j<l.length)(e:l[i] =l[j]):i=j:=by
 have Y:=dr.1 h;rcases Nat.lt_trichotomy i j with Z|Z|Z
 ·exact absurd e (Y i j hi X Z)
 ·exact Z
 ·exact absurd e.symm (Y j i X hi Z)
theorem qk.ds(h:qk many L)(c d c' d':Nat)(hc:c<L.length)(hd:d<2)(U:c'<L.length)(J:d'<2)(Z:(rP L c).e d=(rP L c').e d'):c=c'/\d=d':=by
 have k1:=D4 L c d hc hd;have k2:=D4 L c' d' U J;rw[zd L c d hc,zd L c' d' U]at Z;obtain⟨_,H,M⟩:=h.c L[c] (aK hc);obtain⟨_,b1,b2⟩:=h.c L[c'] (aK U);have e1:=pw H;have e2:=pw M;have e3:=pw b1;have e4:=pw b2;have Q:(if d=0 then(L[c].a,L[c].pa)else(L[c].b,L[c].pb))=(if d'=0 then(L[c'].a,L[c'].pa)else(L[c'].b,L[c'].pb)):=by
  by_cases X:d=0
  ·by_cases Y:d'=0
   ·rw[ag X,ag Y]at Z⊢;injection Z with V T
    rw[show L[c].a=L[c'].a by omega,show L[c].pa=L[c'].pa by omega]
   ·rw[ag X,ae Y]at Z⊢;injection Z with V T
    rw[show L[c].a=L[c'].b by omega,show L[c].pa=L[c'].pb by omega]
  ·by_cases Y:d'=0
   ·rw[ae X,ag Y]at Z⊢;injection Z with V T
    rw[show L[c].b=L[c'].a by omega,show L[c].pb=L[c'].pa by omega]
   ·rw[ae X,ae Y]at Z⊢;injection Z with V T
    rw[show L[c].b=L[c'].b by omega,show L[c].pb=L[c'].pb by omega]
 rw[Q]at k1;obtain⟨l1,v1⟩:=aI.1 k1;obtain⟨l2,v2⟩:=aI.1 k2;have:=Qi h.nd l1 l2 (v1.trans v2.symm);omega
theorem ze(h:qk many L):jT (jH many.toNat L) 0 0:=by
 have hm:=h.m;refine⟨by show 1<=many.toNat;omega,by show many.toNat<=6;omega,h.l,λc d hc _=>h.en c d hc,λc d c' d' hc hd Z Y e=>h.ds c d c' d' hc hd Z Y e,λi p _ _=>h.ms i p,λi _=>⟨rfl,rfl⟩,λi hi=> ?_,λ_ _=>⟨Int.le_refl _,Int.le_refl _⟩,λ_ _ _ _=>Nat.zero_le _,λ_ _=>Nat.le_refl _,λi p _ _ _=>qg _ _ p,λ_ _=>⟨Nat.le_refl _,λ_ _=>Nat.zero_le _⟩⟩;have kB:i<many.toNat:=hi;exact y8 dU (λp _=>h.ms i p)
theorem Row.spare {sz g n n' cap:Nat} {xs:List dT} (h:Row w sz (σ (μ ⟨g,0,ν⟩) n' cap) n xs)(j:Nat)(X:j<n*sz):w.frozen? ⟨g,j,ν⟩=false:=by
 rcases h.2 with⟨e,_⟩|⟨g',jn,e,_,Z,_,_,Y⟩
 ·simp at e
 ·simp at e;obtain⟨rfl,rfl,rfl⟩:=e;exact(Y j (Nat.lt_of_lt_of_le X (Nat.mul_le_mul_right sz Z))).2
def aaR(g:Option Nat)(n c:Nat):dT:=match g with|none=>.slice none 0 0|some g=>.slice (some ⟨g,0,none⟩) n c
theorem D3.done {N gI bM:Nat} {v v2:dT} {lo hi:Nat->Nat} (iF:qk many L)(hE:Co (ki L))(h:D3 w W N gI bM many.toNat (ki L) (pH L) many.toNat L.length L v v2 P lo hi)(hw:0<w.heap.size)(X:Nat->Prop)(hX:∀b,X b->b<w.heap.size):
 ∃y,ju W y (jH many.toNat L)/\y.N=N/\(∀b,y.all many.toNat b->w.heap.size<=b)/\∀b,y.ext b↔X b:=by
 have hm:=iF.m;obtain⟨m,Tq⟩:=fW (many.toNat);have xA:1<=m/\m<=6:=dU;have zC:=λc d (hc:c<L.length) (_:d<2)=>iF.en c d hc;rw[Tq]at h zC⊢;have WH:∃gR sT,v=σ (μ ⟨gR,0,ν⟩) m sT:=by
  rcases h.row.2 with⟨_,e2⟩|⟨g,c,e,_⟩
  ·omega
  ·exact⟨g,c,e⟩
 obtain⟨gR,sT,rfl⟩:=WH;have hgC:∃gC vH,v2=aaR gC L.length vH/\(gC=ν->L.length=0):=by
  rcases h.E8.2 with⟨e,e2⟩|⟨g,c,e,_⟩
  ·exact⟨ν,0,e,λ_=>e2⟩
  ·exact⟨μ g,c,e,λe=>by simp at e⟩
 obtain⟨gC,vH,rfl,Je⟩:=hgC;have hex:∀i,∃z:Zt,i<m->z.R=P i/\lJ W z (jE ((i:Int)+1) 3 (pH L i))/\(∀b,z.oJ b->lo i<=b/\b<hi i)/\∀b,(b<lo i \/(hi i<=b/\b<W.heap.size))->z.fm.no b:=λi=>by
  by_cases V:i<m
  ·obtain⟨z,Y,Z,T,_,_,h6⟩:=h.Vv i V;exact⟨z,λ_=>⟨Y,Z,T,h6⟩⟩
  ·obtain⟨z,_⟩:=h.Vv 0 dU;exact⟨z,λe=>absurd e V⟩
 obtain⟨z,A⟩:=Classical.skolem.1 hex;have hhi:∀i,i<m->lo i<=hi i/\hi i<=W.heap.size:=λi V=>by
  obtain⟨_,_,_,_,U,h5,_⟩:=h.Vv i V;exact⟨U,h5⟩
 obtain⟨y,hy⟩:∃y:Yt,y={N:=N,gR:=gR,sT:=sT,gI:=gI,xT:=m,gC:=gC,vH:=vH,bM:=bM,z:=z,iv:=λ_=>σ ν 0 0,ov:=λ_ _=>σ ν 0 0,ext:=X}:=⟨_,rfl⟩
 have hvR:dV (σ (μ ⟨gR,0,ν⟩) m sT)=μ gR:=rfl;have D:∀g,gC=μ g->dV (aaR gC L.length vH)=μ g:=λg e=>by subst e;rfl
 have hat:∀l k,y.at l=μ k->(l=.N/\k=N) \/(l=.R/\k=gR) \/(l=.I/\k=gI) \/(l=.C/\gC=μ k):=λl k e=>by
  rw[hy]at e;cases l with
  |N=>exact .inl ⟨rfl,(Option.some.inj e).symm⟩
  |R=>exact .inr (.inl ⟨rfl,(Option.some.inj e).symm⟩)
  |I=>exact .inr (.inr (.inl ⟨rfl,(Option.some.inj e).symm⟩))
  |C=>exact .inr (.inr (.inr ⟨rfl,e⟩))
  |ib i=>simp[Yt.at,dV]at e
  |on c d=>simp[Yt.at,dV]at e
 have ji:∀k,y.own k->(k=N \/k=gR \/k=gI \/gC=μ k):=λk ⟨l,e⟩=>by
  rcases hat l k e with⟨_,e⟩|⟨_,e⟩|⟨_,e⟩|⟨_,e⟩
  ·exact .inl e
  ·exact .inr (.inl e)
  ·exact .inr (.inr (.inl e))
  ·exact .inr (.inr (.inr e))
 have u:=h.fv gR hvR;have G:∀k,gC=μ k->w.heap.size<=k/\k≠N/\k≠gI/\k≠bM/\gR≠k:=λk e=>by
  obtain⟨a1,a2,a3,a4,a5⟩:=h.Kk k (D k e);exact⟨a1,a2,a3,a4,λe1=>a5 (by rw[<-e1];rfl)⟩
 have MI:∀k,y.own k->w.heap.size<=k:=λk e=>by
  rcases ji k e with e|e|e|e
  ·rw[e];exact h.ne.2.2.2.1
  ·rw[e];exact u.1
  ·rw[e];exact h.ne.2.2.2.2.1
  ·exact(G k e).1
 have aaT:∀k,y.own k->k<W.heap.size:=λk e=>by
  rcases ji k e with e|e|e|e
  ·rw[e];exact h.wU
  ·rw[e];exact h.row.lt gR hvR
  ·rw[e];exact h.gi.lt
  ·exact h.E8.lt k (D k e)
 have WX:∀k,y.own k->∀i,i<m->k<lo i \/hi i<=k:=λk e i V=>by
  rcases ji k e with e|e|e|e
  ·exact h.out i V k (.inl e)
  ·exact h.out i V k (.inr (.inr (.inr (.inl (by rw[e];rfl)))))
  ·exact h.out i V k (.inr (.inl e))
  ·exact h.out i V k (.inr (.inr (.inr (.inr (D k e)))))
 have Q:y.z=z:=by rw[hy]
 have M:y.ext=X:=by rw[hy]
 have hwW:=h.ny.size;refine⟨y,⟨xA.1,xA.2,iF.l,?_,?_,?_,?_,?_,?_,?_,?_,?_,?_,λ_ _ _ _=>Nat.zero_le _,zC,?_,?_,?_,?_,?_⟩,by rw[hy],?_,λb=>by rw[M]⟩
 ·rw[hy];have e:(Yt.cv {N:=N,gR:=gR,sT:=sT,gI:=gI,xT:=m,gC:=gC,vH:=vH,bM:=bM,z:=z,iv:=λ_=>σ ν 0 0,ov:=λ_ _=>σ ν 0 0,ext:=X} L.length)=aaR gC L.length vH:=by
   rfl
  show jc W N #[σ (μ ⟨gR,0,ν⟩) m sT,σ (μ ⟨gI,0,ν⟩) m m,.map (μ bM),Yt.cv _ L.length] 190;rw[e];exact h.nb
 ·intro j J;have H:j<m:=J;rw[hy];show W.cell? ⟨gR,0+j,ν⟩=μ (π (μ ⟨(z j).R,0,ν⟩))/\W.frozen? ⟨gR,0+j,ν⟩=false;rw[Nat.zero_add,(A j H).1];exact⟨Row.cell h.row j _ (Uj P H),Row.spare h.row j dU⟩
 ·intro j J;have H:j<m:=J;rw[hy];show W.cell? ⟨gI,0+j,ν⟩=μ (σ ν 0 0)/\W.frozen? ⟨gI,0+j,ν⟩=false;rw[Nat.zero_add];have Y:=h.gi.cell j;have e:(oT m)[j]? =μ (σ ν 0 0):=by
   unfold oT;rw[Array.getElem?_replicate,ag H]
  exact⟨Y.trans e,h.gi.frozen j⟩
 ·intro g hg c hc;have CI:gC=μ g:=by rw[hy]at hg;exact hg
  subst CI;have jN:c<L.length:=hc;intro i V;have iQ:Row W 7 (σ (μ ⟨g,0,ν⟩) L.length vH) L.length (ux (L.take L.length)):=h.E8;rw[bX]at iQ;refine⟨?_,Row.spare iQ (c*7+i) dU⟩;have Y:=NY L c i jN V;have Z:[dY .i64 L[c].a,ι κ L[c].pa,ι κ L[c].b,ι κ L[c].pb,.bool false,σ ν 0 0,σ ν 0 0][i]? =μ (BS (rP L c) (y.ov c) i):=by
   obtain⟨_,a1,a2⟩:=iF.c L[c] (aK jN);have e1:=pw a1;have e2:=pw a2;have f0:=zd L c 0 jN;have f1:=zd L c 1 jN;rw[ag rfl]at f0;rw[ae dX]at f1;have q1:(((L[c].a-1).toNat:Nat):Int)+1=L[c].a:=dU;have q2:((L[c].pa.toNat:Nat):Int)=L[c].pa:=dU;have q3:(((L[c].b-1).toNat:Nat):Int)+1=L[c].b:=dU;have q4:((L[c].pb.toNat:Nat):Int)=L[c].pb:=dU;have:i=0 \/i=1 \/i=2 \/i=3 \/i=4 \/i=5 \/i=6:=dU;rcases this with rfl|rfl|rfl|rfl|rfl|rfl|rfl
   ·show μ _=μ (dY .i64 ((((rP L c).e 0).1:Int)+1));rw[f0,q1]
   ·show μ _=μ (dY .i64 (((rP L c).e 0).2:Int));rw[f0,q2]
   ·show μ _=μ (dY .i64 ((((rP L c).e 1).1:Int)+1));rw[f1,q3]
   ·show μ _=μ (dY .i64 (((rP L c).e 1).2:Int));rw[f1,q4]
   ·rfl
   ·rw[hy];rfl
   ·rw[hy];rfl
  rw[Z]at Y;exact Row.cell iQ _ _ Y
 ·intro c hc;have jN:c<L.length:=hc;rw[hy];show∃g,gC=μ g;cases hg:gC with
  |none=>have:=Je hg;omega
  |some g=>exact⟨g,rfl⟩
 ·exact⟨ki L,by rw[hy];exact h.mp,iF.tells m hE⟩
 ·intro i V;rw[Q];exact(A i V).2.1
 ·exact λi _=>⟨rfl,rfl⟩
 ·intro i _;rw[hy];exact Row.nil _ 3
 ·intro c d _ _;rw[hy];exact Row.nil _ 1
 ·intro l l' k e e';rcases hat l k e with⟨Y,Z⟩|⟨Y,Z⟩|⟨Y,Z⟩|⟨Y,Z⟩<;>rcases hat l' k e' with⟨T,U⟩|⟨T,U⟩|⟨T,U⟩|⟨T,U⟩
  ·rw[Y,T]
  ·exact absurd (U.symm.trans Z) u.2.1
  ·exact absurd (Z.symm.trans U) h.ne.1
  ·exact absurd Z (G k U).2.1
  ·exact absurd (Z.symm.trans U) u.2.1
  ·rw[Y,T]
  ·exact absurd (Z.symm.trans U) u.2.2.1
  ·exact absurd Z.symm (G k U).2.2.2.2
  ·exact absurd (U.symm.trans Z) h.ne.1
  ·exact absurd (U.symm.trans Z) u.2.2.1
  ·rw[Y,T]
  ·exact absurd Z (G k U).2.2.1
  ·exact absurd U (G k Z).2.1
  ·exact absurd U.symm (G k Z).2.2.2.2
  ·exact absurd U (G k Z).2.2.1
  ·rw[Y,T]
 ·intro i V b hb;have WY:i<m:=V;obtain⟨_,_,z3,z4⟩:=A i WY;rw[Q];have WE:b<lo i \/(hi i<=b/\b<W.heap.size):=by
   rcases hb with e|e|⟨j,J,jm,e⟩
   ·have Y:=WX b e i WY;have Z:=aaT b e;omega
   ·rw[M]at e;have Y:=hX b e;have Z:=h.lw i WY;omega
   ·have H:j<m:=J;rw[Q]at e;have Y:=(A j H).2.2.1 b e;have Z:=hhi j H;rcases Nat.lt_or_gt_of_ne jm with T|T
    ·have:=h.sep j i T WY;omega
    ·have:=h.sep i j T H;omega
  exact⟨z4 b WE,λe=>by have:=z3 b (.inl e);omega⟩
 ·intro b hb e;rw[M]at hb;have Y:=hX b hb;have Z:=MI b e;omega
 ·have hbm:y.bM=bM:=by rw[hy]
  rw[hbm,M,Q];refine⟨λe=> ?_,λe=> ?_,λi V e=> ?_⟩
  ·rcases ji bM e with e|e|e|e
   ·exact h.ne.2.1 e.symm
   ·exact u.2.2.2 e.symm
   ·exact h.ne.2.2.1 e.symm
   ·exact(G bM e).2.2.2.1 rfl
  ·have Y:=hX bM e;have Z:=h.ne.2.2.2.2.2;omega
  ·have Y:=(A i V).2.2.1 bM e;have Z:=h.out i V bM (.inr (.inr (.inl rfl)));omega
 ·intro e;have:=MI 0 e;omega
 ·intro b e;rcases e with e|⟨j,J,e⟩
  ·exact MI b e
  ·rw[Q]at e;have Y:=(A j J).2.2.1 b e;have Z:=h.lw j J;omega
theorem aaU(W:dR):(gQ 75 (ι κ 1) (ι κ 1)).run eU W=.ok (σ (μ ⟨W.heap.size,0,ν⟩) 1 1) (W.alloc (γ (oT 1) 53)):=gL
theorem aaV(W:dR):(gQ 75 (ι κ 2) (ι κ 2)).run eU W=.ok (σ (μ ⟨W.heap.size,0,ν⟩) 2 2) (W.alloc (γ (oT 2) 53)):=gL
theorem aaW(W:dR):(gQ 75 (ι κ 3) (ι κ 3)).run eU W=.ok (σ (μ ⟨W.heap.size,0,ν⟩) 3 3) (W.alloc (γ (oT 3) 53)):=gL
theorem aaX(W:dR):(gQ 75 (ι κ 4) (ι κ 4)).run eU W=.ok (σ (μ ⟨W.heap.size,0,ν⟩) 4 4) (W.alloc (γ (oT 4) 53)):=gL
theorem aaY(W:dR):(gQ 75 (ι κ 5) (ι κ 5)).run eU W=.ok (σ (μ ⟨W.heap.size,0,ν⟩) 5 5) (W.alloc (γ (oT 5) 53)):=gL
theorem aaZ(W:dR):(gQ 75 (ι κ 6) (ι κ 6)).run eU W=.ok (σ (μ ⟨W.heap.size,0,ν⟩) 6 6) (W.alloc (γ (oT 6) 53)):=gL
theorem aem(p:Nat)(hp:1<=p/\p<=6)(W:dR):(gQ 75 (ι κ (p:Int)) (ι κ (p:Int))).run eU W=.ok (σ (μ ⟨W.heap.size,0,ν⟩) p p) (W.alloc (γ (oT p) 53)):=by
 have:p=1 \/p=2 \/p=3 \/p=4 \/p=5 \/p=6:=dU;rcases this with rfl|rfl|rfl|rfl|rfl|rfl
 ·exact aaU W
 ·exact aaV W
 ·exact aaW W
 ·exact aaX W
 ·exact aaY W
 ·exact aaZ W
theorem WZ:(eU.info? 26).map (λi=>(i.zero,i.size,i.bytes))=μ (μ (π ν),1,8):=gL
theorem Qj:(eU.info? 197).map (λi=>(i.zero,i.size,i.bytes))=μ (μ (.agg #[ι κ 0,ι κ 0,ι κ 0,ι κ 0,.bool false,σ ν 0 0,σ ν 0 0]),7,88):=gL
theorem W6:(eU.info? 81).map (·.size)=μ 5:=gL
theorem W7(p:Option Addr):∀u∈ [Value.pointer p],u.oneCell'=true:=by simp[Value.oneCell']
theorem Kl(w:dR)(c:oR)(C:Array dT)(t:TypeId)(g:Nat)(Y:w.heap.size=g)(hC:C.toList=ux [c] :=by rfl):∀(j:Nat) (u:dT),(ux [c])[j]? =μ u->(w.alloc (γ C t)).cell? ((⟨g,0,ν⟩:Addr).add j)=μ u:=by
 subst Y;intro j u Z;rw[add_plain,aj,<-Z,<-hC];simp
def Qk(w:dR)(many:Int)(L:List oR)(X:Nat->Prop)(e:Ending)(w':dR):Prop:=
 (ng many L≠0->e=ρ (τ #[π ν,jb (ng many L)]))/\(ng many L=0->∃y,e=ρ (τ #[π (μ ⟨y.N,0,ν⟩),η])/\ju w' y (jH many.toNat L)/\(∀b,y.all many.toNat b->w.heap.size<=b)/\∀b,y.ext b↔X b)/\eh w w'
theorem N1(many:Int)(a:Option Addr)(cap:Nat)(L:List oR)(w:dR)(hL:B1 w a L)(hl:L.length<=1000)(hT:iV w)(X:Nat->Prop)(hX:∀b,X b->b<w.heap.size):
 eT eU 36 #[ι κ many,σ a L.length cap] w λe w'=>Qk w many L X e w':=by
 have hm:=xr many a cap L w hL hl;by_cases h0:ng many L=0
 ·have iF:=uy h0;have hm6:=iF.m;obtain⟨m,Tq⟩:∃m:Nat,many=(m:Int):=⟨many.toNat,dU⟩
  subst Tq;have Hp:((m:Int)).toNat=m:=Int.toNat_natCast m;have BL:eT eU 95 #[ι κ (m:Int),σ a L.length cap] w λe w'=>∃b,e=ρ (τ #[.map (μ b),η])/\nV w' b (ki L)/\Co (ki L)/\w.heap.size<=b/\eh w w':=by
   refine hm.mono ?_;rintro e w1 ⟨_,h2,hb⟩;obtain⟨b,h3,h4,h5,h6⟩:=h2 h0;exact⟨b,h3,h4,h5,h6,hb⟩
  have HL:Hid _:=hL;have TB:Hid _:=iF;have HT:Hid _:=hT;have H00:Hid _:=h0;obtain⟨i1,uG,aiL,aiM,aiN⟩:=aY WZ;obtain⟨i2,Vh,aiO,aiP,aiQ⟩:=aY Qj;obtain⟨n,hn⟩:=fW (L.length);have HN:Hid _:=hn;have hl9:=iF.l;rw[hn]at BL hl9⊢;have xA:1<=m:=dU;have hm6:m<=6:=dU;have XM:=aem m ⟨xA,hm6⟩;clear hm hL iF hT hl h0 hn
  go_in
  go_wp2_with(fail);refine BL.mono ?_;rintro e w1 ⟨bM,rfl,hE,hEO,hbM,j7⟩;have HE:Hid _:=hE;have HEO:Hid _:=hEO;have C5:Hid _:=j7;clear BL hE hEO j7;go_wp2_with(fail);have hN1:(w1.alloc (γ (oT m) 53)).heap.size=w1.heap.size+1:=gO;obtain⟨W2,nC⟩:=fW ((w1.alloc (γ (oT m) 53)).alloc (γ #[σ ν 0 0,σ (μ ⟨w1.heap.size,0,ν⟩) m m,.map (μ bM),σ ν 0 0] 190));have Tp:eh w1 W2:=by rw[<-nC];exact(gN _ _).alloc gO _
  have JW:D3 w W2 (w1.heap.size+1) w1.heap.size bM m (ki L) (pH L) 0 0 L (σ ν 0 0) (σ ν 0 0) (λ_=>0) (λ_=>0) (λ_=>0):=by
   have CW:=C5.out.size;have pO:bM<w1.heap.size:=by
    obtain⟨es,clock,h1,_⟩:=HE.out;exact(aw.1 h1).1
   refine⟨fY C5.out Tp,?_,?_,nV.keep HE.out (Tp.block bM pO),Row.nil _ _,Row.nil _ _,⟨dU,dU,dU,dU,dU,hbM⟩,λk e=>by simp[dV]at e,λk e=>by simp[dV]at e,λi hi=>dU,λi hi=>dU,λi k _ hk=>dU,λi hi=>dU⟩
   ·have h1:jc W2 ((w1.alloc (γ (oT m) 53)).heap.size) #[σ ν 0 0,σ (μ ⟨w1.heap.size,0,ν⟩) m m,.map (μ bM),σ ν 0 0] 190:=by rw[<-nC];exact jc.new _ _ _
    rw[hN1]at h1;exact h1
   ·have h1:jc (w1.alloc (γ (oT m) 53)) w1.heap.size (oT m) 53:=jc.new w1 _ _;rw[<-nC];exact h1.below (gN _ _)
  obtain⟨N,hNe⟩:=fW (w1.heap.size+1);obtain⟨gI,hgI⟩:=fW (w1.heap.size);rw[hNe,hgI]at JW;have HM0:Hid _:=JW;have VN:Hid _:=nC;have HNe:Hid _:=hNe;have HgI:Hid _:=hgI;clear nC Tp JW hNe hgI hN1;rw[VN.out]
  try rw[HNe.out]
  try rw[HgI.out]
  go_loopw [29] (λx wr=>∃(q:Nat) (v:dT) (P lo hi:Nat->Nat),q<=m/\x=ι κ q/\D3 w wr N gI bM m (ki L) (pH L) q 0 L v (σ ν 0 0) P lo hi) (λx _=>m-(eV x).toNat)
  case atStart=>exact⟨0,_,_,_,_,Nat.zero_le _,rfl,HM0.out⟩
  case round=>
   obtain⟨q,v,P,lo,hi,hq,rfl,H⟩:=hrel;obtain⟨V,rfl⟩:∃V,V=wr:=⟨_,rfl⟩
   by_cases ka:q<m
   ·have m8:(q:Int)<(m:Int):=dU;have Sv:IntKind.i64.wrap ((q:Int)+1)=(q:Int)+1:=aP _ ⟨dU,dU⟩;have Nq:=xm N bM q (ki L) (pH L q) V (H.nb.cell 2) H.mp HEO.out dU (λp _=>⟨rfl,TB.out.ms q p⟩) (iV.below (w:=w) HT.out H.ny) (λb=>b<V.heap.size) (λb e=>e);have HM:Hid _:=H;clear H;go_wp2_with(fail);refine Nq.mono ?_;rintro e w3 ⟨z,rfl,mK,qO,Yx,hz4,hz5,hz6⟩;have u:=HM.out.below qO;have c0:w3.cell? ⟨N,0,ν⟩=μ v:=u.nb.cell 0;have Nl:=u.wU;have iQ:=u.row;have HZ:Hid (lJ w3 z (jE ((q:Int)+1) 3 (pH L q))/\eh V w3/\(∀b,z.oJ b->V.heap.size<=b)/\∀b,b<V.heap.size->z.fm.no b):=by
     refine⟨mK,qO,λb hb=> ?_,hz6⟩;rcases hb with e|e|e
     ·exact Yx b e
     ·rw[e];exact hz4
     ·exact hz5 b e
    have HM3:Hid _:=u;clear Nq mK qO Yx hz4 hz5 hz6 u;go_wp2_with(at_builtin;go_must(refine iB _ rfl (.tmp 46) (.tmp 48) 187 rfl 26 i1 (π ν) 1 8 Tryz.underlying187 uG aiL aiM aiN rfl dX v q (vS P q) rfl (iQ.alloc _) _ 1 1 [π (μ ⟨z.R,0,ν⟩)] rfl rfl dX (oX _ _ _) (W7 _) (by unfold maxLen;omega) dU ?_));intro g' jn w4 hr4 hg4 V6;have hNv:v.ownBlock≠μ N:=λe=>(HM3.out.fv N e).2.1 rfl;have K0:jc w4 N #[v,σ (μ ⟨gI,0,ν⟩) m m,.map (μ bM),σ ν 0 0] 190:=HM3.out.nb.keep ((hg4.block N (by simp;have:=HM3.out.wU;omega) (λe=>hNv e.symm)).trans (aT _ _ _ HM3.out.wU));have c4:w4.cell? ⟨N,0,ν⟩=μ v:=K0.cell 0;have f4:=K0.frozen 0;have l4:=K0.lt;have HAdd:Hid (D3 w (w4.setCell ⟨N,0,ν⟩ (σ (μ ⟨g',0,ν⟩) (q+1) jn)) N gI bM m (ki L) (pH L) (q+1) 0 L (σ (μ ⟨g',0,ν⟩) (q+1) jn) (σ ν 0 0) (jK P q z.R) (jK lo q V.heap.size) (jK hi q w3.heap.size)):=by
     obtain⟨a1,a2,a3,a4⟩:=HZ.out;refine D3.Aa HM.out a1 a2 a3 a4 hr4 hg4 (λk hk=> ?_);have yv:g'=k:=by simpa[dV]using hk
     subst yv;rcases V6 with e|e
     ·exact .inl e
     ·right;have:(w3.alloc (γ #[π (μ ⟨z.R,0,ν⟩)] 26)).heap.size=w3.heap.size+1:=gO;omega
    clear hr4 hg4 V6 K0 hNv iQ c0 Nl
    go_wp2
    go_roundw
    case rel=>exact⟨q+1,_,_,_,_,dU,by go_num,HAdd.out⟩
    case measure=>simp[eV];omega
   ·have yt:¬(q:Int)<(m:Int):=dU;obtain rfl:q=m:=dU;have HMq:Hid _:=H;clear H
    go_wp2
    go_loopw [55] (λx wr=>∃(j:Nat) (v2:dT),j<=n/\x=ι κ j/\D3 w wr N gI bM q (ki L) (pH L) q j L v v2 P lo hi) (λx _=>n-(eV x).toNat)
    case atStart=>exact⟨0,_,Nat.zero_le _,rfl,HMq.out⟩
    case round=>
    obtain⟨j,v2,hj,rfl,H⟩:=hrel;obtain⟨A,rfl⟩:∃A,A=wr:=⟨_,rfl⟩
    by_cases hjl:j<n
    ·have aiv:(j:Int)<(n:Int):=dU;have xQ:(0:Int)<=(j:Int):=dU;have hjL:j<L.length:=by rw[HN.out];exact hjl
     obtain⟨b,off,rfl,k0,k1,k2,k3,k4⟩:=B1.below (w:=w) HL.out H.ny j hjL;have bl:=af _ _ k0;have Wq:Hid (L.take (j+1)=L.take j++ [L[j]]):=by
      show _=_;rw[ay hjL]
     generalize L[j] =c at k0 k1 k2 k3 k4 Wq;obtain⟨ca,T,Q,U,cm⟩:=c;have j7:=gN A (γ #[ι κ ca,ι κ T,ι κ Q,ι κ U,ι κ cm] 81);have MG:jc (A.alloc (γ #[ι κ ca,ι κ T,ι κ Q,ι κ U,ι κ cm] 81)) A.heap.size #[ι κ ca,ι κ T,ι κ Q,ι κ U,ι κ cm] 81:=jc.new A _ _;obtain⟨W1,j0⟩:=fW (A.alloc (γ #[ι κ ca,ι κ T,ι κ Q,ι κ U,ι κ cm] 81));obtain⟨Y,hY⟩:=fW (A.heap.size);have D:=H.below j7;have HYo:Hid (v2.ownBlock≠μ Y):=λe=>by have:=H.E8.lt Y e;omega
     have HYN:Hid (Y≠N):=λe=>by have:=H.wU;omega
     rw[j0]at MG D;rw[hY]at MG;have HM:Hid _:=D;have hV0:jc W1.drew Y #[ι κ ca,ι κ T,ι κ Q,ι κ U,ι κ cm] 81:=MG.drew;have c3a:W1.drew.cell? ⟨N,3,ν⟩=μ v2:=D.nb.cell 3;have Nl0:N<W1.drew.heap.size:=D.wU;have jY:∀G:dR,jc G Y #[ι κ ca,ι κ T,ι κ Q,ι κ U,ι κ cm] 81->(fH 81 (π (μ ⟨Y,0,ν⟩))).run eU G=.ok (.agg #[ι κ ca,ι κ T,ι κ Q,ι κ U,ι κ cm]) G:=λG hS=>by
      simp only[fH,Instr.sureAddr,Sem.run_bind,Sem.run_pure,Result.andThen];exact bL G Y 81 81 _ (0,0) _ hS Tryz.underlying81 rfl W6
     have zc:=DY ca T Q U cm W1.drew;have P8:Hid _:=j0;have HY:Hid _:=hY;clear H D j7 MG j0 hY;go_wp2_with(fail);rw[P8.out]
     try rw[HY.out]
     refine cg (S:=λx=>jc x Y #[ι κ ca,ι κ T,ι κ Q,ι κ U,ι κ cm] 81) gL hV0 (λk8=> ?_);refine jf 0 (μ 59) rfl rfl gL gL gL (λ_ _ _ h=>h) (by rfl) (v:= ?_) ?_ iX ?_
     rotate_left
     ·intro G M
      (try dsimp only at M)
      go_simp
      try with_reducible rfl
     simp only[gj,gk,gp,gq];refine jf 1 (μ 60) rfl rfl gL gL gL (λ_ _ _ h=>h) (by rfl) (v:= ?_) ?_ iX ?_
     rotate_left
     ·intro G M
      (try dsimp only at M)
      go_simp
      try with_reducible rfl
     simp only[gj,gk,gp,gq];refine jf 2 (μ 61) rfl rfl gL gL gL (λ_ _ _ h=>h) (by rfl) (v:= ?_) ?_ iX ?_
     rotate_left
     ·intro G M
      (try dsimp only at M)
      go_simp
      try with_reducible rfl
     simp only[gj,gk,gp,gq];refine jf 3 (μ 62) rfl rfl gL gL gL (λ_ _ _ h=>h) (by rfl) (v:= ?_) ?_ iX ?_
     rotate_left
     ·intro G M
      (try dsimp only at M)
      go_simp
      try with_reducible rfl
     simp only[gj,gk,gp,gq];refine jf 5 (μ 64) rfl rfl gL gL gL (λ_ _ _ h=>h) (by rfl) (v:=.agg #[ι κ ca,ι κ T,ι κ Q,ι κ U,ι κ cm]) ?_ iX ?_
     ·intro G M;have h7:=jY G M;simp[execOp,Act.eval,h7]
     simp only[gj,gk,gp,gq];refine aN (rs:=[4,6]) gL gO ?_;refine aF (o:=_) rfl (λK Z=> ?_) (aF (o:=_) rfl (λK Z=> ?_) aM)
     focus
      go_simp
      (try go_wp2_with(fail))
      refine Z.out _ _ (by exact hV0) (λk8=> ?_);clear Z K;refine aN (rs:=[6]) gL gO ?_;refine aF (o:=_) rfl (λK Z=> ?_) aM
      go_simp
      refine zc.mono ?_;rintro e w1 ⟨rfl,be⟩;have tX:=HM.out.below (fY (iP _) be);have YB:=hV0.below be;have c3b:w1.cell? ⟨N,3,ν⟩=μ v2:=tX.nb.cell 3;have Nl1:=tX.wU
      (try go_wp2_with(fail))
      refine Z.out _ _ (by exact YB) (λk8=> ?_);clear Z K;refine jf 7 (μ 66) rfl rfl gL gL gL (λ_ _ _ h=>h) (by rfl) (v:= ?_) ?_ iX ?_
      rotate_left
      ·intro G M
       (try dsimp only at M)
       go_simp
       try with_reducible rfl
      simp only[gj,gk,gp,gq];refine aN (rs:=[8]) gL gO ?_;refine aF (o:=_) rfl (λK Z=> ?_) aM
      go_simp
      have PZ:=jc.below YB (gN w1 (γ #[ι κ ca,ι κ T,ι κ Q,ι κ U,.bool false,σ ν 0 0,σ ν 0 0] 197));have J:=tX.below (gN w1 (γ #[ι κ ca,ι κ T,ι κ Q,ι κ U,.bool false,σ ν 0 0,σ ν 0 0] 197));have c3c:(w1.alloc (γ #[ι κ ca,ι κ T,ι κ Q,ι κ U,.bool false,σ ν 0 0,σ ν 0 0] 197)).cell? ⟨N,3,ν⟩=μ v2:=J.nb.cell 3;have Nl2:=J.wU
      (try go_wp2_with(fail))
      refine Z.out _ _ (by exact PZ) (λk8=> ?_);clear Z K
     rotate_left
     focus
      go_simp
      refine zc.mono ?_;rintro e w1 ⟨rfl,be⟩;have tX:=HM.out.below (fY (iP _) be);have YB:=hV0.below be;have c3b:w1.cell? ⟨N,3,ν⟩=μ v2:=tX.nb.cell 3;have Nl1:=tX.wU
      (try go_wp2_with(fail))
      refine Z.out _ _ (by exact YB) (λk8=> ?_);clear Z K;refine jf 7 (μ 66) rfl rfl gL gL gL (λ_ _ _ h=>h) (by rfl) (v:= ?_) ?_ iX ?_
      rotate_left
      ·intro G M
       (try dsimp only at M)
       go_simp
       try with_reducible rfl
      simp only[gj,gk,gp,gq];refine aN (rs:=[4,8]) gL gO ?_;refine aF (o:=_) rfl (λK Z=> ?_) (aF (o:=_) rfl (λK Z=> ?_) aM)
      focus
       go_simp
       (try go_wp2_with(fail))
       refine Z.out _ _ (by exact YB) (λk8=> ?_);clear Z K;refine aN (rs:=[8]) gL gO ?_;refine aF (o:=_) rfl (λK Z=> ?_) aM
       go_simp
       have PZ:=jc.below YB (gN w1 (γ #[ι κ ca,ι κ T,ι κ Q,ι κ U,.bool false,σ ν 0 0,σ ν 0 0] 197));have J:=tX.below (gN w1 (γ #[ι κ ca,ι κ T,ι κ Q,ι κ U,.bool false,σ ν 0 0,σ ν 0 0] 197));have c3c:(w1.alloc (γ #[ι κ ca,ι κ T,ι κ Q,ι κ U,.bool false,σ ν 0 0,σ ν 0 0] 197)).cell? ⟨N,3,ν⟩=μ v2:=J.nb.cell 3;have Nl2:=J.wU
       (try go_wp2_with(fail))
       refine Z.out _ _ (by exact PZ) (λk8=> ?_);clear Z K
      rotate_left
      go_simp
      have PZ:=jc.below YB (gN w1 (γ #[ι κ ca,ι κ T,ι κ Q,ι κ U,.bool false,σ ν 0 0,σ ν 0 0] 197));have J:=tX.below (gN w1 (γ #[ι κ ca,ι κ T,ι κ Q,ι κ U,.bool false,σ ν 0 0,σ ν 0 0] 197));have c3c:(w1.alloc (γ #[ι κ ca,ι κ T,ι κ Q,ι κ U,.bool false,σ ν 0 0,σ ν 0 0] 197)).cell? ⟨N,3,ν⟩=μ v2:=J.nb.cell 3;have Nl2:=J.wU
      (try go_wp2_with(fail))
      refine Z.out _ _ (by exact PZ) (λk8=> ?_);clear Z K;refine aN (rs:=[4]) gL gO ?_;refine aF (o:=_) rfl (λK Z=> ?_) aM
      go_simp
      (try go_wp2_with(fail))
      refine Z.out _ _ (by exact PZ) (λk8=> ?_);clear Z K
     all_goals
      refine aN (rs:=[9]) gL gO ?_;refine aF (o:=_) rfl (λK Z=> ?_) aM;refine lv (by rfl) (.tmp 63) (.tmp 67) 188 (by rfl) 197 i2 (.agg #[ι κ 0,ι κ 0,ι κ 0,ι κ 0,.bool false,σ ν 0 0,σ ν 0 0]) 7 88 Tryz.underlying188 Vh aiO aiP aiQ (by rfl) dX v2 j (ux (L.take j)) (by rfl) J.E8 _ 1 1 (ux [⟨ca,T,Q,U,cm⟩]) (by rfl) (by rfl) dX (Kl _ _ _ _ _ rfl) (Ui _) (by unfold maxLen;omega) dU ?_;intro g' jn x1 kQ ke jv;have BZ:jc x1 N _ 190:=J.nb.keep (ke.block N J.wU (λe=>(J.Kk N e.symm).2.1 rfl));have hV3:jc x1 Y _ 81:=PZ.keep (ke.block Y PZ.lt (λe=>HYo.out e.symm));have c3d:x1.cell? ⟨N,3,ν⟩=μ v2:=BZ.cell 3;have f3d:=BZ.frozen 3;have Nl3:=BZ.lt;refine Z.out _ _ (by exact hV3) (λk8=> ?_);clear Z K;refine jf 10 (μ 69) rfl rfl gL gL gL (λ_ _ _ h=>h) (by rfl) (v:= ?_) ?_ iX ?_
      rotate_left
      ·intro G M
       (try dsimp only at M)
       go_simp
       try with_reducible rfl
      simp only[gj,gk];refine jf 11 (μ 70) rfl rfl gL gL gL (λ_ _ _ h=>h) (by rfl) (v:= ?_) ?_ iX ?_
      rotate_left
      ·intro G M
       (try dsimp only at M)
       go_simp
       try with_reducible rfl
      simp only[gj];refine aN (rs:=[12]) gL gO ?_;refine aF (o:=_) rfl (λK Z=> ?_) aM
      go_simp
      (try go_wp2_with(fail))
      refine Z.out _ _ (by exact hV3.other HYN.out _) (λk8=> ?_);clear Z K;refine cK gL ?_ _;have HAdd:Hid _:=D3.NQ J (c:=⟨ca,T,Q,U,cm⟩) Wq.out kQ ke (λk hk=>by
       have yv:g'=k:=by simpa[dV]using hk
       subst yv;exact jv)
      clear kQ ke jv BZ hV3 c3d f3d Nl3 tX J YB PZ
      go_wp2
      go_roundw
      case rel=>exact⟨j+1,_,dU,by go_num,HAdd.out⟩
      case measure=>simp[eV];omega
    ·have ad4:¬(j:Int)<(n:Int):=dU;obtain rfl:j=n:=dU;have sL:∃y,ju A y (jH ((q:Int)).toNat L)/\y.N=N/\(∀b,y.all ((q:Int)).toNat b->w.heap.size<=b)/\∀b,y.ext b↔X b:=by
      have J:D3 w A N gI bM ((q:Int)).toNat (ki L) (pH L) ((q:Int)).toNat L.length L v v2 P lo hi:=by
       rw[Hp,HN.out];exact H
      exact D3.done (w:=w) (many:=(q:Int)) TB.out HEO.out J (iV.lt (w:=w) HT.out) X hX
     have HF:Hid (Qk w (q:Int) L X (ρ (τ #[π (μ ⟨N,0,ν⟩),η])) A):=by
      obtain⟨y,y1,y2,y3,y4⟩:=sL;exact⟨λe=>absurd H00.out e,λ_=>⟨y,by rw[y2],y1,y3,y4⟩,H.ny⟩
     clear H sL
     go_wp2
     go_ret2
     exact HF.out
 ·have BL:eT eU 95 #[ι κ many,σ a L.length cap] w λe w'=>e=ρ (τ #[.map ν,jb (ng many L)])/\eh w w':=by
   refine hm.mono ?_;rintro e w1 ⟨h1,_,hb⟩;exact⟨h1 h0,hb⟩
  have ee:jb (ng many L)=.iface 128 (ι κ ((ng many L:Nat):Int)):=by simp only[jb];rw[ae h0]
  have HE:Hid _:=ee;have H0:Hid _:=h0;rw[ee]at BL;generalize L.length=n at BL⊢;clear hm hL hT ee h0
  go_in
  go_wp2_with(fail);refine BL.mono ?_;rintro e w1 ⟨rfl,hb⟩;have HB:Hid _:=hb;clear BL hb
  go_wp2
  go_ret2
  exact⟨λ_=>by rw[HE.out];rfl,λe=>absurd e H0.out,HB.out⟩
