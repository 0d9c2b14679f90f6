import Derived.Test.YtieklnlbljejdaaGreatDoorM15
open Go.Value renaming int → ι, slice → σ, pointer → π, tuple → τ, nilIface → η
open Go.IntKind renaming i64 → κ
open Go.Ending renaming returned → ρ
open Go.Obj renaming cells → γ
open Option renaming none → ν, some → μ
open Go renaming World → dY, Calls → eW, Value → dZ
open Go.Proofs.Tryz renaming prog → eX
open Go.RowKit renaming intOf → eY
open Go.Value renaming int → eB, ownBlock → eu
open Go.Instr renaming makeSlice → gZ, loadAt → fN
open Go.Act renaming put → gF
open List renaming setIfInBounds_toArray → gG, set_cons_zero → gH, set_cons_succ → gJ
set_option maxRecDepth 100000
set_option maxHeartbeats 8000000
namespace Go.Proofs.YtieklnlbljejdaaGreatDoor
open Go.RowKit St
namespace Rt
variable {L:List oV} {P:Nat->Nat} {W W2 w w':World} {c:oV} {i q:Nat} {many p r:Int}
theorem N9(l:List oV)(c:oV):kt (l++ [c])=kt l++ [(c.a,c.pa,c.m),(c.b,c.pb,c.m)] :=by simp[kt]
theorem RW(h:oS many r p=true)(h6:many<=6):1<=r/\r<=6/\0<=p/\p<=2:=by
 unfold oS at h;simp only[Bool.and_eq_true,decide_eq_true_eq]at h;omega
def rz(many:Int)(c:oV)(E:List (Int×Int×Int)):Nat:=
 if c.m<1 \/20<c.m then 1
 else if oS many c.a c.pa=false then 1
 else if(kQ E c.a c.pa).isSome=true then 8
 else if oS many c.b c.pb=false then 1
 else if(kQ (E++ [(c.a,c.pa,c.m)]) c.b c.pb).isSome=true then 8
 else 0
theorem H4(many:Int)(c:oV)(l:List oV)(E:List (Int×Int×Int)):yH many (c::l) E=if rz many c E≠0 then rz many c E else yH many l (E++ [(c.a,c.pa,c.m),(c.b,c.pb,c.m)]):=by
 conv=>lhs;unfold yH
 unfold rz;split
 ·rfl
 ·split
  ·rfl
  ·split
   ·rfl
   ·split
    ·rfl
    ·split
     ·rfl
     ·rw[af gY]
def Bl(w:dY)(many:Int)(L:List oV)(e:Ending)(w':dY):Prop:=(nN many L≠0->e=ρ (τ #[.map ν,jm (nN many L)]))/\(nN many L=0->∃b,e=ρ (τ #[.map (μ b),η])/\oD w' b (kt L)/\Dl (kt L)/\w.heap.size<=b)/\eE w w'
theorem Bl.bad {f:Nat} (hf:nN many L=f)(Z:f≠0)(hb:eE w w'):Bl w many L (ρ (τ #[.map ν,jm f])) w':=⟨λ_=>by rw[hf],λe=>absurd (hf.symm.trans e) Z,hb⟩
theorem Bl.good {b:Nat} (hf:nN many L=0)(X:oD w' b (kt L))(Y:Dl (kt L))(hb:w.heap.size<=b)(Z:eE w w'):Bl w many L (ρ (τ #[.map (μ b),η])) w':=⟨λe=>absurd hf e,λ_=>⟨b,rfl,X,Y,hb⟩,Z⟩
theorem YY(W:dY):(Instr.makeMap 184 ν).run eX W=.ok (.map (μ W.heap.size)) (W.alloc (.map #[] 0)):=rfl
theorem Ch(w:dY)(b:Nat)(E:List (Int×Int×Int))(T:Dl E)(many r p:Int)(h6:many<=6)(W:dY)(y:oD W b E)(hb:w.heap.size<=b)(D:eE w W)(h:b<W.heap.size)(Z Y:Nat)(m:Int)(G:W.cell? ⟨Z,0,ν⟩=μ (ι κ r)/\W.cell? ⟨Z,1,ν⟩=μ (ι κ p))(Q:W.cell? ⟨Y,4,ν⟩=μ (ι κ m)):
 eW eX 154 #[.agg #[ι κ r,ι κ p],ι κ many] W λe w1=>e=ρ (.bool (oS many r p))/\eE w w1/\(w1.cell? ⟨Z,0,ν⟩=μ (ι κ r)/\w1.cell? ⟨Z,1,ν⟩=μ (ι κ p))/\w1.cell? ⟨Y,4,ν⟩=μ (ι κ m)/\
  (oS many r p=true->(Instr.lookup 184 (.map (μ b)) (.agg #[ι κ r,ι κ p]) true).run eX w1=.ok (τ #[ι κ ((kQ E r p).getD 0),.bool (kQ E r p).isSome]) w1/\
   (kQ E r p=ν->∃X,(Instr.mapUpdate 184 (.map (μ b)) (.agg #[ι κ r,ι κ p]) (ι κ m)).run eX w1=.ok () X/\oD X b (E++ [(r,p,m)])/\Dl (E++ [(r,p,m)])/\eE w X/\X.cell? ⟨Y,4,ν⟩=μ (ι κ m)/\b<X.heap.size)):=by
 refine(xb r p many W).mono ?_;rintro e w1 ⟨rfl,b1⟩;have U:=ag _ _ G.1;have M:=ag _ _ Q;have y1:=(aj (a:=⟨Y,4,ν⟩) (b1.block Y M)).trans Q;have qT:=y.keep (b1.block b h);refine⟨rfl,gk D b1,⟨(aj (a:=⟨Z,0,ν⟩) (b1.block Z U)).trans G.1,(aj (a:=⟨Z,1,ν⟩) (b1.block Z U)).trans G.2⟩,y1,λiN=> ?_⟩;have S:=RW iN h6;refine⟨oD.look qT T S,λA=> ?_⟩;obtain⟨X,g1,g2,g3,g4,g5,g6,u⟩:=oD.store (m:=m) qT T S A;have J:Y≠b:=λe=>by
  subst e;obtain⟨es,clock,h1,_⟩:=y;simp[World.cell?,h1]at Q
 have V:=gk D b1;refine⟨X,g1,g2,T.snoc S A,⟨g3.trans V.os,g4.trans V.tape,g5.trans V.output,by rw[g6];exact V.size,λk hk=> ?_⟩,(aj (a:=⟨Y,4,ν⟩) (u Y J)).trans y1,by rw[g6];exact Nat.lt_of_lt_of_le h b1.size⟩;have H:k≠b:=eh;exact(u k H).trans (V.block k hk)
theorem ya(many:Int)(a:Option Addr)(cap:Nat)(L:List oV)(w:dY)(hL:zT w a L)(hl:L.length<=1000):
 eW eX 95 #[ι κ many,σ a L.length cap] w λe w'=>Bl w many L e w':=by
 by_cases A:many<1 \/6<many
 ·have G:nN many L=1:=by unfold nN;rw[ai A]
  have S:Hid _:=Bl.bad G eA (av _ w);clear hL G;generalize L.length=n at hl⊢;by_cases h2:many<1
  ·clear A
   go_in
   go_wp2
   go_ret2
   exact S.out
  ·have h3:6<many:=eh;clear A
   go_in
   go_wp2
   go_ret2
   exact S.out
 ·have h1a:¬many<1:=eh;have h1b:¬6<many:=eh;by_cases h9:9<L.length
  ·have G:nN many L=2:=by unfold nN;rw[af A,ai h9]
   have S:Hid _:=Bl.bad G eA (av _ w);have h9':(9:Int)<(L.length:Int):=eh;clear hL G A;generalize L.length=n at hl h9 h9'⊢
   go_in
   go_wp2
   go_ret2
   exact S.out
  ·have HE:Hid (nN many L=yH many L []):=by show _=_;unfold nN;rw[af A,af h9]
   have h9':¬(9:Int)<(L.length:Int):=eh;have HL:Hid _:=hL;obtain⟨n,hn⟩:=gg (L.length);have HN:Hid _:=hn;have Lg:oD (w.alloc (.map #[] 0)) w.heap.size [] :=⟨#[],0,aZ w _,rfl⟩
   have ZK:=YY;obtain⟨bM,hbM⟩:=gg (w.heap.size);have H0:Hid (oD (w.alloc (.map #[] 0)) bM (kt (L.take 0))/\Dl (kt (L.take 0))/\eE w (w.alloc (.map #[] 0))/\bM<(w.alloc (.map #[] 0)).heap.size/\yH many L [] =yH many (L.drop 0) (kt (L.take 0))):=by
    rw[hbM]at Lg;exact⟨Lg,λx hx=>by simp[kt]at hx,gW _ _,by rw[<-hbM];simp,rfl⟩
   have HbM:Hid _:=hbM;rw[hn]at hl h9'⊢;clear hL A h9 hn Lg
   go_in
   go_wp2_with(fail)
   try rw[HbM.out]
   go_loopw [27] (λx wr=>∃j:Nat,j<=n/\x=ι κ j/\oD wr bM (kt (L.take j))/\Dl (kt (L.take j))/\eE w wr/\bM<wr.heap.size/\yH many L [] =yH many (L.drop j) (kt (L.take j))) (λx _=>n-(eY x).toNat)
   case atStart=>exact⟨0,Nat.zero_le _,rfl,H0.out⟩
   case round=>
    obtain⟨j,hj,rfl,hm,G,hB,pV,hF⟩:=hrel;obtain⟨V,rfl⟩:∃V,V=wr:=⟨_,rfl⟩
    by_cases kB:j<n
    ·have nQ:(j:Int)<(n:Int):=eh;have yF:(0:Int)<=(j:Int):=eh;have hjL:j<L.length:=by rw[HN.out];exact kB
     obtain⟨b,off,rfl,k0,k1,k2,k3,k4⟩:=zT.below (w:=w) HL.out hB j hjL;have hd:L.drop j=L[j] ::L.drop (j+1):=aS hjL;have ht:kt (L.take (j+1))=kt (L.take j)++ [(L[j].a,L[j].pa,L[j].m),(L[j].b,L[j].pb,L[j].m)] :=by
      rw[aB hjL,N9]
     rw[hd,H4]at hF;generalize L[j] =c at k0 k1 k2 k3 k4 hF ht;obtain⟨E,hEe⟩:=gg (kt (L.take j));rw[hEe]at hm G hF ht;have HT:Hid _:=ht;have VQ:Hid (∀f,rz many c E=f->f≠0->nN many L=f):=by
      intro f A h2;rw[HE.out,hF,A,ai h2]
     have agA:Hid (rz many c E=0->yH many L [] =yH many (L.drop (j+1)) (E++ [(c.a,c.pa,c.m),(c.b,c.pb,c.m)])):=by
      intro A;rw[hF,A,af gY]
     obtain⟨ca,X,T,U,cm⟩:=c;have bl:=ag _ _ k0;have HM:Hid _:=hm;have HEO:Hid _:=G;have HB:Hid _:=hB;have HBL:Hid _:=pV;obtain⟨W1,j6⟩:=gg (V.alloc (γ #[ι κ ca,ι κ X,ι κ T,ι κ U,ι κ cm] 81));obtain⟨Y,hY⟩:=gg (V.heap.size);have kA:=gW V (γ #[ι κ ca,ι κ X,ι κ T,ι κ U,ι κ cm] 81);have Oa:iX (V.alloc (γ #[ι κ ca,ι κ X,ι κ T,ι κ U,ι κ cm] 81)) V.heap.size #[ι κ ca,ι κ X,ι κ T,ι κ U,ι κ cm] 81:=iX.new V _ _;rw[j6]at kA Oa;rw[hY]at Oa;have g0:W1.cell? ⟨Y,0,ν⟩=μ (ι κ ca):=Oa.cell 0;have g1:W1.cell? ⟨Y,1,ν⟩=μ (ι κ X):=Oa.cell 1;have g2:W1.cell? ⟨Y,2,ν⟩=μ (ι κ T):=Oa.cell 2;have g3:W1.cell? ⟨Y,3,ν⟩=μ (ι κ U):=Oa.cell 3;have g4:W1.cell? ⟨Y,4,ν⟩=μ (ι κ cm):=Oa.cell 4;have gl:=Oa.lt;have rH:eE w W1:=gk hB kA;have qT:oD W1 bM E:=hm.keep (kA.block bM pV);have agB:bM<W1.heap.size:=Nat.lt_of_lt_of_le pV kA.size;have JY:Hid _:=j6;have HY:Hid _:=hY;have D3:Hid _:=rH;have Yp:Hid _:=qT;have agC:Hid _:=agB;have HBY:Hid _:=Oa;have zU:=EV ca X T U cm W1;clear hm G hB pV hF hd ht hEe kA Oa rH qT agB j6 hY;by_cases vM:cm<1 \/20<cm
     ·have D:nN many L=1:=VQ.out 1 (by unfold rz;rw[ai vM]) eA;have S:Hid _:=Bl.bad (w':=W1) D eA D3.out;clear zU;by_cases CO:cm<1
      ·clear vM;go_wp2_with(fail);rw[JY.out]
       try rw[HY.out]
       go_wp2
       go_ret2
       exact S.out
      ·have hm3:20<cm:=eh;clear vM;go_wp2_with(fail);rw[JY.out]
       try rw[HY.out]
       go_wp2
       go_ret2
       exact S.out
     ·have CO:¬cm<1:=eh;have hm3:¬20<cm:=eh;have G5:Hid _:=vM;clear vM;go_wp2_with(fail);rw[JY.out]
      try rw[HY.out]
      go_wp2_with(fail);refine zU.mono ?_;rintro e w2 ⟨rfl,be⟩;have HI0:Hid (oD w2 bM (E)/\Dl (E)/\eE w w2/\bM<w2.heap.size/\w2.cell? ⟨Y,4,ν⟩=μ (ι κ cm)):=⟨oD.keep Yp.out (be.block bM agC.out),HEO.out,gk D3.out be,Nat.lt_of_lt_of_le agC.out be.size,(aj (a:=⟨Y,4,ν⟩) (be.block Y gl)).trans g4⟩
      clear zU be k0 k1 k2 k3 k4 g0 g1 g2 g3 g4 gl bl
      go_wp2
      go_loopw [42] (λx wr=>(x=ι κ 0/\(oD wr bM (E)/\Dl (E)/\eE w wr/\bM<wr.heap.size/\wr.cell? ⟨Y,4,ν⟩=μ (ι κ cm))) \/(x=ι κ 1/\(oD wr bM (E++ [(ca,X,cm)])/\Dl (E++ [(ca,X,cm)])/\eE w wr/\bM<wr.heap.size/\wr.cell? ⟨Y,4,ν⟩=μ (ι κ cm))/\(oS many ca X=true/\kQ E ca X=ν)) \/(x=ι κ 2/\(oD wr bM (E++ [(ca,X,cm)] ++ [(T,U,cm)])/\Dl (E++ [(ca,X,cm)] ++ [(T,U,cm)])/\eE w wr/\bM<wr.heap.size/\wr.cell? ⟨Y,4,ν⟩=μ (ι κ cm))/\rz many ⟨ca,X,T,U,cm⟩ E=0)) (λx _=>2-(eY x).toNat)
      case atStart=>exact .inl ⟨rfl,HI0.out⟩
      case round=>
       obtain⟨Q,rfl⟩:∃Q,Q=wr:=⟨_,rfl⟩
       rcases hrel with⟨rfl,u⟩|⟨rfl,u,ze⟩|⟨rfl,u,ze⟩
       ·skip
        obtain⟨i1,i2,i3,i4,i5⟩:=u;have hix:=acI ca X T U;obtain⟨W4,uO⟩:=gg (Q.alloc (γ #[ι κ ca,ι κ X] 192));obtain⟨Z,hZ⟩:=gg (Q.heap.size);have ba:=gW Q (γ #[ι κ ca,ι κ X] 192);have H:iX (Q.alloc (γ #[ι κ ca,ι κ X] 192)) Q.heap.size #[ι κ ca,ι κ X] 192:=iX.new Q _ _;rw[uO]at ba H;rw[hZ]at H;have z0:W4.cell? ⟨Z,0,ν⟩=μ (ι κ ca):=H.cell 0;have z1:W4.cell? ⟨Z,1,ν⟩=μ (ι κ X):=H.cell 1;have zl:=H.lt;have y4:W4.cell? ⟨Y,4,ν⟩=μ (ι κ cm):=(aj (a:=⟨Y,4,ν⟩) (ba.block Y (ag _ _ i5))).trans i5;have LG:=Ch w bM (E) i2 many ca X eh W4 (i1.keep (ba.block bM i4)) (by rw[HbM.out];exact Nat.le_refl _) (gk i3 ba) (Nat.lt_of_lt_of_le i4 ba.size) Z Y cm ⟨z0,z1⟩ y4;have Lh:Hid _:=uO;have HZ:Hid _:=hZ;clear i1 i2 i3 i4 i5 uO hZ ba H;go_wp2_with(fail)
        try rw[Lh.out]
        try rw[HZ.out]
        go_wp2_with(fail);refine LG.mono ?_;rintro e w5 ⟨rfl,b5,⟨x0,x1⟩,x4,EW⟩;have xl:=ag _ _ x0;have yl:=ag _ _ x4;clear LG z0 z1 zl y4;cases J:oS many ca X with
        |false=>
         have D:nN many L=1:=VQ.out 1 (by unfold rz;rw[af G5.out,ai J]) eA;have S:Hid _:=Bl.bad (w':=w5) D eA b5;clear EW b5
         go_wp2
         go_ret2
         exact S.out
        |true=>
         obtain⟨pB,ki⟩:=EW J;clear EW;cases M:kQ (E) ca X with
         |some m0=>
          have D:nN many L=8:=VQ.out 8 (by unfold rz;rw[af G5.out,af (by rw[J];simp),ai (by rw[M];rfl)]) eA;have S:Hid _:=Bl.bad (w':=w5) D eA b5;rw[M]at pB;have q1:(Option.getD (μ m0) 0)=m0:=rfl;have q2:(Option.isSome (μ m0))=true:=rfl;rw[q1,q2]at pB;clear ki b5 J M D
          go_wp2
          go_ret2
          exact S.out
         |none=>
          obtain⟨w6,u1,u2,u3,y,h,u6'⟩:=ki M;have acX:Hid (oD w6 bM (E++ [(ca,X,cm)])/\Dl (E++ [(ca,X,cm)])/\eE w w6/\bM<w6.heap.size/\w6.cell? ⟨Y,4,ν⟩=μ (ι κ cm)):=⟨u2,u3,y,u6',h⟩
          have HKK:Hid (oS many ca X=true/\kQ E ca X=ν):=⟨J,M⟩
          rw[M]at pB;have q1:(Option.getD (ν:Option Int) 0)=0:=rfl;have q2:(Option.isSome (ν:Option Int))=false:=rfl;rw[q1,q2]at pB;clear ki b5 u2 u3 y h u6' J M
          go_wp2
          go_roundw
          case rel=>exact .inr (.inl ⟨by go_num,acX.out,HKK.out⟩)
          case measure=>simp[eY]
       ·obtain⟨Xe,rJ⟩:=ze;obtain⟨i1,i2,i3,i4,i5⟩:=u;have hix:=acJ ca X T U;obtain⟨W4,uO⟩:=gg (Q.alloc (γ #[ι κ T,ι κ U] 192));obtain⟨Z,hZ⟩:=gg (Q.heap.size);have ba:=gW Q (γ #[ι κ T,ι κ U] 192);have H:iX (Q.alloc (γ #[ι κ T,ι κ U] 192)) Q.heap.size #[ι κ T,ι κ U] 192:=iX.new Q _ _;rw[uO]at ba H;rw[hZ]at H;have z0:W4.cell? ⟨Z,0,ν⟩=μ (ι κ T):=H.cell 0;have z1:W4.cell? ⟨Z,1,ν⟩=μ (ι κ U):=H.cell 1;have zl:=H.lt;have y4:W4.cell? ⟨Y,4,ν⟩=μ (ι κ cm):=(aj (a:=⟨Y,4,ν⟩) (ba.block Y (ag _ _ i5))).trans i5;have LG:=Ch w bM (E++ [(ca,X,cm)]) i2 many T U eh W4 (i1.keep (ba.block bM i4)) (by rw[HbM.out];exact Nat.le_refl _) (gk i3 ba) (Nat.lt_of_lt_of_le i4 ba.size) Z Y cm ⟨z0,z1⟩ y4;have Lh:Hid _:=uO;have HZ:Hid _:=hZ;clear i1 i2 i3 i4 i5 uO hZ ba H;go_wp2_with(fail)
        try rw[Lh.out]
        try rw[HZ.out]
        go_wp2_with(fail);refine LG.mono ?_;rintro e w5 ⟨rfl,b5,⟨x0,x1⟩,x4,EW⟩;have xl:=ag _ _ x0;have yl:=ag _ _ x4;clear LG z0 z1 zl y4;cases J:oS many T U with
        |false=>
         have D:nN many L=1:=VQ.out 1 (by unfold rz;rw[af G5.out,af (by rw[Xe];simp),af (by rw[rJ];simp),ai J]) eA;have S:Hid _:=Bl.bad (w':=w5) D eA b5;clear EW b5
         go_wp2
         go_ret2
         exact S.out
        |true=>
         obtain⟨pB,ki⟩:=EW J;clear EW;cases M:kQ (E++ [(ca,X,cm)]) T U with
         |some m0=>
          have D:nN many L=8:=VQ.out 8 (by unfold rz;rw[af G5.out,af (by rw[Xe];simp),af (by rw[rJ];simp),af (by rw[J];simp),ai (by rw[M];rfl)]) eA;have S:Hid _:=Bl.bad (w':=w5) D eA b5;rw[M]at pB;have q1:(Option.getD (μ m0) 0)=m0:=rfl;have q2:(Option.isSome (μ m0))=true:=rfl;rw[q1,q2]at pB;clear ki b5 J M D
          go_wp2
          go_ret2
          exact S.out
         |none=>
          obtain⟨w6,u1,u2,u3,y,h,u6'⟩:=ki M;have acX:Hid (oD w6 bM (E++ [(ca,X,cm)] ++ [(T,U,cm)])/\Dl (E++ [(ca,X,cm)] ++ [(T,U,cm)])/\eE w w6/\bM<w6.heap.size/\w6.cell? ⟨Y,4,ν⟩=μ (ι κ cm)):=⟨u2,u3,y,u6',h⟩
          have HKK:Hid (rz many ⟨ca,X,T,U,cm⟩ E=0):=by show _=_;unfold rz;rw[af G5.out,af (by rw[Xe];simp),af (by rw[rJ];simp),af (by rw[J];simp),af (by rw[M];simp)]
          rw[M]at pB;have q1:(Option.getD (ν:Option Int) 0)=0:=rfl;have q2:(Option.isSome (ν:Option Int))=false:=rfl;rw[q1,q2]at pB;clear ki b5 u2 u3 y h u6' J M
          go_wp2
          go_roundw
          case rel=>exact .inr (.inr ⟨by go_num,acX.out,HKK.out⟩)
          case measure=>simp[eY]
       ·obtain⟨i1,i2,i3,i4,i5⟩:=u;have Yj:Hid (oD Q bM (kt (L.take (j+1)))/\Dl (kt (L.take (j+1)))/\eE w Q/\bM<Q.heap.size/\yH many L [] =yH many (L.drop (j+1)) (kt (L.take (j+1)))):=by
         show _/\_/\_/\_/\_;rw[HT.out];have e5:E++ [(ca,X,cm)] ++ [(T,U,cm)] =E++ [(ca,X,cm),(T,U,cm)] :=gY;rw[e5]at i1 i2;exact⟨i1,i2,i3,i4,agA.out ze⟩
        clear i1 i2 i3 i4 i5 ze
        go_wp2
        go_roundw
        case rel=>exact⟨j+1,eh,by go_num,Yj.out⟩
        case measure=>simp[eY];omega
    ·have xP:¬(j:Int)<(n:Int):=eh;obtain rfl:j=n:=eh;have e9:L.take j=L:=by rw[<-HN.out];exact cr
     have e8:L.drop j=[] :=by rw[<-HN.out];exact List.drop_length
     rw[e9]at hm G hF;rw[e8]at hF;have OH:nN many L=0:=by rw[HE.out,hF];rfl
     have S:Hid _:=Bl.good OH hm G (by rw[HbM.out];exact Nat.le_refl _) hB;clear hm G hB pV hF OH e9 e8
     go_wp2
     go_ret2
     exact S.out
theorem uf(many:Int)(a:Option Addr)(cap:Nat)(L:List oV)(w:dY)(V:zT w a L)(hl:L.length<=1000):
 eW eX 38 #[ι κ many,σ a L.length cap] w λe w'=>e=ρ (jm (nN many L))/\eE w w':=by
 have X:=ya many a cap L w V hl;generalize L.length=n at X⊢;have Z:eW eX 95 #[ι κ many,σ a n cap] w λe w'=>∃v,e=ρ (τ #[.map v,jm (nN many L)])/\eE w w':=by
  refine X.mono ?_;rintro e w1 ⟨T,Z,hb⟩;by_cases Y:nN many L=0
  ·obtain⟨b,rfl,_⟩:=Z Y;exact⟨μ b,by rw[Y];rfl,hb⟩
  ·exact⟨ν,T Y,hb⟩
 clear X V;generalize jm (nN many L)=ev at Z⊢
 go_in
 go_wp2_with(fail);refine Z.mono ?_;rintro e w1 ⟨v,rfl,hb⟩;have U:Hid _:=hb;clear Z hb
 go_wp2
 go_ret;exact⟨rfl,U.out⟩
def YZ(W:dY)(i:Nat)(ms:Nat->Int)(P lo hi:Nat):Prop:=∃z:Zt,z.R=P/\mr W z (jN ((i:Int)+1) 3 ms)/\(∀b,z.ph b->lo<=b/\b<hi)/\lo<=hi/\hi<=W.heap.size/\∀b,(b<lo \/(hi<=b/\b<W.heap.size))->z.fm.no b
theorem YZ.step {W':dY} {ms:Nat->Int} {P lo hi:Nat} (h:YZ W i ms P lo hi)(hs:W.heap.size<=W'.heap.size)(X:∀b,lo<=b->b<hi->W'.heap[b]? =W.heap[b]?):YZ W' i ms P lo hi:=by
 obtain⟨z,V,U,Z,S,T,Y⟩:=h;refine⟨z.plus λb=>W.heap.size<=b/\b<W'.heap.size,V,U.besides hs (λb hb hc=> ?_) _ (λb e=>e),Z,S,Nat.le_trans T hs,λb hb=> ?_⟩
 ·rcases hc with hc|hc
  ·have:¬(b<lo \/(hi<=b/\b<W.heap.size)):=λe=>hc (Y b e);exact X b eh eh
  ·have:=Z b (.inl hc);exact X b this.1 this.2
 ·show z.fm.no b \/_;by_cases e:b<W.heap.size
  ·exact .inl (Y b eh)
  ·exact .inr eh
def uS:List oV->List dZ
 |[] =>[]
 |c::l=>[.int .i64 c.a,.int .i64 c.pa,.int .i64 c.b,.int .i64 c.pb,.bool false,.slice none 0 0,.slice none 0 0] ++uS l
theorem LH:∀(l m:List oV),uS (l++m)=uS l++uS m
 |[],_=>rfl
 |c::l,m=>by
  show _++uS (l++m)=_;rw[LH l m,<-aE];rfl
theorem PD:∀(l:List oV) (j i:Nat) (Z:j<l.length),i<7->(uS l)[j*7+i]? =[ι κ l[j].a,ι κ l[j].pa,ι κ l[j].b,ι κ l[j].pb,(.bool false:dZ),σ ν 0 0,σ ν 0 0][i]?
 |c::l,0,i,_,hi=>by
  show([_,_,_,_,_,_,_] ++uS l)[0*7+i]? =_;rw[Nat.zero_mul,Nat.zero_add,bG (by simpa using hi)];rfl
 |c::l,j+1,i,Z,hi=>by
  show([_,_,_,_,_,_,_] ++uS l)[(j+1)*7+i]? =_;rw[bw (by simp;omega)];have e:(j+1)*7+i-List.length [eB .i64 c.a,ι κ c.pa,ι κ c.b,ι κ c.pb,.bool false,σ ν 0 0,σ ν 0 0] =j*7+i:=by simp;omega
  rw[e];exact PD l j i (by simpa using Z) hi
theorem VR(l:List oV):∀u∈uS l,u.oneCell'=true:=by
 induction l with
 |nil=>intro u Z;simp[uS]at Z
 |cons c l ih=>
  intro u Z;have Y:u∈ [eB .i64 c.a,ι κ c.pa,ι κ c.b,ι κ c.pb,.bool false,σ ν 0 0,σ ν 0 0] ++uS l:=Z;rcases aw.1 Y with h|h
  ·simp at h;rcases h with rfl|rfl|rfl|rfl|rfl|rfl<;>rfl
  ·exact ih u h
def wI(P:Nat->Nat)(q:Nat):List dZ:=(List.range q).map λi=>π (μ ⟨P i,0,ν⟩)
theorem Ob(P:Nat->Nat)(q:Nat):wI P (q+1)=wI P q++ [π (μ ⟨P q,0,ν⟩)] :=by simp[wI,List.range_succ]
theorem LJ {P':Nat->Nat} (h:∀i,i<q->P i=P' i):wI P q=wI P' q:=by
 unfold wI;refine List.map_congr_left λi hi=> ?_;rw[h i (aQ.1 hi)]
theorem VT(P:Nat->Nat)(h:i<q):(wI P q)[i]? =μ (π (μ ⟨P i,0,ν⟩)):=by simp[wI,h]
def pE(m:Nat):Array dZ:=Array.replicate m (σ ν 0 0)
structure EX(w W:dY)(N gI bM m:Nat)(E:List (Int×Int×Int))(ms:Nat->Nat->Int)(q j:Nat)(L:List oV)(v v2:dZ)(P lo hi:Nat->Nat):Prop where
 nT:eE w W
 nb:iX W N #[v,σ (μ ⟨gI,0,ν⟩) m m,.map (μ bM),v2] 190
 gi:iX W gI (pE m) 53
 mp:oD W bM E
 row:Row W 1 v q (wI P q)
 Gw:Row W 7 v2 j (uS (L.take j))
 ne:N≠gI/\N≠bM/\gI≠bM/\w.heap.size<=N/\w.heap.size<=gI/\w.heap.size<=bM
 fv:∀k,v.ownBlock=μ k->w.heap.size<=k/\k≠N/\k≠gI/\k≠bM
 LK:∀k,v2.ownBlock=μ k->w.heap.size<=k/\k≠N/\k≠gI/\k≠bM/\v.ownBlock≠μ k
 Xu:∀i,i<q->YZ W i (ms i) (P i) (lo i) (hi i)
 lw:∀i,i<q->w.heap.size<=lo i
 sep:∀i k,i<k->k<q->hi i<=lo k
 out:∀i,i<q->∀k,(k=N \/k=gI \/k=bM \/v.ownBlock=μ k \/v2.ownBlock=μ k)->k<lo i \/hi i<=k
section
variable {w W W':World} {N gI bM m:Nat} {E:List (Int×Int×Int)} {ms:Nat->Nat->Int} {q j:Nat} {L:List oV} {v v2:Value} {P lo hi:Nat->Nat}
theorem EX.x5(h:EX w W N gI bM m E ms q j L v v2 P lo hi):N<W.heap.size:=h.nb.lt
theorem EX.RX(h:EX w W N gI bM m E ms q j L v v2 P lo hi):bM<W.heap.size:=by
 obtain⟨es,clock,Z,_⟩:=h.mp;exact(ay.1 Z).1
theorem EX.below(h:EX w W N gI bM m E ms q j L v v2 P lo hi)(hb:eE W W'):EX w W' N gI bM m E ms q j L v v2 P lo hi:=
 ⟨gk h.nT hb,h.nb.below hb,h.gi.below hb,h.mp.keep (hb.block bM h.RX),h.row.below hb,h.Gw.below hb,h.ne,h.fv,h.LK,λi Z=>(h.Xu i Z).step hb.size (λb _ h2=>hb.block b (by
  obtain⟨_,_,_,_,_,h5,_⟩:=h.Xu i Z;omega)),h.lw,h.sep,h.out⟩
theorem EX.EA(h:EX w W N gI bM m E ms q j L v v2 P lo hi) {W1:dY} {z:Zt} (hz:mr W1 z (jN ((q:Int)+1) 3 (ms q)))(hb:eE W W1)(U:∀b,z.ph b->W.heap.size<=b)(M:∀b,b<W.heap.size->z.fm.no b)
 {o:Obj} {v':dZ} (hr:Row W2 1 v' (q+1) (wI P q++ [π (μ ⟨z.R,0,ν⟩)])) (D:(W1.alloc o).grownBy W2 v.ownBlock) (hv:∀k,v'.ownBlock=μ k->v.ownBlock=μ k \/W1.heap.size<=k):
 EX w (W2.setCell ⟨N,0,ν⟩ v') N gI bM m E ms (q+1) j L v' v2 (jU P q z.R) (jU lo q W.heap.size) (jU hi q W1.heap.size):=by
 have H:W1.heap.size<=W2.heap.size:=Nat.le_trans gY D.size;have VU:∀b,b<W1.heap.size->v.ownBlock≠μ b->W2.heap[b]? =W1.heap[b]? :=λb V G=>(D.block b (by simp;omega) (λe=>G e.symm)).trans (aU W1 o b V);have Q:∀b,b<W1.heap.size->v.ownBlock≠μ b->b≠N->(W2.setCell ⟨N,0,ν⟩ v').heap[b]? =W1.heap[b]? :=λb V G hN=>(aq _ _ _ b hN).trans (VU b V G);have Z:=h.below hb;have y:v.ownBlock≠μ N:=λe=>(h.fv N e).2.1 rfl;have u:∀k,v'.ownBlock=μ k->k≠N:=λk e A=>by
  rcases hv k e with Y|Y
  ·exact(h.fv k Y).2.1 A
  ·have:=Z.x5;omega
 have Ex:eE w W2:=by
  have Y:=(Z.nT.alloc Z.nT.size o).grown D (by simp;have:=Z.nT.size;omega) (λk e=>(h.fv k e).1);exact Y
 have aqf:=h.nT.size;have qF:∀i,i<q->lo i<=hi i/\hi i<=W.heap.size:=λi S=>by
  obtain⟨_,_,_,_,h4,h5,_⟩:=h.Xu i S;exact⟨h4,h5⟩
 have nh:mr (W2.setCell ⟨N,0,ν⟩ v') (z.plus λb=>W1.heap.size<=b/\b<(W2.setCell ⟨N,0,ν⟩ v').heap.size) (jN ((q:Int)+1) 3 (ms q)):=by
  refine hz.besides (by simpa using H) (λb V hc=> ?_) _ (λb e=>e);have hbW:W.heap.size<=b:=by
   rcases hc with hc|hc
   ·exact Nat.le_of_not_lt (λe=>hc (M b e))
   ·exact U b (.inl hc)
  exact Q b V (λe=>by have:=h.row.lt b e;omega) (λe=>by have:=h.x5;omega)
 refine⟨Ex.setCell (by show w.heap.size<=N;exact h.ne.2.2.2.1) _,?_,Z.gi.keep (Q gI Z.gi.lt (λe=>(h.fv gI e).2.2.1 rfl) (λe=>h.ne.1 e.symm)),Z.mp.keep (Q bM Z.RX (λe=>(h.fv bM e).2.2.2 rfl) (λe=>h.ne.2.1 e.symm)),?_,Z.Gw.keep (by simpa using H) (λk e=>Q k (Z.Gw.lt k e) (h.LK k e).2.2.2.2 (h.LK k e).2.1),h.ne,λk e=> ?_,λk e=> ?_,λi S=> ?_,λi S=> ?_,λi k T hk=> ?_,λi S k hk=> ?_⟩
 ·have Y:iX W2 N #[v,σ (μ ⟨gI,0,ν⟩) m m,.map (μ bM),v2] 190:=Z.nb.keep (VU N Z.x5 y);exact Y.set 0 v'
 ·rw[Ob,iE,LJ (P':=P) (λi S=>iC _ _ eh)];exact hr.keep gY (λk e=>aq _ _ _ k (u k e))
 ·rcases hv k e with Y|Y
  ·exact h.fv k Y
  ·have a1:=Z.x5;have a2:=Z.gi.lt;have a3:=Z.RX;have a4:=Z.nT.size;omega
 ·refine⟨(h.LK k e).1,(h.LK k e).2.1,(h.LK k e).2.2.1,(h.LK k e).2.2.2.1,λA=> ?_⟩;rcases hv k A with Y|Y
  ·exact(h.LK k e).2.2.2.2 Y
  ·have:=Z.Gw.lt k e;omega
 ·by_cases X:i=q
  ·subst X;rw[iE,iE,iE];refine⟨z.plus λb=>W1.heap.size<=b/\b<(W2.setCell ⟨N,0,ν⟩ v').heap.size,rfl,nh,λb V=>⟨U b V,hz.yK rfl V⟩,hb.size,by simpa using H,λb V=> ?_⟩;show z.fm.no b \/_;rcases V with e|e
   ·exact .inl (M b e)
   ·exact .inr e
  ·rw[iC _ _ X,iC _ _ X,iC _ _ X];have J:i<q:=eh;refine(Z.Xu i J).step (by simpa using H) (λb b1 b2=> ?_);have b3:=(qF i J).2;have hs:=hb.size;refine Q b eh (λe=> ?_) (λe=> ?_)
   ·have:=h.out i J b (.inr (.inr (.inr (.inl e))));omega
   ·have:=h.out i J b (.inl e);omega
 ·by_cases X:i=q
  ·subst X;rw[iE];exact h.nT.size
  ·rw[iC _ _ X];exact h.lw i eh
 ·by_cases ek:k=q
  ·subst ek;rw[iC _ _ eh,iE];exact(qF i T).2
  ·rw[iC _ _ eh,iC _ _ ek];exact h.sep i k T eh
 ·have hold:(k=N \/k=gI \/k=bM \/v.ownBlock=μ k \/v2.ownBlock=μ k) \/W1.heap.size<=k:=by
   rcases hk with e|e|e|e|e
   ·exact .inl (.inl e)
   ·exact .inl (.inr (.inl e))
   ·exact .inl (.inr (.inr (.inl e)))
   ·exact(hv k e).imp_left (λe=>.inr (.inr (.inr (.inl e))))
   ·exact .inl (.inr (.inr (.inr (.inr e))))
  by_cases X:i=q
  ·subst X;rw[iE,iE];rcases hold with e|e
   ·left;rcases e with e|e|e|e|e
    ·have:=h.x5;omega
    ·have:=h.gi.lt;omega
    ·have:=h.RX;omega
    ·exact h.row.lt k e
    ·exact h.Gw.lt k e
   ·exact .inr e
  ·rw[iC _ _ X,iC _ _ X];rcases hold with e|e
   ·exact h.out i eh k e
   ·have:=(qF i eh).2;have hs:=hb.size;exact .inr eh
theorem EX.Pv(h:EX w W N gI bM m E ms q j L v v2 P lo hi) {v':dZ} (y:L.take (j+1)=L.take j++ [c])(H:Row W2 7 v' (j+1) (uS (L.take j)++uS [c]))(V:W.grownBy W2 v2.ownBlock)(hv:∀k,v'.ownBlock=μ k->v2.ownBlock=μ k \/W.heap.size<=k):
 EX w (W2.setCell ⟨N,3,ν⟩ v') N gI bM m E ms q (j+1) L v v' P lo hi:=by
 have J:∀b,b<W.heap.size->v2.ownBlock≠μ b->W2.heap[b]? =W.heap[b]? :=λb T S=>V.block b T (λe=>S e.symm);have U:∀b,b<W.heap.size->v2.ownBlock≠μ b->b≠N->(W2.setCell ⟨N,3,ν⟩ v').heap[b]? =W.heap[b]? :=λb T S A=>(aq _ _ _ b A).trans (J b T S);have Q:v2.ownBlock≠μ N:=λe=>(h.LK N e).2.1 rfl;have M:∀k,v'.ownBlock=μ k->k≠N:=λk e X=>by
  rcases hv k e with Y|Y
  ·exact(h.LK k Y).2.1 X
  ·have:=h.x5;omega
 have u:eE w W2:=h.nT.grown V h.nT.size (λk e=>(h.LK k e).1);refine⟨u.setCell (by show w.heap.size<=N;exact h.ne.2.2.2.1) _,?_,h.gi.keep (U gI h.gi.lt (λe=>(h.LK gI e).2.2.1 rfl) (λe=>h.ne.1 e.symm)),h.mp.keep (U bM h.RX (λe=>(h.LK bM e).2.2.2.1 rfl) (λe=>h.ne.2.1 e.symm)),h.row.keep (by simpa using V.size) (λk e=>U k (h.row.lt k e) (λX=>(h.LK k X).2.2.2.2 e) (h.fv k e).2.1),?_,h.ne,h.fv,λk e=> ?_,λi Z=> ?_,h.lw,h.sep,λi Z k G=> ?_⟩
 ·have Y:iX W2 N #[v,σ (μ ⟨gI,0,ν⟩) m m,.map (μ bM),v2] 190:=h.nb.keep (J N h.x5 Q);exact Y.set 3 v'
 ·rw[y,LH];exact H.keep gY (λk e=>aq _ _ _ k (M k e))
 ·rcases hv k e with Y|Y
  ·exact h.LK k Y
  ·have a1:=h.x5;have a2:=h.gi.lt;have a3:=h.RX;have a4:=h.nT.size;refine⟨eh,eh,eh,eh,λX=> ?_⟩;have:=h.row.lt k X;omega
 ·obtain⟨_,_,_,_,D,h5,_⟩:=h.Xu i Z;refine(h.Xu i Z).step (by simpa using V.size) (λb b1 b2=>U b eh (λe=> ?_) (λe=> ?_))
  ·have:=h.out i Z b (.inr (.inr (.inr (.inr e))));omega
  ·have:=h.out i Z b (.inl e);omega
 ·obtain⟨_,_,_,_,D,h5,_⟩:=h.Xu i Z;rcases G with e|e|e|e|e
  ·exact h.out i Z k (.inl e)
  ·exact h.out i Z k (.inr (.inl e))
  ·exact h.out i Z k (.inr (.inr (.inl e)))
  ·exact h.out i Z k (.inr (.inr (.inr (.inl e))))
  ·rcases hv k e with Y|Y
   ·exact h.out i Z k (.inr (.inr (.inr (.inr Y))))
   ·exact .inr eh
end
def nH(E:List (Int×Int×Int)):List (Int×Int):=E.map λx=>(x.1,x.2.1)
theorem Bm:∀ {E:List (Int×Int×Int)} {r p:Int},(kQ E r p).isSome=true↔(r,p)∈nH E
 |[],r,p=>by simp[kQ,nH]
 |x::E,r,p=>by
  unfold kQ;have ih:=Bm (E:=E) (r:=r) (p:=p);split
  ·rename_i h
   simp[nH,h.1,h.2]
  ·rename_i h
   rw[ih];constructor
   ·intro Y;exact cQ _ Y
   ·intro Y;have Z:(r,p)=(x.1,x.2.1) \/(r,p)∈nH E:=by
     have:(r,p)∈(x.1,x.2.1)::nH E:=Y;simpa using this
    rcases Z with Z|Z
    ·injection Z with X V
     exact absurd ⟨X.symm,V.symm⟩ h
    ·exact Z
theorem VW {E:List (Int×Int×Int)} (h:rz many c E=0):(1<=c.m/\c.m<=20)/\oS many c.a c.pa=true/\oS many c.b c.pb=true/\(c.a,c.pa)∉nH E/\(c.b,c.pb)∉nH (E++ [(c.a,c.pa,c.m)]):=by
 unfold rz at h;split at h
 ·simp at h
 ·split at h
  ·simp at h
  ·split at h
   ·simp at h
   ·split at h
    ·simp at h
    ·split at h
     ·simp at h
     ·rename_i h1 Y Z V X
      refine⟨eh,by simpa using Y,by simpa using V,λe=>Z (Bm.2 e),λe=>X (Bm.2 e)⟩
theorem PE {many:Int}:∀(L:List oV) (E:List (Int×Int×Int)),yH many L E=0->(nH E).Nodup->(∀c∈L,(1<=c.m/\c.m<=20)/\oS many c.a c.pa=true/\oS many c.b c.pb=true)/\(nH (E++kt L)).Nodup
 |[],E,_,hn=>⟨λc hc=>by simp at hc,by simpa[kt]using hn⟩
 |c::L,E,h,hn=>by
  rw[H4]at h;have Z:rz many c E=0:=by
   rcases Nat.eq_zero_or_pos (rz many c E)with e|e
   ·exact e
   ·rw[ai eh]at h;omega
  rw[Z,af gY]at h;obtain⟨g1,T,J,Q,Y⟩:=VW Z;have S:(nH (E++ [(c.a,c.pa,c.m),(c.b,c.pb,c.m)])).Nodup:=by
   have U:nH (E++ [(c.a,c.pa,c.m),(c.b,c.pb,c.m)])=(nH E++ [(c.a,c.pa)])++ [(c.b,c.pb)] :=by simp[nH]
   have M:nH (E++ [(c.a,c.pa,c.m)])=nH E++ [(c.a,c.pa)] :=by simp[nH]
   rw[U];rw[M]at Y;refine bF.2 ⟨bF.2 ⟨hn,gY,?_⟩,gY,?_⟩
   ·intro x hx y hy e;have:y=(c.a,c.pa):=by simpa using hy
    exact Q (by rw[<-this,<-e];exact hx)
   ·intro x hx y hy e;have:y=(c.b,c.pb):=by simpa using hy
    exact Y (by rw[<-this,<-e];exact hx)
  obtain⟨V,X⟩:=PE L _ h S;refine⟨λx hx=> ?_,?_⟩
  ·rcases aP.1 hx with rfl|hx
   ·exact⟨g1,T,J⟩
   ·exact V x hx
  ·have e:E++kt (c::L)=E++ [(c.a,c.pa,c.m),(c.b,c.pb,c.m)] ++kt L:=by simp[kt]
   rw[e];exact X
structure mU(many:Int)(L:List oV):Prop where
 m:1<=many/\many<=6
 l:L.length<=9
 c:∀c∈L,(1<=c.m/\c.m<=20)/\oS many c.a c.pa=true/\oS many c.b c.pb=true
 nd:(nH (kt L)).Nodup
theorem uT(h:nN many L=0):mU many L:=by
 unfold nN at h;split at h
 ·simp at h
 ·split at h
  ·simp at h
  ·obtain⟨Z,Y⟩:=PE L [] h (by simp[nH]);exact⟨eh,eh,Z,by simpa using Y⟩
theorem mX(h:oS many r p=true):1<=r/\r<=many/\0<=p/\p<3:=by
 unfold oS at h;simp only[Bool.and_eq_true,decide_eq_true_eq]at h;omega
theorem RY {x:Int×Int×Int} (h:x∈kt L):∃c∈L,x=(c.a,c.pa,c.m) \/x=(c.b,c.pb,c.m):=by
 unfold kt at h;obtain⟨c,hc,Z⟩:=aT.1 h;exact⟨c,hc,by simpa using Z⟩
theorem mU.ms(h:mU many L)(i p:Nat):1<=pg L i p/\pg L i p<=20:=by
 unfold pg;cases hl:kQ (kt L) ((i:Int)+1) (p:Int)with
 |none=>exact⟨eA,eA⟩
 |some m=>
  obtain⟨c,hc,Z⟩:=RY (Hq hl);have V:=(h.c c hc).1;show 1<=m/\m<=20;rcases Z with Z|Z
  ·injection Z with _ Y
   injection Y with _ X
   rw[X];exact V
  ·injection Z with _ Y
   injection Y with _ X
   rw[X];exact V
theorem mU.tells(h:mU many L)(m:Nat)(Z:Dl (kt L)):Vc (kt L) m (pg L):=⟨λi p _ _=>⟨rfl,h.ms i p⟩,Z⟩
theorem tF(L:List oV)(c d:Nat)(hc:c<L.length):(nG L c).e d=if d=0 then((L[c].a-1).toNat,L[c].pa.toNat)else((L[c].b-1).toNat,L[c].pb.toNat):=by
 unfold nG oV.at;simp only[List.getD_eq_getElem?_getD,List.getElem?_eq_getElem hc,Option.getD_some]
theorem mU.en(h:mU many L)(c d:Nat)(hc:c<L.length):((nG L c).e d).1<many.toNat/\((nG L c).e d).2<3:=by
 rw[tF L c d hc];obtain⟨_,Z,Y⟩:=h.c L[c] (aG hc);have e1:=mX Z;have e2:=mX Y;split
 ·simp only;omega
 ·simp only;omega
theorem EY:∀(L:List oV) (c d:Nat) (hc:c<L.length),d<2->(nH (kt L))[2*c+d]? =μ (if d=0 then(L[c].a,L[c].pa)else(L[c].b,L[c].pb))
 |x::L,0,d,_,hd=>by
  have:d=0 \/d=1:=eh;rcases this with rfl|rfl<;>rfl
 |x::L,c+1,d,hc,hd=>by
  have e:nH (kt (x::L))=[(x.a,x.pa),(x.b,x.pb)] ++nH (kt L):=by simp[nH,kt]
  rw[e,bw (by simp;omega)];have Z:2*(c+1)+d-List.length [(x.a,x.pa),(x.b,x.pb)] =2*c+d:=by simp;omega
  rw[Z];exact EY L c d (by simpa using hc) hd
theorem RZ {α:Type} {l:List α} (h:l.Nodup) {j:Nat} (hi:i<l.length)(X:j<l.length)(e:l[i] =l[j]):i=j:=by
 have Y:=dC.1 h;rcases Nat.lt_trichotomy i j with Z|Z|Z
 ·exact absurd e (Y i j hi X Z)
 ·exact Z
 ·exact absurd e.symm (Y j i X hi Z)
theorem mU.ds(h:mU many L)(c d c' d':Nat)(hc:c<L.length)(hd:d<2)(V:c'<L.length)(S:d'<2)(Z:(nG L c).e d=(nG L c').e d'):c=c'/\d=d':=by
 have k1:=EY L c d hc hd;have k2:=EY L c' d' V S;rw[tF L c d hc,tF L c' d' V]at Z;obtain⟨_,M,J⟩:=h.c L[c] (aG hc);obtain⟨_,b1,b2⟩:=h.c L[c'] (aG V);have e1:=mX M;have e2:=mX J;have e3:=mX b1;have e4:=mX b2;have Q:(if d=0 then(L[c].a,L[c].pa)else(L[c].b,L[c].pb))=(if d'=0 then(L[c'].a,L[c'].pa)else(L[c'].b,L[c'].pb)):=by
  by_cases X:d=0
  ·by_cases Y:d'=0
   ·rw[ai X,ai Y]at Z⊢;injection Z with U T
    rw[show L[c].a=L[c'].a by omega,show L[c].pa=L[c'].pa by omega]
   ·rw[ai X,af Y]at Z⊢;injection Z with U T
    rw[show L[c].a=L[c'].b by omega,show L[c].pa=L[c'].pb by omega]
  ·by_cases Y:d'=0
   ·rw[af X,ai Y]at Z⊢;injection Z with U T
    rw[show L[c].b=L[c'].a by omega,show L[c].pb=L[c'].pa by omega]
   ·rw[af X,af Y]at Z⊢;injection Z with U T
    rw[show L[c].b=L[c'].b by omega,show L[c].pb=L[c'].pb by omega]
 rw[Q]at k1;obtain⟨l1,v1⟩:=aL.1 k1;obtain⟨l2,v2⟩:=aL.1 k2;have:=RZ h.nd l1 l2 (v1.trans v2.symm);omega
theorem zV(h:mU many L):j3 (jQ many.toNat L) 0 0:=by
 have hm:=h.m;refine⟨by show 1<=many.toNat;omega,by show many.toNat<=6;omega,h.l,λc d hc _=>h.en c d hc,λc d c' d' hc hd Z Y e=>h.ds c d c' d' hc hd Z Y e,λi p _ _=>h.ms i p,λi _=>⟨rfl,rfl⟩,λi hi=> ?_,λ_ _=>⟨Int.le_refl _,Int.le_refl _⟩,λ_ _ _ _=>Nat.zero_le _,λ_ _=>Nat.le_refl _,λi p _ _ _=>qL _ _ p,λ_ _=>⟨Nat.le_refl _,λ_ _=>Nat.zero_le _⟩⟩;have kS:i<many.toNat:=hi;exact zQ eh (λp _=>h.ms i p)
theorem Row.spare {sz g n n' cap:Nat} {xs:List dZ} (h:Row w sz (σ (μ ⟨g,0,ν⟩) n' cap) n xs)(j:Nat)(Y:j<n*sz):w.frozen? ⟨g,j,ν⟩=false:=by
 rcases h.2 with⟨e,_⟩|⟨g',jr,e,_,Z,_,_,X⟩
 ·simp at e
 ·simp at e;obtain⟨rfl,rfl,rfl⟩:=e;exact(X j (Nat.lt_of_lt_of_le Y (Nat.mul_le_mul_right sz Z))).2
def acZ(g:Option Nat)(n c:Nat):dZ:=match g with|none=>.slice none 0 0|some g=>.slice (some ⟨g,0,none⟩) n c
theorem EX.done {N gI bM:Nat} {v v2:dZ} {lo hi:Nat->Nat} (iN:mU many L)(hE:Dl (kt L))(h:EX w W N gI bM many.toNat (kt L) (pg L) many.toNat L.length L v v2 P lo hi)(hw:0<w.heap.size)(X:Nat->Prop)(hX:∀b,X b->b<w.heap.size):
 ∃y,jG W y (jQ many.toNat L)/\y.N=N/\(∀b,y.all many.toNat b->w.heap.size<=b)/\∀b,y.ext b↔X b:=by
 have hm:=iN.m;obtain⟨m,QZ⟩:=gg (many.toNat);have vM:1<=m/\m<=6:=eh;have Aq:=λc d (hc:c<L.length) (_:d<2)=>iN.en c d hc;rw[QZ]at h Aq⊢;have YL:∃gR tQ,v=σ (μ ⟨gR,0,ν⟩) m tQ:=by
  rcases h.row.2 with⟨_,e2⟩|⟨g,c,e,_⟩
  ·omega
  ·exact⟨g,c,e⟩
 obtain⟨gR,tQ,rfl⟩:=YL;have hgC:∃gC wv,v2=acZ gC L.length wv/\(gC=ν->L.length=0):=by
  rcases h.Gw.2 with⟨e,e2⟩|⟨g,c,e,_⟩
  ·exact⟨ν,0,e,λ_=>e2⟩
  ·exact⟨μ g,c,e,λe=>by simp at e⟩
 obtain⟨gC,wv,rfl,FP⟩:=hgC;have hex:∀i,∃z:Zt,i<m->z.R=P i/\mr W z (jN ((i:Int)+1) 3 (pg L i))/\(∀b,z.ph b->lo i<=b/\b<hi i)/\∀b,(b<lo i \/(hi i<=b/\b<W.heap.size))->z.fm.no b:=λi=>by
  by_cases V:i<m
  ·obtain⟨z,Y,Z,S,_,_,h6⟩:=h.Xu i V;exact⟨z,λ_=>⟨Y,Z,S,h6⟩⟩
  ·obtain⟨z,_⟩:=h.Xu 0 eh;exact⟨z,λe=>absurd e V⟩
 obtain⟨z,A⟩:=Classical.skolem.1 hex;have hhi:∀i,i<m->lo i<=hi i/\hi i<=W.heap.size:=λi V=>by
  obtain⟨_,_,_,_,U,h5,_⟩:=h.Xu i V;exact⟨U,h5⟩
 obtain⟨y,hy⟩:∃y:Yt,y={N:=N,gR:=gR,tQ:=tQ,gI:=gI,yI:=m,gC:=gC,wv:=wv,bM:=bM,z:=z,iv:=λ_=>σ ν 0 0,ov:=λ_ _=>σ ν 0 0,ext:=X}:=⟨_,rfl⟩
 have hvR:eu (σ (μ ⟨gR,0,ν⟩) m tQ)=μ gR:=rfl;have G:∀g,gC=μ g->eu (acZ gC L.length wv)=μ g:=λg e=>by subst e;rfl
 have hat:∀l k,y.at l=μ k->(l=.N/\k=N) \/(l=.R/\k=gR) \/(l=.I/\k=gI) \/(l=.C/\gC=μ k):=λl k e=>by
  rw[hy]at e;cases l with
  |N=>exact .inl ⟨rfl,(Option.some.inj e).symm⟩
  |R=>exact .inr (.inl ⟨rfl,(Option.some.inj e).symm⟩)
  |I=>exact .inr (.inr (.inl ⟨rfl,(Option.some.inj e).symm⟩))
  |C=>exact .inr (.inr (.inr ⟨rfl,e⟩))
  |ib i=>simp[Yt.at,eu]at e
  |on c d=>simp[Yt.at,eu]at e
 have jl:∀k,y.own k->(k=N \/k=gR \/k=gI \/gC=μ k):=λk ⟨l,e⟩=>by
  rcases hat l k e with⟨_,e⟩|⟨_,e⟩|⟨_,e⟩|⟨_,e⟩
  ·exact .inl e
  ·exact .inr (.inl e)
  ·exact .inr (.inr (.inl e))
  ·exact .inr (.inr (.inr e))
 have D:=h.fv gR hvR;have T:∀k,gC=μ k->w.heap.size<=k/\k≠N/\k≠gI/\k≠bM/\gR≠k:=λk e=>by
  obtain⟨a1,a2,a3,a4,a5⟩:=h.LK k (G k e);exact⟨a1,a2,a3,a4,λe1=>a5 (by rw[<-e1];rfl)⟩
 have Oc:∀k,y.own k->w.heap.size<=k:=λk e=>by
  rcases jl k e with e|e|e|e
  ·rw[e];exact h.ne.2.2.2.1
  ·rw[e];exact D.1
  ·rw[e];exact h.ne.2.2.2.2.1
  ·exact(T k e).1
 have ac1:∀k,y.own k->k<W.heap.size:=λk e=>by
  rcases jl k e with e|e|e|e
  ·rw[e];exact h.x5
  ·rw[e];exact h.row.lt gR hvR
  ·rw[e];exact h.gi.lt
  ·exact h.Gw.lt k (G k e)
 have Y1:∀k,y.own k->∀i,i<m->k<lo i \/hi i<=k:=λk e i V=>by
  rcases jl k e with e|e|e|e
  ·exact h.out i V k (.inl e)
  ·exact h.out i V k (.inr (.inr (.inr (.inl (by rw[e];rfl)))))
  ·exact h.out i V k (.inr (.inl e))
  ·exact h.out i V k (.inr (.inr (.inr (.inr (G k e)))))
 have Q:y.z=z:=by rw[hy]
 have M:y.ext=X:=by rw[hy]
 have hwW:=h.nT.size;refine⟨y,⟨vM.1,vM.2,iN.l,?_,?_,?_,?_,?_,?_,?_,?_,?_,?_,λ_ _ _ _=>Nat.zero_le _,Aq,?_,?_,?_,?_,?_⟩,by rw[hy],?_,λb=>by rw[M]⟩
 ·rw[hy];have e:(Yt.cv {N:=N,gR:=gR,tQ:=tQ,gI:=gI,yI:=m,gC:=gC,wv:=wv,bM:=bM,z:=z,iv:=λ_=>σ ν 0 0,ov:=λ_ _=>σ ν 0 0,ext:=X} L.length)=acZ gC L.length wv:=by
   rfl
  show iX W N #[σ (μ ⟨gR,0,ν⟩) m tQ,σ (μ ⟨gI,0,ν⟩) m m,.map (μ bM),Yt.cv _ L.length] 190;rw[e];exact h.nb
 ·intro j H;have J:j<m:=H;rw[hy];show W.cell? ⟨gR,0+j,ν⟩=μ (π (μ ⟨(z j).R,0,ν⟩))/\W.frozen? ⟨gR,0+j,ν⟩=false;rw[Nat.zero_add,(A j J).1];exact⟨Row.cell h.row j _ (VT P J),Row.spare h.row j eh⟩
 ·intro j H;have J:j<m:=H;rw[hy];show W.cell? ⟨gI,0+j,ν⟩=μ (σ ν 0 0)/\W.frozen? ⟨gI,0+j,ν⟩=false;rw[Nat.zero_add];have Y:=h.gi.cell j;have e:(pE m)[j]? =μ (σ ν 0 0):=by
   unfold pE;rw[Array.getElem?_replicate,ai J]
  exact⟨Y.trans e,h.gi.frozen j⟩
 ·intro g hg c hc;have DF:gC=μ g:=by rw[hy]at hg;exact hg
  subst DF;have u:c<L.length:=hc;intro i V;have iW:Row W 7 (σ (μ ⟨g,0,ν⟩) L.length wv) L.length (uS (L.take L.length)):=h.Gw;rw[cr]at iW;refine⟨?_,Row.spare iW (c*7+i) eh⟩;have Y:=PD L c i u V;have Z:[eB .i64 L[c].a,ι κ L[c].pa,ι κ L[c].b,ι κ L[c].pb,.bool false,σ ν 0 0,σ ν 0 0][i]? =μ (CU (nG L c) (y.ov c) i):=by
   obtain⟨_,a1,a2⟩:=iN.c L[c] (aG u);have e1:=mX a1;have e2:=mX a2;have f0:=tF L c 0 u;have f1:=tF L c 1 u;rw[ai rfl]at f0;rw[af eA]at f1;have q1:(((L[c].a-1).toNat:Nat):Int)+1=L[c].a:=eh;have q2:((L[c].pa.toNat:Nat):Int)=L[c].pa:=eh;have q3:(((L[c].b-1).toNat:Nat):Int)+1=L[c].b:=eh;have q4:((L[c].pb.toNat:Nat):Int)=L[c].pb:=eh;have:i=0 \/i=1 \/i=2 \/i=3 \/i=4 \/i=5 \/i=6:=eh;rcases this with rfl|rfl|rfl|rfl|rfl|rfl|rfl
   ·show μ _=μ (eB .i64 ((((nG L c).e 0).1:Int)+1));rw[f0,q1]
   ·show μ _=μ (eB .i64 (((nG L c).e 0).2:Int));rw[f0,q2]
   ·show μ _=μ (eB .i64 ((((nG L c).e 1).1:Int)+1));rw[f1,q3]
   ·show μ _=μ (eB .i64 (((nG L c).e 1).2:Int));rw[f1,q4]
   ·rfl
   ·rw[hy];rfl
   ·rw[hy];rfl
  rw[Z]at Y;exact Row.cell iW _ _ Y
 ·intro c hc;have u:c<L.length:=hc;rw[hy];show∃g,gC=μ g;cases hg:gC with
  |none=>have:=FP hg;omega
  |some g=>exact⟨g,rfl⟩
 ·exact⟨kt L,by rw[hy];exact h.mp,iN.tells m hE⟩
 ·intro i V;rw[Q];exact(A i V).2.1
 ·exact λi _=>⟨rfl,rfl⟩
 ·intro i _;rw[hy];exact Row.nil _ 3
 ·intro c d _ _;rw[hy];exact Row.nil _ 1
 ·intro l l' k e e';rcases hat l k e with⟨Y,Z⟩|⟨Y,Z⟩|⟨Y,Z⟩|⟨Y,Z⟩<;>rcases hat l' k e' with⟨S,U⟩|⟨S,U⟩|⟨S,U⟩|⟨S,U⟩
  ·rw[Y,S]
  ·exact absurd (U.symm.trans Z) D.2.1
  ·exact absurd (Z.symm.trans U) h.ne.1
  ·exact absurd Z (T k U).2.1
  ·exact absurd (Z.symm.trans U) D.2.1
  ·rw[Y,S]
  ·exact absurd (Z.symm.trans U) D.2.2.1
  ·exact absurd Z.symm (T k U).2.2.2.2
  ·exact absurd (U.symm.trans Z) h.ne.1
  ·exact absurd (U.symm.trans Z) D.2.2.1
  ·rw[Y,S]
  ·exact absurd Z (T k U).2.2.1
  ·exact absurd U (T k Z).2.1
  ·exact absurd U.symm (T k Z).2.2.2.2
  ·exact absurd U (T k Z).2.2.1
  ·rw[Y,S]
 ·intro i V b hb;have Y2:i<m:=V;obtain⟨_,_,z3,z4⟩:=A i Y2;rw[Q];have YJ:b<lo i \/(hi i<=b/\b<W.heap.size):=by
   rcases hb with e|e|⟨j,H,ju,e⟩
   ·have Y:=Y1 b e i Y2;have Z:=ac1 b e;omega
   ·rw[M]at e;have Y:=hX b e;have Z:=h.lw i Y2;omega
   ·have J:j<m:=H;rw[Q]at e;have Y:=(A j J).2.2.1 b e;have Z:=hhi j J;rcases Nat.lt_or_gt_of_ne ju with S|S
    ·have:=h.sep j i S Y2;omega
    ·have:=h.sep i j S J;omega
  exact⟨z4 b YJ,λe=>by have:=z3 b (.inl e);omega⟩
 ·intro b hb e;rw[M]at hb;have Y:=hX b hb;have Z:=Oc b e;omega
 ·have Qn:y.bM=bM:=by rw[hy]
  rw[Qn,M,Q];refine⟨λe=> ?_,λe=> ?_,λi V e=> ?_⟩
  ·rcases jl bM e with e|e|e|e
   ·exact h.ne.2.1 e.symm
   ·exact D.2.2.2 e.symm
   ·exact h.ne.2.2.1 e.symm
   ·exact(T bM e).2.2.2.1 rfl
  ·have Y:=hX bM e;have Z:=h.ne.2.2.2.2.2;omega
  ·have Y:=(A i V).2.2.1 bM e;have Z:=h.out i V bM (.inr (.inr (.inl rfl)));omega
 ·intro e;have:=Oc 0 e;omega
 ·intro b e;rcases e with e|⟨j,H,e⟩
  ·exact Oc b e
  ·rw[Q]at e;have Y:=(A j H).2.2.1 b e;have Z:=h.lw j H;omega
theorem ac2(W:dY):(gZ 75 (ι κ 1) (ι κ 1)).run eX W=.ok (σ (μ ⟨W.heap.size,0,ν⟩) 1 1) (W.alloc (γ (pE 1) 53)):=gq
theorem ac3(W:dY):(gZ 75 (ι κ 2) (ι κ 2)).run eX W=.ok (σ (μ ⟨W.heap.size,0,ν⟩) 2 2) (W.alloc (γ (pE 2) 53)):=gq
theorem ac4(W:dY):(gZ 75 (ι κ 3) (ι κ 3)).run eX W=.ok (σ (μ ⟨W.heap.size,0,ν⟩) 3 3) (W.alloc (γ (pE 3) 53)):=gq
theorem ac5(W:dY):(gZ 75 (ι κ 4) (ι κ 4)).run eX W=.ok (σ (μ ⟨W.heap.size,0,ν⟩) 4 4) (W.alloc (γ (pE 4) 53)):=gq
theorem ac6(W:dY):(gZ 75 (ι κ 5) (ι κ 5)).run eX W=.ok (σ (μ ⟨W.heap.size,0,ν⟩) 5 5) (W.alloc (γ (pE 5) 53)):=gq
theorem ac7(W:dY):(gZ 75 (ι κ 6) (ι κ 6)).run eX W=.ok (σ (μ ⟨W.heap.size,0,ν⟩) 6 6) (W.alloc (γ (pE 6) 53)):=gq
theorem agH(p:Nat)(hp:1<=p/\p<=6)(W:dY):(gZ 75 (ι κ (p:Int)) (ι κ (p:Int))).run eX W=.ok (σ (μ ⟨W.heap.size,0,ν⟩) p p) (W.alloc (γ (pE p) 53)):=by
 have:p=1 \/p=2 \/p=3 \/p=4 \/p=5 \/p=6:=eh;rcases this with rfl|rfl|rfl|rfl|rfl|rfl
 ·exact ac2 W
 ·exact ac3 W
 ·exact ac4 W
 ·exact ac5 W
 ·exact ac6 W
 ·exact ac7 W
theorem Y3:(eX.info? 26).map (λi=>(i.zero,i.size,i.bytes))=μ (μ (π ν),1,8):=gq
theorem R6:(eX.info? 197).map (λi=>(i.zero,i.size,i.bytes))=μ (μ (.agg #[ι κ 0,ι κ 0,ι κ 0,ι κ 0,.bool false,σ ν 0 0,σ ν 0 0]),7,88):=gq
theorem Y4:(eX.info? 81).map (·.size)=μ 5:=gq
theorem Y5(p:Option Addr):∀u∈ [Value.pointer p],u.oneCell'=true:=by simp[Value.oneCell']
theorem LL(w:dY)(c:oV)(C:Array dZ)(t:TypeId)(g:Nat)(Z:w.heap.size=g)(hC:C.toList=uS [c] :=by rfl):∀(j:Nat) (u:dZ),(uS [c])[j]? =μ u->(w.alloc (γ C t)).cell? ((⟨g,0,ν⟩:Addr).add j)=μ u:=by
 subst Z;intro j u Y;rw[add_plain,ar,<-Y,<-hC];simp
def R7(w:dY)(many:Int)(L:List oV)(X:Nat->Prop)(e:Ending)(w':dY):Prop:=
 (nN many L≠0->e=ρ (τ #[π ν,jm (nN many L)]))/\(nN many L=0->∃y,e=ρ (τ #[π (μ ⟨y.N,0,ν⟩),η])/\jG w' y (jQ many.toNat L)/\(∀b,y.all many.toNat b->w.heap.size<=b)/\∀b,y.ext b↔X b)/\eE w w'
theorem PF(many:Int)(a:Option Addr)(cap:Nat)(L:List oV)(w:dY)(hL:zT w a L)(hl:L.length<=1000)(hT:jf w)(X:Nat->Prop)(hX:∀b,X b->b<w.heap.size):
 eW eX 36 #[ι κ many,σ a L.length cap] w λe w'=>R7 w many L X e w':=by
 have hm:=ya many a cap L w hL hl;by_cases h0:nN many L=0
 ·have iN:=uT h0;have hm6:=iN.m;obtain⟨m,QZ⟩:∃m:Nat,many=(m:Int):=⟨many.toNat,eh⟩
  subst QZ;have Jh:((m:Int)).toNat=m:=Int.toNat_natCast m;have CO:eW eX 95 #[ι κ (m:Int),σ a L.length cap] w λe w'=>∃b,e=ρ (τ #[.map (μ b),η])/\oD w' b (kt L)/\Dl (kt L)/\w.heap.size<=b/\eE w w':=by
   refine hm.mono ?_;rintro e w1 ⟨_,h2,hb⟩;obtain⟨b,h3,h4,h5,h6⟩:=h2 h0;exact⟨b,h3,h4,h5,h6,hb⟩
  have HL:Hid _:=hL;have Vh:Hid _:=iN;have HT:Hid _:=hT;have H00:Hid _:=h0;obtain⟨i1,vh,alv,alw,alx⟩:=aY Y3;obtain⟨i2,QQ,aly,alz,alA⟩:=aY R6;obtain⟨n,hn⟩:=gg (L.length);have HN:Hid _:=hn;have hl9:=iN.l;rw[hn]at CO hl9⊢;have vM:1<=m:=eh;have hm6:m<=6:=eh;have ZK:=agH m ⟨vM,hm6⟩;clear hm hL iN hT hl h0 hn
  go_in
  go_wp2_with(fail);refine CO.mono ?_;rintro e w1 ⟨bM,rfl,hE,hEO,hbM,kA⟩;have HE:Hid _:=hE;have HEO:Hid _:=hEO;have D3:Hid _:=kA;clear CO hE hEO kA;go_wp2_with(fail);have FR:(w1.alloc (γ (pE m) 53)).heap.size=w1.heap.size+1:=gY;obtain⟨W2,nr⟩:=gg ((w1.alloc (γ (pE m) 53)).alloc (γ #[σ ν 0 0,σ (μ ⟨w1.heap.size,0,ν⟩) m m,.map (μ bM),σ ν 0 0] 190));have Jb:eE w1 W2:=by rw[<-nr];exact(gW _ _).alloc gY _
  have Lg:EX w W2 (w1.heap.size+1) w1.heap.size bM m (kt L) (pg L) 0 0 L (σ ν 0 0) (σ ν 0 0) (λ_=>0) (λ_=>0) (λ_=>0):=by
   have D7:=D3.out.size;have pV:bM<w1.heap.size:=by
    obtain⟨es,clock,h1,_⟩:=HE.out;exact(ay.1 h1).1
   refine⟨gk D3.out Jb,?_,?_,oD.keep HE.out (Jb.block bM pV),Row.nil _ _,Row.nil _ _,⟨eh,eh,eh,eh,eh,hbM⟩,λk e=>by simp[eu]at e,λk e=>by simp[eu]at e,λi hi=>eh,λi hi=>eh,λi k _ hk=>eh,λi hi=>eh⟩
   ·have h1:iX W2 ((w1.alloc (γ (pE m) 53)).heap.size) #[σ ν 0 0,σ (μ ⟨w1.heap.size,0,ν⟩) m m,.map (μ bM),σ ν 0 0] 190:=by rw[<-nr];exact iX.new _ _ _
    rw[FR]at h1;exact h1
   ·have h1:iX (w1.alloc (γ (pE m) 53)) w1.heap.size (pE m) 53:=iX.new w1 _ _;rw[<-nr];exact h1.below (gW _ _)
  obtain⟨N,Xi⟩:=gg (w1.heap.size+1);obtain⟨gI,hgI⟩:=gg (w1.heap.size);rw[Xi,hgI]at Lg;have HM0:Hid _:=Lg;have Ua:Hid _:=nr;have HNe:Hid _:=Xi;have HgI:Hid _:=hgI;clear nr Jb Lg Xi hgI FR;rw[Ua.out]
  try rw[HNe.out]
  try rw[HgI.out]
  go_loopw [29] (λx wr=>∃(q:Nat) (v:dZ) (P lo hi:Nat->Nat),q<=m/\x=ι κ q/\EX w wr N gI bM m (kt L) (pg L) q 0 L v (σ ν 0 0) P lo hi) (λx _=>m-(eY x).toNat)
  case atStart=>exact⟨0,_,_,_,_,Nat.zero_le _,rfl,HM0.out⟩
  case round=>
   obtain⟨q,v,P,lo,hi,hq,rfl,H⟩:=hrel;obtain⟨V,rfl⟩:∃V,V=wr:=⟨_,rfl⟩
   by_cases kB:q<m
   ·have nQ:(q:Int)<(m:Int):=eh;have Xc:IntKind.i64.wrap ((q:Int)+1)=(q:Int)+1:=aX _ ⟨eh,eh⟩;have OW:=x6 N bM q (kt L) (pg L q) V (H.nb.cell 2) H.mp HEO.out eh (λp _=>⟨rfl,Vh.out.ms q p⟩) (jf.below (w:=w) HT.out H.nT) (λb=>b<V.heap.size) (λb e=>e);have HM:Hid _:=H;clear H;go_wp2_with(fail);refine OW.mono ?_;rintro e w3 ⟨z,rfl,nh,r9,Pk,hz4,hz5,hz6⟩;have u:=HM.out.below r9;have c0:w3.cell? ⟨N,0,ν⟩=μ v:=u.nb.cell 0;have Nl:=u.x5;have iW:=u.row;have HZ:Hid (mr w3 z (jN ((q:Int)+1) 3 (pg L q))/\eE V w3/\(∀b,z.ph b->V.heap.size<=b)/\∀b,b<V.heap.size->z.fm.no b):=by
     refine⟨nh,r9,λb hb=> ?_,hz6⟩;rcases hb with e|e|e
     ·exact Pk b e
     ·rw[e];exact hz4
     ·exact hz5 b e
    have HM3:Hid _:=u;clear OW nh r9 Pk hz4 hz5 hz6 u;go_wp2_with(at_builtin;go_must(refine iG _ rfl (.tmp 46) (.tmp 48) 187 rfl 26 i1 (π ν) 1 8 Tryz.underlying187 vh alv alw alx rfl eA v q (wI P q) rfl (iW.alloc _) _ 1 1 [π (μ ⟨z.R,0,ν⟩)] rfl rfl eA (qE _ _ _) (Y5 _) (by unfold maxLen;omega) eh ?_));intro g' jr w4 hr4 hg4 XZ;have hNv:v.ownBlock≠μ N:=λe=>(HM3.out.fv N e).2.1 rfl;have Mu:iX w4 N #[v,σ (μ ⟨gI,0,ν⟩) m m,.map (μ bM),σ ν 0 0] 190:=HM3.out.nb.keep ((hg4.block N (by simp;have:=HM3.out.x5;omega) (λe=>hNv e.symm)).trans (aU _ _ _ HM3.out.x5));have c4:w4.cell? ⟨N,0,ν⟩=μ v:=Mu.cell 0;have f4:=Mu.frozen 0;have l4:=Mu.lt;have HAdd:Hid (EX w (w4.setCell ⟨N,0,ν⟩ (σ (μ ⟨g',0,ν⟩) (q+1) jr)) N gI bM m (kt L) (pg L) (q+1) 0 L (σ (μ ⟨g',0,ν⟩) (q+1) jr) (σ ν 0 0) (jU P q z.R) (jU lo q V.heap.size) (jU hi q w3.heap.size)):=by
     obtain⟨a1,a2,a3,a4⟩:=HZ.out;refine EX.EA HM.out a1 a2 a3 a4 hr4 hg4 (λk hk=> ?_);have ze:g'=k:=by simpa[eu]using hk
     subst ze;rcases XZ with e|e
     ·exact .inl e
     ·right;have:(w3.alloc (γ #[π (μ ⟨z.R,0,ν⟩)] 26)).heap.size=w3.heap.size+1:=gY;omega
    clear hr4 hg4 XZ Mu hNv iW c0 Nl
    go_wp2
    go_roundw
    case rel=>exact⟨q+1,_,_,_,_,eh,by go_num,HAdd.out⟩
    case measure=>simp[eY];omega
   ·have xP:¬(q:Int)<(m:Int):=eh;obtain rfl:q=m:=eh;have HMq:Hid _:=H;clear H
    go_wp2
    go_loopw [55] (λx wr=>∃(j:Nat) (v2:dZ),j<=n/\x=ι κ j/\EX w wr N gI bM q (kt L) (pg L) q j L v v2 P lo hi) (λx _=>n-(eY x).toNat)
    case atStart=>exact⟨0,_,Nat.zero_le _,rfl,HMq.out⟩
    case round=>
    obtain⟨j,v2,hj,rfl,H⟩:=hrel;obtain⟨V2,rfl⟩:∃V2,V2=wr:=⟨_,rfl⟩
    by_cases hjl:j<n
    ·have ald:(j:Int)<(n:Int):=eh;have yF:(0:Int)<=(j:Int):=eh;have hjL:j<L.length:=by rw[HN.out];exact hjl
     obtain⟨b,off,rfl,k0,k1,k2,k3,k4⟩:=zT.below (w:=w) HL.out H.nT j hjL;have bl:=ag _ _ k0;have Yw:Hid (L.take (j+1)=L.take j++ [L[j]]):=by
      show _=_;rw[aB hjL]
     generalize L[j] =c at k0 k1 k2 k3 k4 Yw;obtain⟨ca,T,Q,U,cm⟩:=c;have kA:=gW V2 (γ #[ι κ ca,ι κ T,ι κ Q,ι κ U,ι κ cm] 81);have Oa:iX (V2.alloc (γ #[ι κ ca,ι κ T,ι κ Q,ι κ U,ι κ cm] 81)) V2.heap.size #[ι κ ca,ι κ T,ι κ Q,ι κ U,ι κ cm] 81:=iX.new V2 _ _;obtain⟨W1,j6⟩:=gg (V2.alloc (γ #[ι κ ca,ι κ T,ι κ Q,ι κ U,ι κ cm] 81));obtain⟨Y,hY⟩:=gg (V2.heap.size);have A:=H.below kA;have HYo:Hid (v2.ownBlock≠μ Y):=λe=>by have:=H.Gw.lt Y e;omega
     have HYN:Hid (Y≠N):=λe=>by have:=H.x5;omega
     rw[j6]at Oa A;rw[hY]at Oa;have HM:Hid _:=A;have hV0:iX W1.drew Y #[ι κ ca,ι κ T,ι κ Q,ι κ U,ι κ cm] 81:=Oa.drew;have c3a:W1.drew.cell? ⟨N,3,ν⟩=μ v2:=A.nb.cell 3;have Nl0:N<W1.drew.heap.size:=A.x5;have ki:∀D:dY,iX D Y #[ι κ ca,ι κ T,ι κ Q,ι κ U,ι κ cm] 81->(fN 81 (π (μ ⟨Y,0,ν⟩))).run eX D=.ok (.agg #[ι κ ca,ι κ T,ι κ Q,ι κ U,ι κ cm]) D:=λD hS=>by
      simp only[fN,Instr.sureAddr,Sem.run_bind,Sem.run_pure,Result.andThen];exact bU D Y 81 81 _ (0,0) _ hS Tryz.underlying81 rfl Y4
     have zU:=EV ca T Q U cm W1.drew;have JY:Hid _:=j6;have HY:Hid _:=hY;clear H A kA Oa j6 hY;go_wp2_with(fail);rw[JY.out]
     try rw[HY.out]
     refine cz (S:=λx=>iX x Y #[ι κ ca,ι κ T,ι κ Q,ι κ U,ι κ cm] 81) gq hV0 (λlF=> ?_);refine jn 0 (μ 59) rfl rfl gq gq gq (λ_ _ _ h=>h) (by rfl) (v:= ?_) ?_ je ?_
     rotate_left
     ·intro D M
      (try dsimp only at M)
      go_simp
      try with_reducible rfl
     simp only[gF,gG,gH,gJ];refine jn 1 (μ 60) rfl rfl gq gq gq (λ_ _ _ h=>h) (by rfl) (v:= ?_) ?_ je ?_
     rotate_left
     ·intro D M
      (try dsimp only at M)
      go_simp
      try with_reducible rfl
     simp only[gF,gG,gH,gJ];refine jn 2 (μ 61) rfl rfl gq gq gq (λ_ _ _ h=>h) (by rfl) (v:= ?_) ?_ je ?_
     rotate_left
     ·intro D M
      (try dsimp only at M)
      go_simp
      try with_reducible rfl
     simp only[gF,gG,gH,gJ];refine jn 3 (μ 62) rfl rfl gq gq gq (λ_ _ _ h=>h) (by rfl) (v:= ?_) ?_ je ?_
     rotate_left
     ·intro D M
      (try dsimp only at M)
      go_simp
      try with_reducible rfl
     simp only[gF,gG,gH,gJ];refine jn 5 (μ 64) rfl rfl gq gq gq (λ_ _ _ h=>h) (by rfl) (v:=.agg #[ι κ ca,ι κ T,ι κ Q,ι κ U,ι κ cm]) ?_ je ?_
     ·intro D M;have h7:=ki D M;simp[execOp,Act.eval,h7]
     simp only[gF,gG,gH,gJ];refine aR (rs:=[4,6]) gq gY ?_;refine aH (o:=_) rfl (λK Z=> ?_) (aH (o:=_) rfl (λK Z=> ?_) aO)
     focus
      go_simp
      (try go_wp2_with(fail))
      refine Z.out _ _ (by exact hV0) (λlF=> ?_);clear Z K;refine aR (rs:=[6]) gq gY ?_;refine aH (o:=_) rfl (λK Z=> ?_) aO
      go_simp
      refine zU.mono ?_;rintro e w1 ⟨rfl,be⟩;have qT:=HM.out.below (gk (iZ _) be);have J:=hV0.below be;have c3b:w1.cell? ⟨N,3,ν⟩=μ v2:=qT.nb.cell 3;have Nl1:=qT.x5
      (try go_wp2_with(fail))
      refine Z.out _ _ (by exact J) (λlF=> ?_);clear Z K;refine jn 7 (μ 66) rfl rfl gq gq gq (λ_ _ _ h=>h) (by rfl) (v:= ?_) ?_ je ?_
      rotate_left
      ·intro D M
       (try dsimp only at M)
       go_simp
       try with_reducible rfl
      simp only[gF,gG,gH,gJ];refine aR (rs:=[8]) gq gY ?_;refine aH (o:=_) rfl (λK Z=> ?_) aO
      go_simp
      have RI:=iX.below J (gW w1 (γ #[ι κ ca,ι κ T,ι κ Q,ι κ U,.bool false,σ ν 0 0,σ ν 0 0] 197));have G:=qT.below (gW w1 (γ #[ι κ ca,ι κ T,ι κ Q,ι κ U,.bool false,σ ν 0 0,σ ν 0 0] 197));have c3c:(w1.alloc (γ #[ι κ ca,ι κ T,ι κ Q,ι κ U,.bool false,σ ν 0 0,σ ν 0 0] 197)).cell? ⟨N,3,ν⟩=μ v2:=G.nb.cell 3;have Nl2:=G.x5
      (try go_wp2_with(fail))
      refine Z.out _ _ (by exact RI) (λlF=> ?_);clear Z K
     rotate_left
     focus
      go_simp
      refine zU.mono ?_;rintro e w1 ⟨rfl,be⟩;have qT:=HM.out.below (gk (iZ _) be);have J:=hV0.below be;have c3b:w1.cell? ⟨N,3,ν⟩=μ v2:=qT.nb.cell 3;have Nl1:=qT.x5
      (try go_wp2_with(fail))
      refine Z.out _ _ (by exact J) (λlF=> ?_);clear Z K;refine jn 7 (μ 66) rfl rfl gq gq gq (λ_ _ _ h=>h) (by rfl) (v:= ?_) ?_ je ?_
      rotate_left
      ·intro D M
       (try dsimp only at M)
       go_simp
       try with_reducible rfl
      simp only[gF,gG,gH,gJ];refine aR (rs:=[4,8]) gq gY ?_;refine aH (o:=_) rfl (λK Z=> ?_) (aH (o:=_) rfl (λK Z=> ?_) aO)
      focus
       go_simp
       (try go_wp2_with(fail))
       refine Z.out _ _ (by exact J) (λlF=> ?_);clear Z K;refine aR (rs:=[8]) gq gY ?_;refine aH (o:=_) rfl (λK Z=> ?_) aO
       go_simp
       have RI:=iX.below J (gW w1 (γ #[ι κ ca,ι κ T,ι κ Q,ι κ U,.bool false,σ ν 0 0,σ ν 0 0] 197));have G:=qT.below (gW w1 (γ #[ι κ ca,ι κ T,ι κ Q,ι κ U,.bool false,σ ν 0 0,σ ν 0 0] 197));have c3c:(w1.alloc (γ #[ι κ ca,ι κ T,ι κ Q,ι κ U,.bool false,σ ν 0 0,σ ν 0 0] 197)).cell? ⟨N,3,ν⟩=μ v2:=G.nb.cell 3;have Nl2:=G.x5
       (try go_wp2_with(fail))
       refine Z.out _ _ (by exact RI) (λlF=> ?_);clear Z K
      rotate_left
      go_simp
      have RI:=iX.below J (gW w1 (γ #[ι κ ca,ι κ T,ι κ Q,ι κ U,.bool false,σ ν 0 0,σ ν 0 0] 197));have G:=qT.below (gW w1 (γ #[ι κ ca,ι κ T,ι κ Q,ι κ U,.bool false,σ ν 0 0,σ ν 0 0] 197));have c3c:(w1.alloc (γ #[ι κ ca,ι κ T,ι κ Q,ι κ U,.bool false,σ ν 0 0,σ ν 0 0] 197)).cell? ⟨N,3,ν⟩=μ v2:=G.nb.cell 3;have Nl2:=G.x5
      (try go_wp2_with(fail))
      refine Z.out _ _ (by exact RI) (λlF=> ?_);clear Z K;refine aR (rs:=[4]) gq gY ?_;refine aH (o:=_) rfl (λK Z=> ?_) aO
      go_simp
      (try go_wp2_with(fail))
      refine Z.out _ _ (by exact RI) (λlF=> ?_);clear Z K
     all_goals
      refine aR (rs:=[9]) gq gY ?_;refine aH (o:=_) rfl (λK Z=> ?_) aO;refine lU (by rfl) (.tmp 63) (.tmp 67) 188 (by rfl) 197 i2 (.agg #[ι κ 0,ι κ 0,ι κ 0,ι κ 0,.bool false,σ ν 0 0,σ ν 0 0]) 7 88 Tryz.underlying188 QQ aly alz alA (by rfl) eA v2 j (uS (L.take j)) (by rfl) G.Gw _ 1 1 (uS [⟨ca,T,Q,U,cm⟩]) (by rfl) (by rfl) eA (LL _ _ _ _ _ rfl) (VR _) (by unfold maxLen;omega) eh ?_;intro g' jr x1 k8 kE jF;have C2:iX x1 N _ 190:=G.nb.keep (kE.block N G.x5 (λe=>(G.LK N e.symm).2.1 rfl));have hV3:iX x1 Y _ 81:=RI.keep (kE.block Y RI.lt (λe=>HYo.out e.symm));have c3d:x1.cell? ⟨N,3,ν⟩=μ v2:=C2.cell 3;have f3d:=C2.frozen 3;have Nl3:=C2.lt;refine Z.out _ _ (by exact hV3) (λlF=> ?_);clear Z K;refine jn 10 (μ 69) rfl rfl gq gq gq (λ_ _ _ h=>h) (by rfl) (v:= ?_) ?_ je ?_
      rotate_left
      ·intro D M
       (try dsimp only at M)
       go_simp
       try with_reducible rfl
      simp only[gF,gG];refine jn 11 (μ 70) rfl rfl gq gq gq (λ_ _ _ h=>h) (by rfl) (v:= ?_) ?_ je ?_
      rotate_left
      ·intro D M
       (try dsimp only at M)
       go_simp
       try with_reducible rfl
      simp only[gF];refine aR (rs:=[12]) gq gY ?_;refine aH (o:=_) rfl (λK Z=> ?_) aO
      go_simp
      (try go_wp2_with(fail))
      refine Z.out _ _ (by exact hV3.other HYN.out _) (λlF=> ?_);clear Z K;refine cS gq ?_ _;have HAdd:Hid _:=EX.Pv G (c:=⟨ca,T,Q,U,cm⟩) Yw.out k8 kE (λk hk=>by
       have ze:g'=k:=by simpa[eu]using hk
       subst ze;exact jF)
      clear k8 kE jF C2 hV3 c3d f3d Nl3 qT G J RI
      go_wp2
      go_roundw
      case rel=>exact⟨j+1,_,eh,by go_num,HAdd.out⟩
      case measure=>simp[eY];omega
    ·have agp:¬(j:Int)<(n:Int):=eh;obtain rfl:j=n:=eh;have ui:∃y,jG V2 y (jQ ((q:Int)).toNat L)/\y.N=N/\(∀b,y.all ((q:Int)).toNat b->w.heap.size<=b)/\∀b,y.ext b↔X b:=by
      have G:EX w V2 N gI bM ((q:Int)).toNat (kt L) (pg L) ((q:Int)).toNat L.length L v v2 P lo hi:=by
       rw[Jh,HN.out];exact H
      exact EX.done (w:=w) (many:=(q:Int)) Vh.out HEO.out G (jf.lt (w:=w) HT.out) X hX
     have HF:Hid (R7 w (q:Int) L X (ρ (τ #[π (μ ⟨N,0,ν⟩),η])) V2):=by
      obtain⟨y,y1,y2,y3,y4⟩:=ui;exact⟨λe=>absurd H00.out e,λ_=>⟨y,by rw[y2],y1,y3,y4⟩,H.nT⟩
     clear H ui
     go_wp2
     go_ret2
     exact HF.out
 ·have CO:eW eX 95 #[ι κ many,σ a L.length cap] w λe w'=>e=ρ (τ #[.map ν,jm (nN many L)])/\eE w w':=by
   refine hm.mono ?_;rintro e w1 ⟨h1,_,hb⟩;exact⟨h1 h0,hb⟩
  have ee:jm (nN many L)=.iface 128 (ι κ ((nN many L:Nat):Int)):=by simp only[jm];rw[af h0]
  have HE:Hid _:=ee;have H0:Hid _:=h0;rw[ee]at CO;generalize L.length=n at CO⊢;clear hm hL hT ee h0
  go_in
  go_wp2_with(fail);refine CO.mono ?_;rintro e w1 ⟨rfl,hb⟩;have HB:Hid _:=hb;clear CO hb
  go_wp2
  go_ret2
  exact⟨λ_=>by rw[HE.out];rfl,λe=>absurd e H0.out,HB.out⟩
