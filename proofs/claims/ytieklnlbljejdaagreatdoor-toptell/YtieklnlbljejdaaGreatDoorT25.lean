import Derived.Test.YtieklnlbljejdaaGreatDoorT24
open Go.Value renaming int → ι, slice → σ, pointer → π, tuple → τ, nilIface → η
open Go.IntKind renaming i64 → κ
open Go.Ending renaming returned → ρ
open Go.Obj renaming cells → γ
open Option renaming none → ν, some → μ
open Go renaming World → dN, Value → dO
open Go.Proofs.Tryz renaming prog → eN
set_option maxRecDepth 100000
set_option maxHeartbeats 8000000
namespace Go.Proofs.YtieklnlbljejdaaGreatDoor
open Go.RowKit St
namespace Rt
variable {L:List oH} {W2 w w':World} {c:oH} {i q:Nat} {many p r:Int}
theorem Kx(l:List oH)(c:oH):jG (l++ [c])=jG l++ [(c.a,c.pa,c.m),(c.b,c.pb,c.m)] :=by simp[jG]
theorem N9(h:nR many r p=true)(h6:many<=6):1<=r/\r<=6/\0<=p/\p<=2:=by
 unfold nR at h;simp only[Bool.and_eq_true,decide_eq_true_eq]at h;omega
def pO(many:Int)(c:oH)(E:List (Int×Int×Int)):Nat:=
 if c.m<1 \/20<c.m then 1
 else if nR many c.a c.pa=false then 1
 else if(jF E c.a c.pa).isSome=true then 8
 else if nR many c.b c.pb=false then 1
 else if(jF (E++ [(c.a,c.pa,c.m)]) c.b c.pb).isSome=true then 8
 else 0
theorem D6(many:Int)(c:oH)(l:List oH)(E:List (Int×Int×Int)):wu many (c::l) E=if pO many c E≠0 then pO many c E else wu many l (E++ [(c.a,c.pa,c.m),(c.b,c.pb,c.m)]):=by
 conv=>lhs;unfold wu
 unfold pO;split
 ·rfl
 ·split
  ·rfl
  ·split
   ·rfl
   ·split
    ·rfl
    ·split
     ·rfl
     ·rw[ae gN]
def yN(w:dN)(many:Int)(L:List oH)(e:Ending)(w':dN):Prop:=(mS many L≠0->e=ρ (τ #[.map ν,iP (mS many L)]))/\(mS many L=0->∃b,e=ρ (τ #[.map (μ b),η])/\nA w' b (jG L)/\Ar (jG L)/\w.heap.size<=b)/\dV w w'
theorem yN.bad {f:Nat} (hf:mS many L=f)(Z:f≠0)(hb:dV w w'):yN w many L (ρ (τ #[.map ν,iP f])) w':=⟨λ_=>by rw[hf],λe=>absurd (hf.symm.trans e) Z,hb⟩
theorem yN.good {b:Nat} (hf:mS many L=0)(X:nA w' b (jG L))(Y:Ar (jG L))(hb:w.heap.size<=b)(Z:dV w w'):yN w many L (ρ (τ #[.map (μ b),η])) w':=⟨λe=>absurd hf e,λ_=>⟨b,rfl,X,Y,hb⟩,Z⟩
theorem UH(W:dN):(Instr.makeMap 184 ν).run eN W=.ok (.map (μ W.heap.size)) (W.alloc (.map #[] 0)):=rfl
theorem zE(w:dN)(b:Nat)(E:List (Int×Int×Int))(S:Ar E)(many r p:Int)(h6:many<=6)(W:dN)(t:nA W b E)(hb:w.heap.size<=b)(u:dV w W)(nQ:b<W.heap.size)(Z Y:Nat)(m:Int)(H:W.cell? ⟨Z,0,ν⟩=μ (ι κ r)/\W.cell? ⟨Z,1,ν⟩=μ (ι κ p))(Q:W.cell? ⟨Y,4,ν⟩=μ (ι κ m)):
 Calls eN 154 #[.agg #[ι κ r,ι κ p],ι κ many] W λe X=>e=ρ (.bool (nR many r p))/\dV w X/\(X.cell? ⟨Z,0,ν⟩=μ (ι κ r)/\X.cell? ⟨Z,1,ν⟩=μ (ι κ p))/\X.cell? ⟨Y,4,ν⟩=μ (ι κ m)/\
  (nR many r p=true->(Instr.lookup 184 (.map (μ b)) (.agg #[ι κ r,ι κ p]) true).run eN X=.ok (τ #[ι κ ((jF E r p).getD 0),.bool (jF E r p).isSome]) X/\
   (jF E r p=ν->∃V,(Instr.mapUpdate 184 (.map (μ b)) (.agg #[ι κ r,ι κ p]) (ι κ m)).run eN X=.ok () V/\nA V b (E++ [(r,p,m)])/\Ar (E++ [(r,p,m)])/\dV w V/\V.cell? ⟨Y,4,ν⟩=μ (ι κ m)/\b<V.heap.size)):=by
 refine(uS r p many W).mono ?_;rintro e X ⟨rfl,b1⟩;have U:=af _ _ H.1;have J:=af _ _ Q;have y1:=(ai (a:=⟨Y,4,ν⟩) (b1.block Y J)).trans Q;have sC:=t.keep (b1.block b nQ);refine⟨rfl,gD u b1,⟨(ai (a:=⟨Z,0,ν⟩) (b1.block Z U)).trans H.1,(ai (a:=⟨Z,1,ν⟩) (b1.block Z U)).trans H.2⟩,y1,λiC=> ?_⟩;have D:=N9 iC h6;refine⟨nA.look sC S D,λh=> ?_⟩;obtain⟨V,g1,g2,g3,g4,g5,A,y⟩:=nA.store (m:=m) sC S D h;have M:Y≠b:=λe=>by
  subst e;obtain⟨es,clock,h1,_⟩:=t;simp[World.cell?,h1]at Q
 have T:=gD u b1;refine⟨V,g1,g2,S.snoc D h,⟨g3.trans T.os,g4.trans T.tape,g5.trans T.output,by rw[A];exact T.size,λk hk=> ?_⟩,(ai (a:=⟨Y,4,ν⟩) (y Y M)).trans y1,by rw[A];exact Nat.lt_of_lt_of_le nQ b1.size⟩;have G:k≠b:=dP;exact(y k G).trans (T.block k hk)
theorem vJ(many:Int)(a:Option Addr)(cap:Nat)(L:List oH)(w:dN)(hL:Ae w a L)(hl:L.length<=1000):
 Calls eN 95 #[ι κ many,σ a L.length cap] w λe w'=>yN w many L e w':=by
 by_cases D:many<1 \/6<many
 ·have G:mS many L=1:=by unfold mS;rw[ag D]
  have S:Hid _:=yN.bad G dS (aq _ w);clear hL G;generalize L.length=n at hl⊢;by_cases h2:many<1
  ·clear D
   go_in
   go_wp2
   go_ret2
   exact S.out
  ·have h3:6<many:=dP;clear D
   go_in
   go_wp2
   go_ret2
   exact S.out
 ·have h1a:¬many<1:=dP;have h1b:¬6<many:=dP;by_cases h9:9<L.length
  ·have G:mS many L=2:=by unfold mS;rw[ae D,ag h9]
   have S:Hid _:=yN.bad G dS (aq _ w);have Yq:(9:Int)<(L.length:Int):=dP;clear hL G D;generalize L.length=n at hl h9 Yq⊢
   go_in
   go_wp2
   go_ret2
   exact S.out
  ·have HE:Hid (mS many L=wu many L []):=by show _=_;unfold mS;rw[ae D,ae h9]
   have Yq:¬(9:Int)<(L.length:Int):=dP;have HL:Hid _:=hL;obtain⟨n,hn⟩:=fP (L.length);have HN:Hid _:=hn;have Hs:nA (w.alloc (.map #[] 0)) w.heap.size [] :=⟨#[],0,aS w _,rfl⟩
   have OX:=UH;obtain⟨bM,Yn⟩:=fP (w.heap.size);have H0:Hid (nA (w.alloc (.map #[] 0)) bM (jG (L.take 0))/\Ar (jG (L.take 0))/\dV w (w.alloc (.map #[] 0))/\bM<(w.alloc (.map #[] 0)).heap.size/\wu many L [] =wu many (L.drop 0) (jG (L.take 0))):=by
    rw[Yn]at Hs;exact⟨Hs,λx hx=>by simp[jG]at hx,gM _ _,by rw[<-Yn];simp,rfl⟩
   have HbM:Hid _:=Yn;rw[hn]at hl Yq⊢;clear hL D h9 hn Hs
   go_in
   go_wp2_with(fail)
   try rw[HbM.out]
   go_loopw [27] (λx wr=>∃j:Nat,j<=n/\x=ι κ j/\nA wr bM (jG (L.take j))/\Ar (jG (L.take j))/\dV w wr/\bM<wr.heap.size/\wu many L [] =wu many (L.drop j) (jG (L.take j))) (λx _=>n-(intOf x).toNat)
   case atStart=>exact⟨0,Nat.zero_le _,rfl,H0.out⟩
   case round=>
    obtain⟨j,hj,rfl,hm,G,hB,nQ,hF⟩:=hrel;obtain⟨V,rfl⟩:∃V,V=wr:=⟨_,rfl⟩
    by_cases kc:j<n
    ·have nh:(j:Int)<(n:Int):=dP;have vr:(0:Int)<=(j:Int):=dP;have ZW:j<L.length:=by rw[HN.out];exact kc
     obtain⟨b,off,rfl,k0,k1,k2,k3,k4⟩:=Ae.below (w:=w) HL.out hB j ZW;have hd:L.drop j=L[j] ::L.drop (j+1):=aO ZW;have ht:jG (L.take (j+1))=jG (L.take j)++ [(L[j].a,L[j].pa,L[j].m),(L[j].b,L[j].pb,L[j].m)] :=by
      rw[aw ZW,Kx]
     rw[hd,D6]at hF;generalize L[j] =c at k0 k1 k2 k3 k4 hF ht;obtain⟨E,hEe⟩:=fP (jG (L.take j));rw[hEe]at hm G hF ht;have HT:Hid _:=ht;have RL:Hid (∀f,pO many c E=f->f≠0->mS many L=f):=by
      intro f D h2;rw[HE.out,hF,D,ag h2]
     have ace:Hid (pO many c E=0->wu many L [] =wu many (L.drop (j+1)) (E++ [(c.a,c.pa,c.m),(c.b,c.pb,c.m)])):=by
      intro D;rw[hF,D,ae gN]
     obtain⟨ca,X,U,T,cm⟩:=c;have bl:=af _ _ k0;have HM:Hid _:=hm;have HEO:Hid _:=G;have HB:Hid _:=hB;have HBL:Hid _:=nQ;obtain⟨W1,jO⟩:=fP (V.alloc (γ #[ι κ ca,ι κ X,ι κ U,ι κ T,ι κ cm] 81));obtain⟨Y,hY⟩:=fP (V.heap.size);have jV:=gM V (γ #[ι κ ca,ι κ X,ι κ U,ι κ T,ι κ cm] 81);have Ky:iM (V.alloc (γ #[ι κ ca,ι κ X,ι κ U,ι κ T,ι κ cm] 81)) V.heap.size #[ι κ ca,ι κ X,ι κ U,ι κ T,ι κ cm] 81:=iM.new V _ _;rw[jO]at jV Ky;rw[hY]at Ky;have g0:W1.cell? ⟨Y,0,ν⟩=μ (ι κ ca):=Ky.cell 0;have g1:W1.cell? ⟨Y,1,ν⟩=μ (ι κ X):=Ky.cell 1;have g2:W1.cell? ⟨Y,2,ν⟩=μ (ι κ U):=Ky.cell 2;have g3:W1.cell? ⟨Y,3,ν⟩=μ (ι κ T):=Ky.cell 3;have g4:W1.cell? ⟨Y,4,ν⟩=μ (ι κ cm):=Ky.cell 4;have gl:=Ky.lt;have vp:dV w W1:=gD hB jV;have sC:nA W1 bM E:=hm.keep (jV.block bM nQ);have acf:bM<W1.heap.size:=Nat.lt_of_lt_of_le nQ jV.size;have N3:Hid _:=jO;have HY:Hid _:=hY;have CS:Hid _:=vp;have HM1:Hid _:=sC;have acg:Hid _:=acf;have HBY:Hid _:=Ky;have D7:=Cc ca X U T cm W1;clear hm G hB nQ hF hd ht hEe jV Ky vp sC acf jO hY;by_cases wO:cm<1 \/20<cm
     ·have y:mS many L=1:=RL.out 1 (by unfold pO;rw[ag wO]) dS;have S:Hid _:=yN.bad (w':=W1) y dS CS.out;clear D7;by_cases zU:cm<1
      ·clear wO;go_wp2_with(fail);rw[N3.out]
       try rw[HY.out]
       go_wp2
       go_ret2
       exact S.out
      ·have hm3:20<cm:=dP;clear wO;go_wp2_with(fail);rw[N3.out]
       try rw[HY.out]
       go_wp2
       go_ret2
       exact S.out
     ·have zU:¬cm<1:=dP;have hm3:¬20<cm:=dP;have Ni:Hid _:=wO;clear wO;go_wp2_with(fail);rw[N3.out]
      try rw[HY.out]
      go_wp2_with(fail);refine D7.mono ?_;rintro e w2 ⟨rfl,be⟩;have HI0:Hid (nA w2 bM (E)/\Ar (E)/\dV w w2/\bM<w2.heap.size/\w2.cell? ⟨Y,4,ν⟩=μ (ι κ cm)):=⟨nA.keep HM1.out (be.block bM acg.out),HEO.out,gD CS.out be,Nat.lt_of_lt_of_le acg.out be.size,(ai (a:=⟨Y,4,ν⟩) (be.block Y gl)).trans g4⟩
      clear D7 be k0 k1 k2 k3 k4 g0 g1 g2 g3 g4 gl bl
      go_wp2
      go_loopw [42] (λx wr=>(x=ι κ 0/\(nA wr bM (E)/\Ar (E)/\dV w wr/\bM<wr.heap.size/\wr.cell? ⟨Y,4,ν⟩=μ (ι κ cm))) \/(x=ι κ 1/\(nA wr bM (E++ [(ca,X,cm)])/\Ar (E++ [(ca,X,cm)])/\dV w wr/\bM<wr.heap.size/\wr.cell? ⟨Y,4,ν⟩=μ (ι κ cm))/\(nR many ca X=true/\jF E ca X=ν)) \/(x=ι κ 2/\(nA wr bM (E++ [(ca,X,cm)] ++ [(U,T,cm)])/\Ar (E++ [(ca,X,cm)] ++ [(U,T,cm)])/\dV w wr/\bM<wr.heap.size/\wr.cell? ⟨Y,4,ν⟩=μ (ι κ cm))/\pO many ⟨ca,X,U,T,cm⟩ E=0)) (λx _=>2-(intOf x).toNat)
      case atStart=>exact .inl ⟨rfl,HI0.out⟩
      case round=>
       obtain⟨Q,rfl⟩:∃Q,Q=wr:=⟨_,rfl⟩
       rcases hrel with⟨rfl,A⟩|⟨rfl,A,wX⟩|⟨rfl,A,wX⟩
       ·skip
        obtain⟨i1,i2,i3,i4,i5⟩:=A;have hix:=Yb ca X U T;obtain⟨W4,sK⟩:=fP (Q.alloc (γ #[ι κ ca,ι κ X] 192));obtain⟨Z,hZ⟩:=fP (Q.heap.size);have ba:=gM Q (γ #[ι κ ca,ι κ X] 192);have H:iM (Q.alloc (γ #[ι κ ca,ι κ X] 192)) Q.heap.size #[ι κ ca,ι κ X] 192:=iM.new Q _ _;rw[sK]at ba H;rw[hZ]at H;have z0:W4.cell? ⟨Z,0,ν⟩=μ (ι κ ca):=H.cell 0;have z1:W4.cell? ⟨Z,1,ν⟩=μ (ι κ X):=H.cell 1;have zl:=H.lt;have y4:W4.cell? ⟨Y,4,ν⟩=μ (ι κ cm):=(ai (a:=⟨Y,4,ν⟩) (ba.block Y (af _ _ i5))).trans i5;have Ii:=zE w bM (E) i2 many ca X dP W4 (i1.keep (ba.block bM i4)) (by rw[HbM.out];exact Nat.le_refl _) (gD i3 ba) (Nat.lt_of_lt_of_le i4 ba.size) Z Y cm ⟨z0,z1⟩ y4;have Kr:Hid _:=sK;have HZ:Hid _:=hZ;clear i1 i2 i3 i4 i5 sK hZ ba H;go_wp2_with(fail)
        try rw[Kr.out]
        try rw[HZ.out]
        go_wp2_with(fail);refine Ii.mono ?_;rintro e w5 ⟨rfl,b5,⟨x0,x1⟩,x4,Cd⟩;have xl:=af _ _ x0;have yl:=af _ _ x4;clear Ii z0 z1 zl y4;cases J:nR many ca X with
        |false=>
         have y:mS many L=1:=RL.out 1 (by unfold pO;rw[ae Ni.out,ag J]) dS;have S:Hid _:=yN.bad (w':=w5) y dS b5;clear Cd b5
         go_wp2
         go_ret2
         exact S.out
        |true=>
         obtain⟨qd,jX⟩:=Cd J;clear Cd;cases M:jF (E) ca X with
         |some m0=>
          have y:mS many L=8:=RL.out 8 (by unfold pO;rw[ae Ni.out,ae (by rw[J];simp),ag (by rw[M];rfl)]) dS;have S:Hid _:=yN.bad (w':=w5) y dS b5;rw[M]at qd;have q1:(Option.getD (μ m0) 0)=m0:=rfl;have q2:(Option.isSome (μ m0))=true:=rfl;rw[q1,q2]at qd;clear jX b5 J M y
          go_wp2
          go_ret2
          exact S.out
         |none=>
          obtain⟨w6,u1,u2,u3,u,t,h⟩:=jX M;have Yr:Hid (nA w6 bM (E++ [(ca,X,cm)])/\Ar (E++ [(ca,X,cm)])/\dV w w6/\bM<w6.heap.size/\w6.cell? ⟨Y,4,ν⟩=μ (ι κ cm)):=⟨u2,u3,u,h,t⟩
          have HKK:Hid (nR many ca X=true/\jF E ca X=ν):=⟨J,M⟩
          rw[M]at qd;have q1:(Option.getD (ν:Option Int) 0)=0:=rfl;have q2:(Option.isSome (ν:Option Int))=false:=rfl;rw[q1,q2]at qd;clear jX b5 u2 u3 u t h J M
          go_wp2
          go_roundw
          case rel=>exact .inr (.inl ⟨by go_num,Yr.out,HKK.out⟩)
          case measure=>simp[intOf]
       ·obtain⟨SQ,rD⟩:=wX;obtain⟨i1,i2,i3,i4,i5⟩:=A;have hix:=Yc ca X U T;obtain⟨W4,sK⟩:=fP (Q.alloc (γ #[ι κ U,ι κ T] 192));obtain⟨Z,hZ⟩:=fP (Q.heap.size);have ba:=gM Q (γ #[ι κ U,ι κ T] 192);have H:iM (Q.alloc (γ #[ι κ U,ι κ T] 192)) Q.heap.size #[ι κ U,ι κ T] 192:=iM.new Q _ _;rw[sK]at ba H;rw[hZ]at H;have z0:W4.cell? ⟨Z,0,ν⟩=μ (ι κ U):=H.cell 0;have z1:W4.cell? ⟨Z,1,ν⟩=μ (ι κ T):=H.cell 1;have zl:=H.lt;have y4:W4.cell? ⟨Y,4,ν⟩=μ (ι κ cm):=(ai (a:=⟨Y,4,ν⟩) (ba.block Y (af _ _ i5))).trans i5;have Ii:=zE w bM (E++ [(ca,X,cm)]) i2 many U T dP W4 (i1.keep (ba.block bM i4)) (by rw[HbM.out];exact Nat.le_refl _) (gD i3 ba) (Nat.lt_of_lt_of_le i4 ba.size) Z Y cm ⟨z0,z1⟩ y4;have Kr:Hid _:=sK;have HZ:Hid _:=hZ;clear i1 i2 i3 i4 i5 sK hZ ba H;go_wp2_with(fail)
        try rw[Kr.out]
        try rw[HZ.out]
        go_wp2_with(fail);refine Ii.mono ?_;rintro e w5 ⟨rfl,b5,⟨x0,x1⟩,x4,Cd⟩;have xl:=af _ _ x0;have yl:=af _ _ x4;clear Ii z0 z1 zl y4;cases J:nR many U T with
        |false=>
         have y:mS many L=1:=RL.out 1 (by unfold pO;rw[ae Ni.out,ae (by rw[SQ];simp),ae (by rw[rD];simp),ag J]) dS;have S:Hid _:=yN.bad (w':=w5) y dS b5;clear Cd b5
         go_wp2
         go_ret2
         exact S.out
        |true=>
         obtain⟨qd,jX⟩:=Cd J;clear Cd;cases M:jF (E++ [(ca,X,cm)]) U T with
         |some m0=>
          have y:mS many L=8:=RL.out 8 (by unfold pO;rw[ae Ni.out,ae (by rw[SQ];simp),ae (by rw[rD];simp),ae (by rw[J];simp),ag (by rw[M];rfl)]) dS;have S:Hid _:=yN.bad (w':=w5) y dS b5;rw[M]at qd;have q1:(Option.getD (μ m0) 0)=m0:=rfl;have q2:(Option.isSome (μ m0))=true:=rfl;rw[q1,q2]at qd;clear jX b5 J M y
          go_wp2
          go_ret2
          exact S.out
         |none=>
          obtain⟨w6,u1,u2,u3,u,t,h⟩:=jX M;have Yr:Hid (nA w6 bM (E++ [(ca,X,cm)] ++ [(U,T,cm)])/\Ar (E++ [(ca,X,cm)] ++ [(U,T,cm)])/\dV w w6/\bM<w6.heap.size/\w6.cell? ⟨Y,4,ν⟩=μ (ι κ cm)):=⟨u2,u3,u,h,t⟩
          have HKK:Hid (pO many ⟨ca,X,U,T,cm⟩ E=0):=by show _=_;unfold pO;rw[ae Ni.out,ae (by rw[SQ];simp),ae (by rw[rD];simp),ae (by rw[J];simp),ae (by rw[M];simp)]
          rw[M]at qd;have q1:(Option.getD (ν:Option Int) 0)=0:=rfl;have q2:(Option.isSome (ν:Option Int))=false:=rfl;rw[q1,q2]at qd;clear jX b5 u2 u3 u t h J M
          go_wp2
          go_roundw
          case rel=>exact .inr (.inr ⟨by go_num,Yr.out,HKK.out⟩)
          case measure=>simp[intOf]
       ·obtain⟨i1,i2,i3,i4,i5⟩:=A;have HN2:Hid (nA Q bM (jG (L.take (j+1)))/\Ar (jG (L.take (j+1)))/\dV w Q/\bM<Q.heap.size/\wu many L [] =wu many (L.drop (j+1)) (jG (L.take (j+1)))):=by
         show _/\_/\_/\_/\_;rw[HT.out];have e5:E++ [(ca,X,cm)] ++ [(U,T,cm)] =E++ [(ca,X,cm),(U,T,cm)] :=gN;rw[e5]at i1 i2;exact⟨i1,i2,i3,i4,ace.out wX⟩
        clear i1 i2 i3 i4 i5 wX
        go_wp2
        go_roundw
        case rel=>exact⟨j+1,dP,by go_num,HN2.out⟩
        case measure=>simp[intOf];omega
    ·have zN:¬(j:Int)<(n:Int):=dP;obtain rfl:j=n:=dP;have e9:L.take j=L:=by rw[<-HN.out];exact cR
     have e8:L.drop j=[] :=by rw[<-HN.out];exact List.drop_length
     rw[e9]at hm G hF;rw[e8]at hF;have Lb:mS many L=0:=by rw[HE.out,hF];rfl
     have S:Hid _:=yN.good Lb hm G (by rw[HbM.out];exact Nat.le_refl _) hB;clear hm G hB nQ hF Lb e9 e8
     go_wp2
     go_ret2
     exact S.out
theorem rQ(many:Int)(a:Option Addr)(cap:Nat)(L:List oH)(w:dN)(V:Ae w a L)(hl:L.length<=1000):
 Calls eN 38 #[ι κ many,σ a L.length cap] w λe w'=>e=ρ (iP (mS many L))/\dV w w':=by
 have X:=vJ many a cap L w V hl;generalize L.length=n at X⊢;have Z:Calls eN 95 #[ι κ many,σ a n cap] w λe w'=>∃v,e=ρ (τ #[.map v,iP (mS many L)])/\dV w w':=by
  refine X.mono ?_;rintro e S ⟨T,Z,hb⟩;by_cases Y:mS many L=0
  ·obtain⟨b,rfl,_⟩:=Z Y;exact⟨μ b,by rw[Y];rfl,hb⟩
  ·exact⟨ν,T Y,hb⟩
 clear X V;generalize iP (mS many L)=ev at Z⊢
 go_in
 go_wp2_with(fail);refine Z.mono ?_;rintro e S ⟨v,rfl,hb⟩;have U:Hid _:=hb;clear Z hb
 go_wp2
 go_ret;exact⟨rfl,U.out⟩
def UI(W:dN)(i:Nat)(ms:Nat->Int)(P lo hi:Nat):Prop:=∃z:Zt,z.R=P/\k8 W z (jt ((i:Int)+1) 3 ms)/\(∀b,z.nZ b->lo<=b/\b<hi)/\lo<=hi/\hi<=W.heap.size/\∀b,(b<lo \/(hi<=b/\b<W.heap.size))->z.fm.no b
theorem UI.step {W W':dN} {ms:Nat->Int} {P lo hi:Nat} (h:UI W i ms P lo hi)(hs:W.heap.size<=W'.heap.size)(X:∀b,lo<=b->b<hi->W'.heap[b]? =W.heap[b]?):UI W' i ms P lo hi:=by
 obtain⟨z,V,U,Z,T,S,Y⟩:=h;refine⟨z.plus λb=>W.heap.size<=b/\b<W'.heap.size,V,U.besides hs (λb hb hc=> ?_) _ (λb e=>e),Z,T,Nat.le_trans S hs,λb hb=> ?_⟩
 ·rcases hc with hc|hc
  ·have:¬(b<lo \/(hi<=b/\b<W.heap.size)):=λe=>hc (Y b e);exact X b dP dP
  ·have:=Z b (.inl hc);exact X b this.1 this.2
 ·show z.fm.no b \/_;by_cases e:b<W.heap.size
  ·exact .inl (Y b dP)
  ·exact .inr dP
def sU:List oH->List dO
 |[] =>[]
 |c::l=>[.int .i64 c.a,.int .i64 c.pa,.int .i64 c.b,.int .i64 c.pb,.bool false,.slice none 0 0,.slice none 0 0] ++sU l
theorem Ij:∀(l m:List oH),sU (l++m)=sU l++sU m
 |[],_=>rfl
 |c::l,m=>by
  show _++sU (l++m)=_;rw[Ij l m,<-az];rfl
theorem LZ:∀(l:List oH) (j i:Nat) (Z:j<l.length),i<7->(sU l)[j*7+i]? =[ι κ l[j].a,ι κ l[j].pa,ι κ l[j].b,ι κ l[j].pb,(.bool false:dO),σ ν 0 0,σ ν 0 0][i]?
 |c::l,0,i,_,hi=>by
  show([_,_,_,_,_,_,_] ++sU l)[0*7+i]? =_;rw[Nat.zero_mul,Nat.zero_add,bG (by simpa using hi)];rfl
 |c::l,j+1,i,Z,hi=>by
  show([_,_,_,_,_,_,_] ++sU l)[(j+1)*7+i]? =_;rw[bk (by simp;omega)];have e:(j+1)*7+i-List.length [Value.int .i64 c.a,ι κ c.pa,ι κ c.b,ι κ c.pb,.bool false,σ ν 0 0,σ ν 0 0] =j*7+i:=by simp;omega
  rw[e];exact LZ l j i (by simpa using Z) hi
theorem RM(l:List oH):∀u∈sU l,u.oneCell'=true:=by
 induction l with
 |nil=>intro u Z;simp[sU]at Z
 |cons c l ih=>
  intro u Z;have Y:u∈ [Value.int .i64 c.a,ι κ c.pa,ι κ c.b,ι κ c.pb,.bool false,σ ν 0 0,σ ν 0 0] ++sU l:=Z;rcases aF.1 Y with h|h
  ·simp at h;rcases h with rfl|rfl|rfl|rfl|rfl|rfl<;>rfl
  ·exact ih u h
def uA(P:Nat->Nat)(q:Nat):List dO:=(List.range q).map λi=>π (μ ⟨P i,0,ν⟩)
theorem Kz(P:Nat->Nat)(q:Nat):uA P (q+1)=uA P q++ [π (μ ⟨P q,0,ν⟩)] :=by simp[uA,List.range_succ]
theorem Ik {P P':Nat->Nat} (h:∀i,i<q->P i=P' i):uA P q=uA P' q:=by
 unfold uA;refine List.map_congr_left λi hi=> ?_;rw[h i (aY.1 hi)]
theorem RN(P:Nat->Nat)(h:i<q):(uA P q)[i]? =μ (π (μ ⟨P i,0,ν⟩)):=by simp[uA,h]
def oh(m:Nat):Array dO:=Array.replicate m (σ ν 0 0)
structure Ce(w W:dN)(N gI bM m:Nat)(E:List (Int×Int×Int))(ms:Nat->Nat->Int)(q j:Nat)(L:List oH)(v v2:dO)(P lo hi:Nat->Nat):Prop where
 nI:dV w W
 nb:iM W N #[v,σ (μ ⟨gI,0,ν⟩) m m,.map (μ bM),v2] 190
 gi:iM W gI (oh m) 53
 mp:nA W bM E
 row:Row W 1 v q (uA P q)
 De:Row W 7 v2 j (sU (L.take j))
 ne:N≠gI/\N≠bM/\gI≠bM/\w.heap.size<=N/\w.heap.size<=gI/\w.heap.size<=bM
 fv:∀k,v.ownBlock=μ k->w.heap.size<=k/\k≠N/\k≠gI/\k≠bM
 Il:∀k,v2.ownBlock=μ k->w.heap.size<=k/\k≠N/\k≠gI/\k≠bM/\v.ownBlock≠μ k
 Tc:∀i,i<q->UI W i (ms i) (P i) (lo i) (hi i)
 lw:∀i,i<q->w.heap.size<=lo i
 sep:∀i k,i<k->k<q->hi i<=lo k
 out:∀i,i<q->∀k,(k=N \/k=gI \/k=bM \/v.ownBlock=μ k \/v2.ownBlock=μ k)->k<lo i \/hi i<=k
section
variable {w W W':World} {N gI bM m:Nat} {E:List (Int×Int×Int)} {ms:Nat->Nat->Int} {q j:Nat} {L:List oH} {v v2:Value} {P lo hi:Nat->Nat}
theorem Ce.vH(h:Ce w W N gI bM m E ms q j L v v2 P lo hi):N<W.heap.size:=h.nb.lt
theorem Ce.Oa(h:Ce w W N gI bM m E ms q j L v v2 P lo hi):bM<W.heap.size:=by
 obtain⟨es,clock,Z,_⟩:=h.mp;exact(au.1 Z).1
theorem Ce.below(h:Ce w W N gI bM m E ms q j L v v2 P lo hi)(hb:dV W W'):Ce w W' N gI bM m E ms q j L v v2 P lo hi:=
 ⟨gD h.nI hb,h.nb.below hb,h.gi.below hb,h.mp.keep (hb.block bM h.Oa),h.row.below hb,h.De.below hb,h.ne,h.fv,h.Il,λi Z=>(h.Tc i Z).step hb.size (λb _ h2=>hb.block b (by
  obtain⟨_,_,_,_,_,h5,_⟩:=h.Tc i Z;omega)),h.lw,h.sep,h.out⟩
theorem Ce.wA(h:Ce w W N gI bM m E ms q j L v v2 P lo hi) {W1:dN} {z:Zt} (hz:k8 W1 z (jt ((q:Int)+1) 3 (ms q)))(hb:dV W W1)(U:∀b,z.nZ b->W.heap.size<=b)(u:∀b,b<W.heap.size->z.fm.no b)
 {o:Obj} {v':dO} (hr:Row W2 1 v' (q+1) (uA P q++ [π (μ ⟨z.R,0,ν⟩)])) (H:(W1.alloc o).grownBy W2 v.ownBlock) (hv:∀k,v'.ownBlock=μ k->v.ownBlock=μ k \/W1.heap.size<=k):
 Ce w (W2.setCell ⟨N,0,ν⟩ v') N gI bM m E ms (q+1) j L v' v2 (jy P q z.R) (jy lo q W.heap.size) (jy hi q W1.heap.size):=by
 have M:W1.heap.size<=W2.heap.size:=Nat.le_trans gN H.size;have A:∀b,b<W1.heap.size->v.ownBlock≠μ b->W2.heap[b]? =W1.heap[b]? :=λb V G=>(H.block b (by simp;omega) (λe=>G e.symm)).trans (aQ W1 o b V);have S:∀b,b<W1.heap.size->v.ownBlock≠μ b->b≠N->(W2.setCell ⟨N,0,ν⟩ v').heap[b]? =W1.heap[b]? :=λb V G hN=>(ak _ _ _ b hN).trans (A b V G);have Z:=h.below hb;have ZX:v.ownBlock≠μ N:=λe=>(h.fv N e).2.1 rfl;have Ys:∀k,v'.ownBlock=μ k->k≠N:=λk e J=>by
  rcases hv k e with Y|Y
  ·exact(h.fv k Y).2.1 J
  ·have:=Z.vH;omega
 have BJ:dV w W2:=by
  have Y:=(Z.nI.alloc Z.nI.size o).grown H (by simp;have:=Z.nI.size;omega) (λk e=>(h.fv k e).1);exact Y
 have ak6:=h.nI.size;have D:∀i,i<q->lo i<=hi i/\hi i<=W.heap.size:=λi T=>by
  obtain⟨_,_,_,_,h4,h5,_⟩:=h.Tc i T;exact⟨h4,h5⟩
 have l8:k8 (W2.setCell ⟨N,0,ν⟩ v') (z.plus λb=>W1.heap.size<=b/\b<(W2.setCell ⟨N,0,ν⟩ v').heap.size) (jt ((q:Int)+1) 3 (ms q)):=by
  refine hz.besides (by simpa using M) (λb V hc=> ?_) _ (λb e=>e);have hbW:W.heap.size<=b:=by
   rcases hc with hc|hc
   ·exact Nat.le_of_not_lt (λe=>hc (u b e))
   ·exact U b (.inl hc)
  exact S b V (λe=>by have:=h.row.lt b e;omega) (λe=>by have:=h.vH;omega)
 refine⟨BJ.setCell (by show w.heap.size<=N;exact h.ne.2.2.2.1) _,?_,Z.gi.keep (S gI Z.gi.lt (λe=>(h.fv gI e).2.2.1 rfl) (λe=>h.ne.1 e.symm)),Z.mp.keep (S bM Z.Oa (λe=>(h.fv bM e).2.2.2 rfl) (λe=>h.ne.2.1 e.symm)),?_,Z.De.keep (by simpa using M) (λk e=>S k (Z.De.lt k e) (h.Il k e).2.2.2.2 (h.Il k e).2.1),h.ne,λk e=> ?_,λk e=> ?_,λi T=> ?_,λi T=> ?_,λi k y hk=> ?_,λi T k hk=> ?_⟩
 ·have Y:iM W2 N #[v,σ (μ ⟨gI,0,ν⟩) m m,.map (μ bM),v2] 190:=Z.nb.keep (A N Z.vH ZX);exact Y.set 0 v'
 ·rw[Kz,ij,Ik (P':=P) (λi T=>gW _ _ dP)];exact hr.keep gN (λk e=>ak _ _ _ k (Ys k e))
 ·rcases hv k e with Y|Y
  ·exact h.fv k Y
  ·have a1:=Z.vH;have a2:=Z.gi.lt;have a3:=Z.Oa;have a4:=Z.nI.size;omega
 ·refine⟨(h.Il k e).1,(h.Il k e).2.1,(h.Il k e).2.2.1,(h.Il k e).2.2.2.1,λJ=> ?_⟩;rcases hv k J with Y|Y
  ·exact(h.Il k e).2.2.2.2 Y
  ·have:=Z.De.lt k e;omega
 ·by_cases X:i=q
  ·subst X;rw[ij,ij,ij];refine⟨z.plus λb=>W1.heap.size<=b/\b<(W2.setCell ⟨N,0,ν⟩ v').heap.size,rfl,l8,λb V=>⟨U b V,hz.wz rfl V⟩,hb.size,by simpa using M,λb V=> ?_⟩;show z.fm.no b \/_;rcases V with e|e
   ·exact .inl (u b e)
   ·exact .inr e
  ·rw[gW _ _ X,gW _ _ X,gW _ _ X];have Q:i<q:=dP;refine(Z.Tc i Q).step (by simpa using M) (λb b1 b2=> ?_);have b3:=(D i Q).2;have hs:=hb.size;refine S b dP (λe=> ?_) (λe=> ?_)
   ·have:=h.out i Q b (.inr (.inr (.inr (.inl e))));omega
   ·have:=h.out i Q b (.inl e);omega
 ·by_cases X:i=q
  ·subst X;rw[ij];exact h.nI.size
  ·rw[gW _ _ X];exact h.lw i dP
 ·by_cases t:k=q
  ·subst t;rw[gW _ _ dP,ij];exact(D i y).2
  ·rw[gW _ _ dP,gW _ _ t];exact h.sep i k y dP
 ·have hold:(k=N \/k=gI \/k=bM \/v.ownBlock=μ k \/v2.ownBlock=μ k) \/W1.heap.size<=k:=by
   rcases hk with e|e|e|e|e
   ·exact .inl (.inl e)
   ·exact .inl (.inr (.inl e))
   ·exact .inl (.inr (.inr (.inl e)))
   ·exact(hv k e).imp_left (λe=>.inr (.inr (.inr (.inl e))))
   ·exact .inl (.inr (.inr (.inr (.inr e))))
  by_cases X:i=q
  ·subst X;rw[ij,ij];rcases hold with e|e
   ·left;rcases e with e|e|e|e|e
    ·have:=h.vH;omega
    ·have:=h.gi.lt;omega
    ·have:=h.Oa;omega
    ·exact h.row.lt k e
    ·exact h.De.lt k e
   ·exact .inr e
  ·rw[gW _ _ X,gW _ _ X];rcases hold with e|e
   ·exact h.out i dP k e
   ·have:=(D i dP).2;have hs:=hb.size;exact .inr dP
theorem Ce.LQ(h:Ce w W N gI bM m E ms q j L v v2 P lo hi) {v':dO} (t:L.take (j+1)=L.take j++ [c])(u:Row W2 7 v' (j+1) (sU (L.take j)++sU [c]))(V:W.grownBy W2 v2.ownBlock)(hv:∀k,v'.ownBlock=μ k->v2.ownBlock=μ k \/W.heap.size<=k):
 Ce w (W2.setCell ⟨N,3,ν⟩ v') N gI bM m E ms q (j+1) L v v' P lo hi:=by
 have Q:∀b,b<W.heap.size->v2.ownBlock≠μ b->W2.heap[b]? =W.heap[b]? :=λb S T=>V.block b S (λe=>T e.symm);have U:∀b,b<W.heap.size->v2.ownBlock≠μ b->b≠N->(W2.setCell ⟨N,3,ν⟩ v').heap[b]? =W.heap[b]? :=λb S T A=>(ak _ _ _ b A).trans (Q b S T);have H:v2.ownBlock≠μ N:=λe=>(h.Il N e).2.1 rfl;have J:∀k,v'.ownBlock=μ k->k≠N:=λk e X=>by
  rcases hv k e with Y|Y
  ·exact(h.Il k Y).2.1 X
  ·have:=h.vH;omega
 have M:dV w W2:=h.nI.grown V h.nI.size (λk e=>(h.Il k e).1);refine⟨M.setCell (by show w.heap.size<=N;exact h.ne.2.2.2.1) _,?_,h.gi.keep (U gI h.gi.lt (λe=>(h.Il gI e).2.2.1 rfl) (λe=>h.ne.1 e.symm)),h.mp.keep (U bM h.Oa (λe=>(h.Il bM e).2.2.2.1 rfl) (λe=>h.ne.2.1 e.symm)),h.row.keep (by simpa using V.size) (λk e=>U k (h.row.lt k e) (λX=>(h.Il k X).2.2.2.2 e) (h.fv k e).2.1),?_,h.ne,h.fv,λk e=> ?_,λi Z=> ?_,h.lw,h.sep,λi Z k y=> ?_⟩
 ·have Y:iM W2 N #[v,σ (μ ⟨gI,0,ν⟩) m m,.map (μ bM),v2] 190:=h.nb.keep (Q N h.vH H);exact Y.set 3 v'
 ·rw[t,Ij];exact u.keep gN (λk e=>ak _ _ _ k (J k e))
 ·rcases hv k e with Y|Y
  ·exact h.Il k Y
  ·have a1:=h.vH;have a2:=h.gi.lt;have a3:=h.Oa;have a4:=h.nI.size;refine⟨dP,dP,dP,dP,λX=> ?_⟩;have:=h.row.lt k X;omega
 ·obtain⟨_,_,_,_,G,D,_⟩:=h.Tc i Z;refine(h.Tc i Z).step (by simpa using V.size) (λb b1 b2=>U b dP (λe=> ?_) (λe=> ?_))
  ·have:=h.out i Z b (.inr (.inr (.inr (.inr e))));omega
  ·have:=h.out i Z b (.inl e);omega
 ·obtain⟨_,_,_,_,G,D,_⟩:=h.Tc i Z;rcases y with e|e|e|e|e
  ·exact h.out i Z k (.inl e)
  ·exact h.out i Z k (.inr (.inl e))
  ·exact h.out i Z k (.inr (.inr (.inl e)))
  ·exact h.out i Z k (.inr (.inr (.inr (.inl e))))
  ·rcases hv k e with Y|Y
   ·exact h.out i Z k (.inr (.inr (.inr (.inr Y))))
   ·exact .inr dP
end
def nE(E:List (Int×Int×Int)):List (Int×Int):=E.map λx=>(x.1,x.2.1)
theorem ve:∀ {E:List (Int×Int×Int)} {r p:Int},(jF E r p).isSome=true↔(r,p)∈nE E
 |[],r,p=>by simp[jF,nE]
 |x::E,r,p=>by
  unfold jF;have ih:=ve (E:=E) (r:=r) (p:=p);split
  ·rename_i h
   simp[nE,h.1,h.2]
  ·rename_i h
   rw[ih];constructor
   ·intro Y;exact cU _ Y
   ·intro Y;have Z:(r,p)=(x.1,x.2.1) \/(r,p)∈nE E:=by
     have:(r,p)∈(x.1,x.2.1)::nE E:=Y;simpa using this
    rcases Z with Z|Z
    ·injection Z with X V
     exact absurd ⟨X.symm,V.symm⟩ h
    ·exact Z
theorem RP {E:List (Int×Int×Int)} (h:pO many c E=0):(1<=c.m/\c.m<=20)/\nR many c.a c.pa=true/\nR many c.b c.pb=true/\(c.a,c.pa)∉nE E/\(c.b,c.pb)∉nE (E++ [(c.a,c.pa,c.m)]):=by
 unfold pO at h;split at h
 ·simp at h
 ·split at h
  ·simp at h
  ·split at h
   ·simp at h
   ·split at h
    ·simp at h
    ·split at h
     ·simp at h
     ·rename_i h1 Z Y X V
      refine⟨dP,by simpa using Z,by simpa using X,λe=>Y (ve.2 e),λe=>V (ve.2 e)⟩
theorem L5 {many:Int}:∀(L:List oH) (E:List (Int×Int×Int)),wu many L E=0->(nE E).Nodup->(∀c∈L,(1<=c.m/\c.m<=20)/\nR many c.a c.pa=true/\nR many c.b c.pb=true)/\(nE (E++jG L)).Nodup
 |[],E,_,hn=>⟨λc hc=>by simp at hc,by simpa[jG]using hn⟩
 |c::L,E,h,hn=>by
  rw[D6]at h;have Y:pO many c E=0:=by
   rcases Nat.eq_zero_or_pos (pO many c E)with e|e
   ·exact e
   ·rw[ag dP]at h;omega
  rw[Y,ae gN]at h;obtain⟨g1,U,T,S,Z⟩:=RP Y;have J:(nE (E++ [(c.a,c.pa,c.m),(c.b,c.pb,c.m)])).Nodup:=by
   have X:nE (E++ [(c.a,c.pa,c.m),(c.b,c.pb,c.m)])=(nE E++ [(c.a,c.pa)])++ [(c.b,c.pb)] :=by simp[nE]
   have V:nE (E++ [(c.a,c.pa,c.m)])=nE E++ [(c.a,c.pa)] :=by simp[nE]
   rw[X];rw[V]at Z;refine bP.2 ⟨bP.2 ⟨hn,gN,?_⟩,gN,?_⟩
   ·intro x hx y hy e;have:y=(c.a,c.pa):=by simpa using hy
    exact S (by rw[<-this,<-e];exact hx)
   ·intro x hx y hy e;have:y=(c.b,c.pb):=by simpa using hy
    exact Z (by rw[<-this,<-e];exact hx)
  obtain⟨Q,M⟩:=L5 L _ h J;refine⟨λx hx=> ?_,?_⟩
  ·rcases a7.1 hx with rfl|hx
   ·exact⟨g1,U,T⟩
   ·exact Q x hx
  ·have e:E++jG (c::L)=E++ [(c.a,c.pa,c.m),(c.b,c.pb,c.m)] ++jG L:=by simp[jG]
   rw[e];exact M
structure nU(many:Int)(L:List oH):Prop where
 m:1<=many/\many<=6
 l:L.length<=9
 c:∀c∈L,(1<=c.m/\c.m<=20)/\nR many c.a c.pa=true/\nR many c.b c.pb=true
 nd:(nE (jG L)).Nodup
theorem xM(h:mS many L=0):nU many L:=by
 unfold mS at h;split at h
 ·simp at h
 ·split at h
  ·simp at h
  ·obtain⟨Z,Y⟩:=L5 L [] h (by simp[nE]);exact⟨dP,dP,Z,by simpa using Y⟩
theorem mY(h:nR many r p=true):1<=r/\r<=many/\0<=p/\p<3:=by
 unfold nR at h;simp only[Bool.and_eq_true,decide_eq_true_eq]at h;omega
theorem Ob {x:Int×Int×Int} (h:x∈jG L):∃c∈L,x=(c.a,c.pa,c.m) \/x=(c.b,c.pb,c.m):=by
 unfold jG at h;obtain⟨c,hc,Z⟩:=br.1 h;exact⟨c,hc,by simpa using Z⟩
theorem nU.ms(h:nU many L)(i p:Nat):1<=m8 L i p/\m8 L i p<=20:=by
 unfold m8;cases hl:jF (jG L) ((i:Int)+1) (p:Int)with
 |none=>exact⟨dS,dS⟩
 |some m=>
  obtain⟨c,hc,Z⟩:=Ob (DQ hl);have V:=(h.c c hc).1;show 1<=m/\m<=20;rcases Z with Z|Z
  ·injection Z with _ Y
   injection Y with _ X
   rw[X];exact V
  ·injection Z with _ Y
   injection Y with _ X
   rw[X];exact V
theorem nU.tells(h:nU many L)(m:Nat)(Z:Ar (jG L)):QY (jG L) m (m8 L):=⟨λi p _ _=>⟨rfl,h.ms i p⟩,Z⟩
theorem xN(L:List oH)(c d:Nat)(hc:c<L.length):(rv L c).e d=if d=0 then((L[c].a-1).toNat,L[c].pa.toNat)else((L[c].b-1).toNat,L[c].pb.toNat):=by
 unfold rv oH.at;simp only[List.getD_eq_getElem?_getD,List.getElem?_eq_getElem hc,Option.getD_some]
theorem nU.en(h:nU many L)(c d:Nat)(hc:c<L.length):((rv L c).e d).1<many.toNat/\((rv L c).e d).2<3:=by
 rw[xN L c d hc];obtain⟨_,Z,Y⟩:=h.c L[c] (aD hc);have e1:=mY Z;have e2:=mY Y;split
 ·simp only;omega
 ·simp only;omega
theorem Cf:∀(L:List oH) (c d:Nat) (hc:c<L.length),d<2->(nE (jG L))[2*c+d]? =μ (if d=0 then(L[c].a,L[c].pa)else(L[c].b,L[c].pb))
 |x::L,0,d,_,hd=>by
  have:d=0 \/d=1:=dP;rcases this with rfl|rfl<;>rfl
 |x::L,c+1,d,hc,hd=>by
  have e:nE (jG (x::L))=[(x.a,x.pa),(x.b,x.pb)] ++nE (jG L):=by simp[nE,jG]
  rw[e,bk (by simp;omega)];have Z:2*(c+1)+d-List.length [(x.a,x.pa),(x.b,x.pb)] =2*c+d:=by simp;omega
  rw[Z];exact Cf L c d (by simpa using hc) hd
theorem Oc {α:Type} {l:List α} (h:l.Nodup) {j:Nat} (hi:i<l.length)(Y:j<l.length)(e:l[i] =l[j]):i=j:=by
 have X:=dq.1 h;rcases Nat.lt_trichotomy i j with Z|Z|Z
 ·exact absurd e (X i j hi Y Z)
 ·exact Z
 ·exact absurd e.symm (X j i Y hi Z)
theorem nU.ds(h:nU many L)(c d c' d':Nat)(hc:c<L.length)(hd:d<2)(V:c'<L.length)(M:d'<2)(Z:(rv L c).e d=(rv L c').e d'):c=c'/\d=d':=by
 have k1:=Cf L c d hc hd;have k2:=Cf L c' d' V M;rw[xN L c d hc,xN L c' d' V]at Z;obtain⟨_,S,Q⟩:=h.c L[c] (aD hc);obtain⟨_,b1,b2⟩:=h.c L[c'] (aD V);have e1:=mY S;have e2:=mY Q;have e3:=mY b1;have e4:=mY b2;have J:(if d=0 then(L[c].a,L[c].pa)else(L[c].b,L[c].pb))=(if d'=0 then(L[c'].a,L[c'].pa)else(L[c'].b,L[c'].pb)):=by
  by_cases X:d=0
  ·by_cases Y:d'=0
   ·rw[ag X,ag Y]at Z⊢;injection Z with U T
    rw[show L[c].a=L[c'].a by omega,show L[c].pa=L[c'].pa by omega]
   ·rw[ag X,ae Y]at Z⊢;injection Z with U T
    rw[show L[c].a=L[c'].b by omega,show L[c].pa=L[c'].pb by omega]
  ·by_cases Y:d'=0
   ·rw[ae X,ag Y]at Z⊢;injection Z with U T
    rw[show L[c].b=L[c'].a by omega,show L[c].pb=L[c'].pa by omega]
   ·rw[ae X,ae Y]at Z⊢;injection Z with U T
    rw[show L[c].b=L[c'].b by omega,show L[c].pb=L[c'].pb by omega]
 rw[J]at k1;obtain⟨l1,v1⟩:=aG.1 k1;obtain⟨l2,v2⟩:=aG.1 k2;have:=Oc h.nd l1 l2 (v1.trans v2.symm);omega
theorem xO(h:nU many L):jN (jx many.toNat L) 0 0:=by
 have hm:=h.m;refine⟨by show 1<=many.toNat;omega,by show many.toNat<=6;omega,h.l,λc d hc _=>h.en c d hc,λc d c' d' hc hd Y Z e=>h.ds c d c' d' hc hd Y Z e,λi p _ _=>h.ms i p,λi _=>⟨rfl,rfl⟩,λi hi=> ?_,λ_ _=>⟨Int.le_refl _,Int.le_refl _⟩,λ_ _ _ _=>Nat.zero_le _,λ_ _=>Nat.le_refl _,λi p _ _ _=>pA _ _ p,λ_ _=>⟨Nat.le_refl _,λ_ _=>Nat.zero_le _⟩⟩;have kV:i<many.toNat:=hi;exact xJ dP (λp _=>h.ms i p)
