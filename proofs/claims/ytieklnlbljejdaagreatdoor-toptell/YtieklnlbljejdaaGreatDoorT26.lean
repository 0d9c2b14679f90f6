import Derived.Test.YtieklnlbljejdaaGreatDoorT25
open Go.Value renaming int → ι, slice → σ, pointer → π, tuple → τ, nilIface → η
open Go.IntKind renaming i64 → κ
open Go.Ending renaming returned → ρ
open Go.Obj renaming cells → γ
open Option renaming none → ν, some → μ
open Go renaming Value → dO, World → dN, Calls → eM
open Go.Value renaming ownBlock → dQ, int → dT
open Go.Instr renaming makeSlice → gO, loadAt → fe
open Go.Proofs.Tryz renaming prog → eN
open Go.Act renaming put → gh
open List renaming setIfInBounds_toArray → gj, set_cons_zero → gk, set_cons_succ → gp
set_option maxRecDepth 100000
set_option maxHeartbeats 8000000
namespace Go.Proofs.YtieklnlbljejdaaGreatDoor
open Go.RowKit St
namespace Rt
variable {W w:World}
theorem Row.spare {sz g n n' cap:Nat} {xs:List dO} (h:Row w sz (σ (μ ⟨g,0,ν⟩) n' cap) n xs)(j:Nat)(X:j<n*sz):w.frozen? ⟨g,j,ν⟩=false:=by
 rcases h.2 with⟨e,_⟩|⟨g',jd,e,_,Z,_,_,Y⟩
 ·simp at e
 ·simp at e;obtain⟨rfl,rfl,rfl⟩:=e;exact(Y j (Nat.lt_of_lt_of_le X (Nat.mul_le_mul_right sz Z))).2
def Yu(g:Option Nat)(n c:Nat):dO:=match g with|none=>.slice none 0 0|some g=>.slice (some ⟨g,0,none⟩) n c
theorem Ce.done {N gI bM:Nat} {many:Int} {L:List oH} {v v2:dO} {P lo hi:Nat->Nat} (D:nU many L)(hE:Ar (jG L))(h:Ce w W N gI bM many.toNat (jG L) (m8 L) many.toNat L.length L v v2 P lo hi)(hw:0<w.heap.size)(X:Nat->Prop)(hX:∀b,X b->b<w.heap.size):
 ∃y,jl W y (jx many.toNat L)/\y.N=N/\(∀b,y.all many.toNat b->w.heap.size<=b)/\∀b,y.ext b↔X b:=by
 have hm:=D.m;obtain⟨m,QU⟩:=fP (many.toNat);have wO:1<=m/\m<=6:=dP;have Ng:=λc d (hc:c<L.length) (_:d<2)=>D.en c d hc;rw[QU]at h Ng⊢;have Uu:∃gR rH,v=σ (μ ⟨gR,0,ν⟩) m rH:=by
  rcases h.row.2 with⟨_,e2⟩|⟨g,c,e,_⟩
  ·omega
  ·exact⟨g,c,e⟩
 obtain⟨gR,rH,rfl⟩:=Uu;have hgC:∃gC uj,v2=Yu gC L.length uj/\(gC=ν->L.length=0):=by
  rcases h.De.2 with⟨e,e2⟩|⟨g,c,e,_⟩
  ·exact⟨ν,0,e,λ_=>e2⟩
  ·exact⟨μ g,c,e,λe=>by simp at e⟩
 obtain⟨gC,uj,rfl,Gt⟩:=hgC;have hex:∀i,∃z:Zt,i<m->z.R=P i/\k8 W z (jt ((i:Int)+1) 3 (m8 L i))/\(∀b,z.nZ b->lo i<=b/\b<hi i)/\∀b,(b<lo i \/(hi i<=b/\b<W.heap.size))->z.fm.no b:=λi=>by
  by_cases V:i<m
  ·obtain⟨z,Y,Z,T,_,_,h6⟩:=h.Tc i V;exact⟨z,λ_=>⟨Y,Z,T,h6⟩⟩
  ·obtain⟨z,_⟩:=h.Tc 0 dP;exact⟨z,λe=>absurd e V⟩
 obtain⟨z,G⟩:=Classical.skolem.1 hex;have hhi:∀i,i<m->lo i<=hi i/\hi i<=W.heap.size:=λi V=>by
  obtain⟨_,_,_,_,U,h5,_⟩:=h.Tc i V;exact⟨U,h5⟩
 obtain⟨y,hy⟩:∃y:Yt,y={N:=N,gR:=gR,rH:=rH,gI:=gI,wv:=m,gC:=gC,uj:=uj,bM:=bM,z:=z,iv:=λ_=>σ ν 0 0,ov:=λ_ _=>σ ν 0 0,ext:=X}:=⟨_,rfl⟩
 have E:dQ (σ (μ ⟨gR,0,ν⟩) m rH)=μ gR:=rfl;have Yv:∀g,gC=μ g->dQ (Yu gC L.length uj)=μ g:=λg e=>by subst e;rfl
 have hat:∀l k,y.at l=μ k->(l=.N/\k=N) \/(l=.R/\k=gR) \/(l=.I/\k=gI) \/(l=.C/\gC=μ k):=λl k e=>by
  rw[hy]at e;cases l with
  |N=>exact .inl ⟨rfl,(Option.some.inj e).symm⟩
  |R=>exact .inr (.inl ⟨rfl,(Option.some.inj e).symm⟩)
  |I=>exact .inr (.inr (.inl ⟨rfl,(Option.some.inj e).symm⟩))
  |C=>exact .inr (.inr (.inr ⟨rfl,e⟩))
  |ib i=>simp[Yt.at,dQ]at e
  |on c d=>simp[Yt.at,dQ]at e
 have iY:∀k,y.own k->(k=N \/k=gR \/k=gI \/gC=μ k):=λk ⟨l,e⟩=>by
  rcases hat l k e with⟨_,e⟩|⟨_,e⟩|⟨_,e⟩|⟨_,e⟩
  ·exact .inl e
  ·exact .inr (.inl e)
  ·exact .inr (.inr (.inl e))
  ·exact .inr (.inr (.inr e))
 have H:=h.fv gR E;have M:∀k,gC=μ k->w.heap.size<=k/\k≠N/\k≠gI/\k≠bM/\gR≠k:=λk e=>by
  obtain⟨a1,a2,a3,a4,a5⟩:=h.Il k (Yv k e);exact⟨a1,a2,a3,a4,λe1=>a5 (by rw[<-e1];rfl)⟩
 have KA:∀k,y.own k->w.heap.size<=k:=λk e=>by
  rcases iY k e with e|e|e|e
  ·rw[e];exact h.ne.2.2.2.1
  ·rw[e];exact H.1
  ·rw[e];exact h.ne.2.2.2.2.1
  ·exact(M k e).1
 have Yw:∀k,y.own k->k<W.heap.size:=λk e=>by
  rcases iY k e with e|e|e|e
  ·rw[e];exact h.vH
  ·rw[e];exact h.row.lt gR E
  ·rw[e];exact h.gi.lt
  ·exact h.De.lt k (Yv k e)
 have UK:∀k,y.own k->∀i,i<m->k<lo i \/hi i<=k:=λk e i V=>by
  rcases iY k e with e|e|e|e
  ·exact h.out i V k (.inl e)
  ·exact h.out i V k (.inr (.inr (.inr (.inl (by rw[e];rfl)))))
  ·exact h.out i V k (.inr (.inl e))
  ·exact h.out i V k (.inr (.inr (.inr (.inr (Yv k e)))))
 have S:y.z=z:=by rw[hy]
 have t:y.ext=X:=by rw[hy]
 have hwW:=h.nI.size;refine⟨y,⟨wO.1,wO.2,D.l,?_,?_,?_,?_,?_,?_,?_,?_,?_,?_,λ_ _ _ _=>Nat.zero_le _,Ng,?_,?_,?_,?_,?_⟩,by rw[hy],?_,λb=>by rw[t]⟩
 ·rw[hy];have e:(Yt.cv {N:=N,gR:=gR,rH:=rH,gI:=gI,wv:=m,gC:=gC,uj:=uj,bM:=bM,z:=z,iv:=λ_=>σ ν 0 0,ov:=λ_ _=>σ ν 0 0,ext:=X} L.length)=Yu gC L.length uj:=by
   rfl
  show iM W N #[σ (μ ⟨gR,0,ν⟩) m rH,σ (μ ⟨gI,0,ν⟩) m m,.map (μ bM),Yt.cv _ L.length] 190;rw[e];exact h.nb
 ·intro j J;have Q:j<m:=J;rw[hy];show W.cell? ⟨gR,0+j,ν⟩=μ (π (μ ⟨(z j).R,0,ν⟩))/\W.frozen? ⟨gR,0+j,ν⟩=false;rw[Nat.zero_add,(G j Q).1];exact⟨Row.cell h.row j _ (RN P Q),Row.spare h.row j dP⟩
 ·intro j J;have Q:j<m:=J;rw[hy];show W.cell? ⟨gI,0+j,ν⟩=μ (σ ν 0 0)/\W.frozen? ⟨gI,0+j,ν⟩=false;rw[Nat.zero_add];have Y:=h.gi.cell j;have e:(oh m)[j]? =μ (σ ν 0 0):=by
   unfold oh;rw[cK,ag Q]
  exact⟨Y.trans e,h.gi.frozen j⟩
 ·intro g hg c hc;have Ex:gC=μ g:=by rw[hy]at hg;exact hg
  subst Ex;have A:c<L.length:=hc;intro i V;have iJ:Row W 7 (σ (μ ⟨g,0,ν⟩) L.length uj) L.length (sU (L.take L.length)):=h.De;rw[cR]at iJ;refine⟨?_,Row.spare iJ (c*7+i) dP⟩;have Y:=LZ L c i A V;have Z:[dT .i64 L[c].a,ι κ L[c].pa,ι κ L[c].b,ι κ L[c].pb,.bool false,σ ν 0 0,σ ν 0 0][i]? =μ (zZ (rv L c) (y.ov c) i):=by
   obtain⟨_,a1,a2⟩:=D.c L[c] (aD A);have e1:=mY a1;have e2:=mY a2;have f0:=xN L c 0 A;have f1:=xN L c 1 A;rw[ag rfl]at f0;rw[ae dS]at f1;have q1:(((L[c].a-1).toNat:Nat):Int)+1=L[c].a:=dP;have q2:((L[c].pa.toNat:Nat):Int)=L[c].pa:=dP;have q3:(((L[c].b-1).toNat:Nat):Int)+1=L[c].b:=dP;have q4:((L[c].pb.toNat:Nat):Int)=L[c].pb:=dP;have:i=0 \/i=1 \/i=2 \/i=3 \/i=4 \/i=5 \/i=6:=dP;rcases this with rfl|rfl|rfl|rfl|rfl|rfl|rfl
   ·show μ _=μ (dT .i64 ((((rv L c).e 0).1:Int)+1));rw[f0,q1]
   ·show μ _=μ (dT .i64 (((rv L c).e 0).2:Int));rw[f0,q2]
   ·show μ _=μ (dT .i64 ((((rv L c).e 1).1:Int)+1));rw[f1,q3]
   ·show μ _=μ (dT .i64 (((rv L c).e 1).2:Int));rw[f1,q4]
   ·rfl
   ·rw[hy];rfl
   ·rw[hy];rfl
  rw[Z]at Y;exact Row.cell iJ _ _ Y
 ·intro c hc;have A:c<L.length:=hc;rw[hy];show∃g,gC=μ g;cases hg:gC with
  |none=>have:=Gt hg;omega
  |some g=>exact⟨g,rfl⟩
 ·exact⟨jG L,by rw[hy];exact h.mp,D.tells m hE⟩
 ·intro i V;rw[S];exact(G i V).2.1
 ·exact λi _=>⟨rfl,rfl⟩
 ·intro i _;rw[hy];exact Row.nil _ 3
 ·intro c d _ _;rw[hy];exact Row.nil _ 1
 ·intro l l' k e e';rcases hat l k e with⟨Y,Z⟩|⟨Y,Z⟩|⟨Y,Z⟩|⟨Y,Z⟩<;>rcases hat l' k e' with⟨T,U⟩|⟨T,U⟩|⟨T,U⟩|⟨T,U⟩
  ·rw[Y,T]
  ·exact absurd (U.symm.trans Z) H.2.1
  ·exact absurd (Z.symm.trans U) h.ne.1
  ·exact absurd Z (M k U).2.1
  ·exact absurd (Z.symm.trans U) H.2.1
  ·rw[Y,T]
  ·exact absurd (Z.symm.trans U) H.2.2.1
  ·exact absurd Z.symm (M k U).2.2.2.2
  ·exact absurd (U.symm.trans Z) h.ne.1
  ·exact absurd (U.symm.trans Z) H.2.2.1
  ·rw[Y,T]
  ·exact absurd Z (M k U).2.2.1
  ·exact absurd U (M k Z).2.1
  ·exact absurd U.symm (M k Z).2.2.2.2
  ·exact absurd U (M k Z).2.2.1
  ·rw[Y,T]
 ·intro i V b hb;have u:i<m:=V;obtain⟨_,_,z3,z4⟩:=G i u;rw[S];have Up:b<lo i \/(hi i<=b/\b<W.heap.size):=by
   rcases hb with e|e|⟨j,J,jq,e⟩
   ·have Y:=UK b e i u;have Z:=Yw b e;omega
   ·rw[t]at e;have Y:=hX b e;have Z:=h.lw i u;omega
   ·have Q:j<m:=J;rw[S]at e;have Y:=(G j Q).2.2.1 b e;have Z:=hhi j Q;rcases Nat.lt_or_gt_of_ne jq with T|T
    ·have:=h.sep j i T u;omega
    ·have:=h.sep i j T Q;omega
  exact⟨z4 b Up,λe=>by have:=z3 b (.inl e);omega⟩
 ·intro b hb e;rw[t]at hb;have Y:=hX b hb;have Z:=KA b e;omega
 ·have Zi:y.bM=bM:=by rw[hy]
  rw[Zi,t,S];refine⟨λe=> ?_,λe=> ?_,λi V e=> ?_⟩
  ·rcases iY bM e with e|e|e|e
   ·exact h.ne.2.1 e.symm
   ·exact H.2.2.2 e.symm
   ·exact h.ne.2.2.1 e.symm
   ·exact(M bM e).2.2.2.1 rfl
  ·have Y:=hX bM e;have Z:=h.ne.2.2.2.2.2;omega
  ·have Y:=(G i V).2.2.1 bM e;have Z:=h.out i V bM (.inr (.inr (.inl rfl)));omega
 ·intro e;have:=KA 0 e;omega
 ·intro b e;rcases e with e|⟨j,J,e⟩
  ·exact KA b e
  ·rw[S]at e;have Y:=(G j J).2.2.1 b e;have Z:=h.lw j J;omega
theorem Yx(W:dN):(gO 75 (ι κ 1) (ι κ 1)).run eN W=.ok (σ (μ ⟨W.heap.size,0,ν⟩) 1 1) (W.alloc (γ (oh 1) 53)):=gJ
theorem Yy(W:dN):(gO 75 (ι κ 2) (ι κ 2)).run eN W=.ok (σ (μ ⟨W.heap.size,0,ν⟩) 2 2) (W.alloc (γ (oh 2) 53)):=gJ
theorem Yz(W:dN):(gO 75 (ι κ 3) (ι κ 3)).run eN W=.ok (σ (μ ⟨W.heap.size,0,ν⟩) 3 3) (W.alloc (γ (oh 3) 53)):=gJ
theorem YA(W:dN):(gO 75 (ι κ 4) (ι κ 4)).run eN W=.ok (σ (μ ⟨W.heap.size,0,ν⟩) 4 4) (W.alloc (γ (oh 4) 53)):=gJ
theorem YB(W:dN):(gO 75 (ι κ 5) (ι κ 5)).run eN W=.ok (σ (μ ⟨W.heap.size,0,ν⟩) 5 5) (W.alloc (γ (oh 5) 53)):=gJ
theorem YC(W:dN):(gO 75 (ι κ 6) (ι κ 6)).run eN W=.ok (σ (μ ⟨W.heap.size,0,ν⟩) 6 6) (W.alloc (γ (oh 6) 53)):=gJ
theorem aco(p:Nat)(hp:1<=p/\p<=6)(W:dN):(gO 75 (ι κ (p:Int)) (ι κ (p:Int))).run eN W=.ok (σ (μ ⟨W.heap.size,0,ν⟩) p p) (W.alloc (γ (oh p) 53)):=by
 have:p=1 \/p=2 \/p=3 \/p=4 \/p=5 \/p=6:=dP;rcases this with rfl|rfl|rfl|rfl|rfl|rfl
 ·exact Yx W
 ·exact Yy W
 ·exact Yz W
 ·exact YA W
 ·exact YB W
 ·exact YC W
theorem UM:(eN.info? 26).map (λi=>(i.zero,i.size,i.bytes))=μ (μ (π ν),1,8):=gJ
theorem Od:(eN.info? 197).map (λi=>(i.zero,i.size,i.bytes))=μ (μ (.agg #[ι κ 0,ι κ 0,ι κ 0,ι κ 0,.bool false,σ ν 0 0,σ ν 0 0]),7,88):=gJ
theorem UN:(eN.info? 81).map (·.size)=μ 5:=gJ
theorem UO(p:Option Addr):∀u∈ [Value.pointer p],u.oneCell'=true:=by simp[Value.oneCell']
theorem Io(w:dN)(c:oH)(C:Array dO)(t:TypeId)(g:Nat)(Z:w.heap.size=g)(hC:C.toList=sU [c] :=by rfl):∀(j:Nat) (u:dO),(sU [c])[j]? =μ u->(w.alloc (γ C t)).cell? ((⟨g,0,ν⟩:Addr).add j)=μ u:=by
 subst Z;intro j u Y;rw[add_plain,aj,<-Y,<-hC];simp
def Oe(w:dN)(many:Int)(L:List oH)(X:Nat->Prop)(e:Ending)(w':dN):Prop:=
 (mS many L≠0->e=ρ (τ #[π ν,iP (mS many L)]))/\(mS many L=0->∃y,e=ρ (τ #[π (μ ⟨y.N,0,ν⟩),η])/\jl w' y (jx many.toNat L)/\(∀b,y.all many.toNat b->w.heap.size<=b)/\∀b,y.ext b↔X b)/\dV w w'
theorem L6(many:Int)(a:Option Addr)(cap:Nat)(L:List oH)(w:dN)(hL:Ae w a L)(hl:L.length<=1000)(hT:iQ w)(X:Nat->Prop)(hX:∀b,X b->b<w.heap.size):
 eM eN 36 #[ι κ many,σ a L.length cap] w λe w'=>Oe w many L X e w':=by
 have hm:=vJ many a cap L w hL hl;by_cases h0:mS many L=0
 ·have iC:=xM h0;have hm6:=iC.m;obtain⟨m,QU⟩:∃m:Nat,many=(m:Int):=⟨many.toNat,dP⟩
  subst QU;have E6:((m:Int)).toNat=m:=Int.toNat_natCast m;have zU:eM eN 95 #[ι κ (m:Int),σ a L.length cap] w λe w'=>∃b,e=ρ (τ #[.map (μ b),η])/\nA w' b (jG L)/\Ar (jG L)/\w.heap.size<=b/\dV w w':=by
   refine hm.mono ?_;rintro e Z ⟨_,h2,hb⟩;obtain⟨b,h3,h4,h5,h6⟩:=h2 h0;exact⟨b,h3,h4,h5,h6,hb⟩
  have HL:Hid _:=hL;have Q8:Hid _:=iC;have HT:Hid _:=hT;have H00:Hid _:=h0;obtain⟨i1,tO,agw,agx,agy⟩:=aT UM;obtain⟨i2,hi2,agz,agA,agB⟩:=aT Od;obtain⟨n,hn⟩:=fP (L.length);have HN:Hid _:=hn;have hl9:=iC.l;rw[hn]at zU hl9⊢;have wO:1<=m:=dP;have hm6:m<=6:=dP;have OX:=aco m ⟨wO,hm6⟩;clear hm hL iC hT hl h0 hn
  go_in
  go_wp2_with(fail);refine zU.mono ?_;rintro e Z ⟨bM,rfl,hE,hEO,Yn,jV⟩;have HE:Hid _:=hE;have HEO:Hid _:=hEO;have CS:Hid _:=jV;clear zU hE hEO jV;go_wp2_with(fail);have hN1:(Z.alloc (γ (oh m) 53)).heap.size=Z.heap.size+1:=gN;obtain⟨W2,mW⟩:=fP ((Z.alloc (γ (oh m) 53)).alloc (γ #[σ ν 0 0,σ (μ ⟨Z.heap.size,0,ν⟩) m m,.map (μ bM),σ ν 0 0] 190));have QT:dV Z W2:=by rw[<-mW];exact(gM _ _).alloc gN _
  have Hs:Ce w W2 (Z.heap.size+1) Z.heap.size bM m (jG L) (m8 L) 0 0 L (σ ν 0 0) (σ ν 0 0) (λ_=>0) (λ_=>0) (λ_=>0):=by
   have Bf:=CS.out.size;have nQ:bM<Z.heap.size:=by
    obtain⟨es,clock,h1,_⟩:=HE.out;exact(au.1 h1).1
   refine⟨gD CS.out QT,?_,?_,nA.keep HE.out (QT.block bM nQ),Row.nil _ _,Row.nil _ _,⟨dP,dP,dP,dP,dP,Yn⟩,λk e=>by simp[dQ]at e,λk e=>by simp[dQ]at e,λi hi=>dP,λi hi=>dP,λi k _ hk=>dP,λi hi=>dP⟩
   ·have h1:iM W2 ((Z.alloc (γ (oh m) 53)).heap.size) #[σ ν 0 0,σ (μ ⟨Z.heap.size,0,ν⟩) m m,.map (μ bM),σ ν 0 0] 190:=by rw[<-mW];exact iM.new _ _ _
    rw[hN1]at h1;exact h1
   ·have h1:iM (Z.alloc (γ (oh m) 53)) Z.heap.size (oh m) 53:=iM.new Z _ _;rw[<-mW];exact h1.below (gM _ _)
  obtain⟨N,ZV⟩:=fP (Z.heap.size+1);obtain⟨gI,Yd⟩:=fP (Z.heap.size);rw[ZV,Yd]at Hs;have HM0:Hid _:=Hs;have Tx:Hid _:=mW;have HNe:Hid _:=ZV;have HgI:Hid _:=Yd;clear mW QT Hs ZV Yd hN1;rw[Tx.out]
  try rw[HNe.out]
  try rw[HgI.out]
  go_loopw [29] (λx wr=>∃(q:Nat) (v:dO) (P lo hi:Nat->Nat),q<=m/\x=ι κ q/\Ce w wr N gI bM m (jG L) (m8 L) q 0 L v (σ ν 0 0) P lo hi) (λx _=>m-(intOf x).toNat)
  case atStart=>exact⟨0,_,_,_,_,Nat.zero_le _,rfl,HM0.out⟩
  case round=>
   obtain⟨q,v,P,lo,hi,hq,rfl,H⟩:=hrel;obtain⟨V,rfl⟩:∃V,V=wr:=⟨_,rfl⟩
   by_cases kc:q<m
   ·have nh:(q:Int)<(m:Int):=dP;have SN:IntKind.i64.wrap ((q:Int)+1)=(q:Int)+1:=aM _ ⟨dP,dP⟩;have LD:=vI N bM q (jG L) (m8 L q) V (H.nb.cell 2) H.mp HEO.out dP (λp _=>⟨rfl,Q8.out.ms q p⟩) (iQ.below (w:=w) HT.out H.nI) (λb=>b<V.heap.size) (λb e=>e);have HM:Hid _:=H;clear H;go_wp2_with(fail);refine LD.mono ?_;rintro e w3 ⟨z,rfl,l8,rO,UF,hz4,hz5,hz6⟩;have A:=HM.out.below rO;have c0:w3.cell? ⟨N,0,ν⟩=μ v:=A.nb.cell 0;have Nl:=A.vH;have iJ:=A.row;have HZ:Hid (k8 w3 z (jt ((q:Int)+1) 3 (m8 L q))/\dV V w3/\(∀b,z.nZ b->V.heap.size<=b)/\∀b,b<V.heap.size->z.fm.no b):=by
     refine⟨l8,rO,λb hb=> ?_,hz6⟩;rcases hb with e|e|e
     ·exact UF b e
     ·rw[e];exact hz4
     ·exact hz5 b e
    have HM3:Hid _:=A;clear LD l8 rO UF hz4 hz5 hz6 A;go_wp2_with(at_builtin;go_must(refine iu _ rfl (.tmp 46) (.tmp 48) 187 rfl 26 i1 (π ν) 1 8 Tryz.underlying187 tO agw agx agy rfl dS v q (uA P q) rfl (iJ.alloc _) _ 1 1 [π (μ ⟨z.R,0,ν⟩)] rfl rfl dS (pg _ _ _) (UO _) (by unfold maxLen;omega) dP ?_));intro g' jd w4 hr4 hg4 TH;have ZX:v.ownBlock≠μ N:=λe=>(HM3.out.fv N e).2.1 rfl;have Ja:iM w4 N #[v,σ (μ ⟨gI,0,ν⟩) m m,.map (μ bM),σ ν 0 0] 190:=HM3.out.nb.keep ((hg4.block N (by simp;have:=HM3.out.vH;omega) (λe=>ZX e.symm)).trans (aQ _ _ _ HM3.out.vH));have c4:w4.cell? ⟨N,0,ν⟩=μ v:=Ja.cell 0;have f4:=Ja.frozen 0;have l4:=Ja.lt;have HAdd:Hid (Ce w (w4.setCell ⟨N,0,ν⟩ (σ (μ ⟨g',0,ν⟩) (q+1) jd)) N gI bM m (jG L) (m8 L) (q+1) 0 L (σ (μ ⟨g',0,ν⟩) (q+1) jd) (σ ν 0 0) (jy P q z.R) (jy lo q V.heap.size) (jy hi q w3.heap.size)):=by
     obtain⟨a1,a2,a3,a4⟩:=HZ.out;refine Ce.wA HM.out a1 a2 a3 a4 hr4 hg4 (λk hk=> ?_);have wX:g'=k:=by simpa[dQ]using hk
     subst wX;rcases TH with e|e
     ·exact .inl e
     ·right;have:(w3.alloc (γ #[π (μ ⟨z.R,0,ν⟩)] 26)).heap.size=w3.heap.size+1:=gN;omega
    clear hr4 hg4 TH Ja ZX iJ c0 Nl
    go_wp2
    go_roundw
    case rel=>exact⟨q+1,_,_,_,_,dP,by go_num,HAdd.out⟩
    case measure=>simp[intOf];omega
   ·have zN:¬(q:Int)<(m:Int):=dP;obtain rfl:q=m:=dP;have HMq:Hid _:=H;clear H
    go_wp2
    go_loopw [55] (λx wr=>∃(j:Nat) (v2:dO),j<=n/\x=ι κ j/\Ce w wr N gI bM q (jG L) (m8 L) q j L v v2 P lo hi) (λx _=>n-(intOf x).toNat)
    case atStart=>exact⟨0,_,Nat.zero_le _,rfl,HMq.out⟩
    case round=>
    obtain⟨j,v2,hj,rfl,H⟩:=hrel;obtain⟨D,rfl⟩:∃D,D=wr:=⟨_,rfl⟩
    by_cases hjl:j<n
    ·have age:(j:Int)<(n:Int):=dP;have vr:(0:Int)<=(j:Int):=dP;have ZW:j<L.length:=by rw[HN.out];exact hjl
     obtain⟨b,off,rfl,k0,k1,k2,k3,k4⟩:=Ae.below (w:=w) HL.out H.nI j ZW;have bl:=af _ _ k0;have Uc:Hid (L.take (j+1)=L.take j++ [L[j]]):=by
      show _=_;rw[aw ZW]
     generalize L[j] =c at k0 k1 k2 k3 k4 Uc;obtain⟨ca,Q,T,M,cm⟩:=c;have jV:=gM D (γ #[ι κ ca,ι κ Q,ι κ T,ι κ M,ι κ cm] 81);have Ky:iM (D.alloc (γ #[ι κ ca,ι κ Q,ι κ T,ι κ M,ι κ cm] 81)) D.heap.size #[ι κ ca,ι κ Q,ι κ T,ι κ M,ι κ cm] 81:=iM.new D _ _;obtain⟨W1,jO⟩:=fP (D.alloc (γ #[ι κ ca,ι κ Q,ι κ T,ι κ M,ι κ cm] 81));obtain⟨Y,hY⟩:=fP (D.heap.size);have u:=H.below jV;have HYo:Hid (v2.ownBlock≠μ Y):=λe=>by have:=H.De.lt Y e;omega
     have ZR:Hid (Y≠N):=λe=>by have:=H.vH;omega
     rw[jO]at Ky u;rw[hY]at Ky;have HM:Hid _:=u;have hV0:iM W1.drew Y #[ι κ ca,ι κ Q,ι κ T,ι κ M,ι κ cm] 81:=Ky.drew;have c3a:W1.drew.cell? ⟨N,3,ν⟩=μ v2:=u.nb.cell 3;have Nl0:N<W1.drew.heap.size:=u.vH;have jX:∀E:dN,iM E Y #[ι κ ca,ι κ Q,ι κ T,ι κ M,ι κ cm] 81->(fe 81 (π (μ ⟨Y,0,ν⟩))).run eN E=.ok (.agg #[ι κ ca,ι κ Q,ι κ T,ι κ M,ι κ cm]) E:=λE hS=>by
      simp only[fe,Instr.sureAddr,Sem.run_bind,Sem.run_pure,Result.andThen];exact bI E Y 81 81 _ (0,0) _ hS Tryz.underlying81 rfl UN
     have D7:=Cc ca Q T M cm W1.drew;have N3:Hid _:=jO;have HY:Hid _:=hY;clear H u jV Ky jO hY;go_wp2_with(fail);rw[N3.out]
     try rw[HY.out]
     refine bW (S:=λx=>iM x Y #[ι κ ca,ι κ Q,ι κ T,ι κ M,ι κ cm] 81) gJ hV0 (λt=> ?_);refine iR 0 (μ 59) rfl rfl gJ gJ gJ (λ_ _ _ h=>h) (by rfl) (v:= ?_) ?_ iL ?_
     rotate_left
     ·intro E J
      (try dsimp only at J)
      go_simp
      try with_reducible rfl
     simp only[gh,gj,gk,gp];refine iR 1 (μ 60) rfl rfl gJ gJ gJ (λ_ _ _ h=>h) (by rfl) (v:= ?_) ?_ iL ?_
     rotate_left
     ·intro E J
      (try dsimp only at J)
      go_simp
      try with_reducible rfl
     simp only[gh,gj,gk,gp];refine iR 2 (μ 61) rfl rfl gJ gJ gJ (λ_ _ _ h=>h) (by rfl) (v:= ?_) ?_ iL ?_
     rotate_left
     ·intro E J
      (try dsimp only at J)
      go_simp
      try with_reducible rfl
     simp only[gh,gj,gk,gp];refine iR 3 (μ 62) rfl rfl gJ gJ gJ (λ_ _ _ h=>h) (by rfl) (v:= ?_) ?_ iL ?_
     rotate_left
     ·intro E J
      (try dsimp only at J)
      go_simp
      try with_reducible rfl
     simp only[gh,gj,gk,gp];refine iR 5 (μ 64) rfl rfl gJ gJ gJ (λ_ _ _ h=>h) (by rfl) (v:=.agg #[ι κ ca,ι κ Q,ι κ T,ι κ M,ι κ cm]) ?_ iL ?_
     ·intro E J;have h7:=jX E J;simp[execOp,Act.eval,h7]
     simp only[gh,gj,gk,gp];refine aN (rs:=[4,6]) gJ gN ?_;refine aB (o:=_) rfl (λK U=> ?_) (aB (o:=_) rfl (λK U=> ?_) aJ)
     focus
      go_simp
      (try go_wp2_with(fail))
      refine U.out _ _ (by exact hV0) (λt=> ?_);clear U K;refine aN (rs:=[6]) gJ gN ?_;refine aB (o:=_) rfl (λK U=> ?_) aJ
      go_simp
      refine D7.mono ?_;rintro e Z ⟨rfl,be⟩;have sC:=HM.out.below (gD (iI _) be);have Wj:=hV0.below be;have c3b:Z.cell? ⟨N,3,ν⟩=μ v2:=sC.nb.cell 3;have Nl1:=sC.vH
      (try go_wp2_with(fail))
      refine U.out _ _ (by exact Wj) (λt=> ?_);clear U K;refine iR 7 (μ 66) rfl rfl gJ gJ gJ (λ_ _ _ h=>h) (by rfl) (v:= ?_) ?_ iL ?_
      rotate_left
      ·intro E J
       (try dsimp only at J)
       go_simp
       try with_reducible rfl
      simp only[gh,gj,gk,gp];refine aN (rs:=[8]) gJ gN ?_;refine aB (o:=_) rfl (λK U=> ?_) aJ
      go_simp
      have Hv:=iM.below Wj (gM Z (γ #[ι κ ca,ι κ Q,ι κ T,ι κ M,.bool false,σ ν 0 0,σ ν 0 0] 197));have G:=sC.below (gM Z (γ #[ι κ ca,ι κ Q,ι κ T,ι κ M,.bool false,σ ν 0 0,σ ν 0 0] 197));have c3c:(Z.alloc (γ #[ι κ ca,ι κ Q,ι κ T,ι κ M,.bool false,σ ν 0 0,σ ν 0 0] 197)).cell? ⟨N,3,ν⟩=μ v2:=G.nb.cell 3;have Nl2:=G.vH
      (try go_wp2_with(fail))
      refine U.out _ _ (by exact Hv) (λt=> ?_);clear U K
     rotate_left
     focus
      go_simp
      refine D7.mono ?_;rintro e Z ⟨rfl,be⟩;have sC:=HM.out.below (gD (iI _) be);have Wj:=hV0.below be;have c3b:Z.cell? ⟨N,3,ν⟩=μ v2:=sC.nb.cell 3;have Nl1:=sC.vH
      (try go_wp2_with(fail))
      refine U.out _ _ (by exact Wj) (λt=> ?_);clear U K;refine iR 7 (μ 66) rfl rfl gJ gJ gJ (λ_ _ _ h=>h) (by rfl) (v:= ?_) ?_ iL ?_
      rotate_left
      ·intro E J
       (try dsimp only at J)
       go_simp
       try with_reducible rfl
      simp only[gh,gj,gk,gp];refine aN (rs:=[4,8]) gJ gN ?_;refine aB (o:=_) rfl (λK U=> ?_) (aB (o:=_) rfl (λK U=> ?_) aJ)
      focus
       go_simp
       (try go_wp2_with(fail))
       refine U.out _ _ (by exact Wj) (λt=> ?_);clear U K;refine aN (rs:=[8]) gJ gN ?_;refine aB (o:=_) rfl (λK U=> ?_) aJ
       go_simp
       have Hv:=iM.below Wj (gM Z (γ #[ι κ ca,ι κ Q,ι κ T,ι κ M,.bool false,σ ν 0 0,σ ν 0 0] 197));have G:=sC.below (gM Z (γ #[ι κ ca,ι κ Q,ι κ T,ι κ M,.bool false,σ ν 0 0,σ ν 0 0] 197));have c3c:(Z.alloc (γ #[ι κ ca,ι κ Q,ι κ T,ι κ M,.bool false,σ ν 0 0,σ ν 0 0] 197)).cell? ⟨N,3,ν⟩=μ v2:=G.nb.cell 3;have Nl2:=G.vH
       (try go_wp2_with(fail))
       refine U.out _ _ (by exact Hv) (λt=> ?_);clear U K
      rotate_left
      go_simp
      have Hv:=iM.below Wj (gM Z (γ #[ι κ ca,ι κ Q,ι κ T,ι κ M,.bool false,σ ν 0 0,σ ν 0 0] 197));have G:=sC.below (gM Z (γ #[ι κ ca,ι κ Q,ι κ T,ι κ M,.bool false,σ ν 0 0,σ ν 0 0] 197));have c3c:(Z.alloc (γ #[ι κ ca,ι κ Q,ι κ T,ι κ M,.bool false,σ ν 0 0,σ ν 0 0] 197)).cell? ⟨N,3,ν⟩=μ v2:=G.nb.cell 3;have Nl2:=G.vH
      (try go_wp2_with(fail))
      refine U.out _ _ (by exact Hv) (λt=> ?_);clear U K;refine aN (rs:=[4]) gJ gN ?_;refine aB (o:=_) rfl (λK U=> ?_) aJ
      go_simp
      (try go_wp2_with(fail))
      refine U.out _ _ (by exact Hv) (λt=> ?_);clear U K
     all_goals
      refine aN (rs:=[9]) gJ gN ?_;refine aB (o:=_) rfl (λK U=> ?_) aJ;refine kQ (by rfl) (.tmp 63) (.tmp 67) 188 (by rfl) 197 i2 (.agg #[ι κ 0,ι κ 0,ι κ 0,ι κ 0,.bool false,σ ν 0 0,σ ν 0 0]) 7 88 Tryz.underlying188 hi2 agz agA agB (by rfl) dS v2 j (sU (L.take j)) (by rfl) G.De _ 1 1 (sU [⟨ca,Q,T,M,cm⟩]) (by rfl) (by rfl) dS (Io _ _ _ _ _ rfl) (RM _) (by unfold maxLen;omega) dP ?_;intro g' jd x1 kD jZ jj;have Ad:iM x1 N _ 190:=G.nb.keep (jZ.block N G.vH (λe=>(G.Il N e.symm).2.1 rfl));have hV3:iM x1 Y _ 81:=Hv.keep (jZ.block Y Hv.lt (λe=>HYo.out e.symm));have c3d:x1.cell? ⟨N,3,ν⟩=μ v2:=Ad.cell 3;have f3d:=Ad.frozen 3;have Nl3:=Ad.lt;refine U.out _ _ (by exact hV3) (λt=> ?_);clear U K;refine iR 10 (μ 69) rfl rfl gJ gJ gJ (λ_ _ _ h=>h) (by rfl) (v:= ?_) ?_ iL ?_
      rotate_left
      ·intro E J
       (try dsimp only at J)
       go_simp
       try with_reducible rfl
      simp only[gh,gj];refine iR 11 (μ 70) rfl rfl gJ gJ gJ (λ_ _ _ h=>h) (by rfl) (v:= ?_) ?_ iL ?_
      rotate_left
      ·intro E J
       (try dsimp only at J)
       go_simp
       try with_reducible rfl
      simp only[gh];refine aN (rs:=[12]) gJ gN ?_;refine aB (o:=_) rfl (λK U=> ?_) aJ
      go_simp
      (try go_wp2_with(fail))
      refine U.out _ _ (by exact hV3.other ZR.out _) (λt=> ?_);clear U K;refine cD gJ ?_ _;have HAdd:Hid _:=Ce.LQ G (c:=⟨ca,Q,T,M,cm⟩) Uc.out kD jZ (λk hk=>by
       have wX:g'=k:=by simpa[dQ]using hk
       subst wX;exact jj)
      clear kD jZ jj Ad hV3 c3d f3d Nl3 sC G Wj Hv
      go_wp2
      go_roundw
      case rel=>exact⟨j+1,_,dP,by go_num,HAdd.out⟩
      case measure=>simp[intOf];omega
    ·have Yj:¬(j:Int)<(n:Int):=dP;obtain rfl:j=n:=dP;have rR:∃y,jl D y (jx ((q:Int)).toNat L)/\y.N=N/\(∀b,y.all ((q:Int)).toNat b->w.heap.size<=b)/\∀b,y.ext b↔X b:=by
      have G:Ce w D N gI bM ((q:Int)).toNat (jG L) (m8 L) ((q:Int)).toNat L.length L v v2 P lo hi:=by
       rw[E6,HN.out];exact H
      exact Ce.done (w:=w) (many:=(q:Int)) Q8.out HEO.out G (iQ.lt (w:=w) HT.out) X hX
     have HF:Hid (Oe w (q:Int) L X (ρ (τ #[π (μ ⟨N,0,ν⟩),η])) D):=by
      obtain⟨y,y1,y2,y3,y4⟩:=rR;exact⟨λe=>absurd H00.out e,λ_=>⟨y,by rw[y2],y1,y3,y4⟩,H.nI⟩
     clear H rR
     go_wp2
     go_ret2
     exact HF.out
 ·have zU:eM eN 95 #[ι κ many,σ a L.length cap] w λe w'=>e=ρ (τ #[.map ν,iP (mS many L)])/\dV w w':=by
   refine hm.mono ?_;rintro e Z ⟨h1,_,hb⟩;exact⟨h1 h0,hb⟩
  have ee:iP (mS many L)=.iface 128 (ι κ ((mS many L:Nat):Int)):=by simp only[iP];rw[ae h0]
  have HE:Hid _:=ee;have H0:Hid _:=h0;rw[ee]at zU;generalize L.length=n at zU⊢;clear hm hL hT ee h0
  go_in
  go_wp2_with(fail);refine zU.mono ?_;rintro e Z ⟨rfl,hb⟩;have HB:Hid _:=hb;clear zU hb
  go_wp2
  go_ret2
  exact⟨λ_=>by rw[HE.out];rfl,λe=>absurd e H0.out,HB.out⟩
def qX(y:iB)(v:AV):iB:=
 if(v.kind.toList==[112,108,117,103])=true then(y.iw v.a (v.b==1)).1
 else if(v.kind.toList==[116,105,99,107])=true then(y.tick v.a).1
 else if(v.kind.toList==[100,101,108,105,118,101,114])=true then(y.deliver v.a v.b v.c).1
 else if(v.kind.toList==[114,101,115,116,97,114,116])=true then(y.restart v.a).1
 else if(v.kind.toList==[115,101,110,100])=true then(y.send v.a v.b v.s.data.toList).1
 else if(v.kind.toList==[114,111,117,110,100])=true then y.round
 else y
theorem Og(y:iB)(i:Int)(up:Bool):(y.iw i up).1.n=y.n/\(y.iw i up).1.nc=y.nc/\(y.iw i up).1.ms=y.ms/\∀x,((y.iw i up).1.C x).e=(y.C x).e:=by
 unfold iB.iw;split
 ·exact⟨rfl,rfl,rfl,λ_=>rfl⟩
 ·split
  ·exact⟨rfl,rfl,rfl,λ_=>rfl⟩
  ·obtain⟨g1,Z,Y,X⟩:=lg (y.jC i.toNat up);obtain⟨V,U,p3,_,T⟩:=og y i.toNat up;exact⟨g1.trans V,Z.trans U,Y.trans p3,λx=>(X x).1.trans (T x).1⟩
theorem Fh(y:iB)(i:Int):(y.restart i).1.n=y.n/\(y.restart i).1.nc=y.nc/\(y.restart i).1.ms=y.ms/\∀x,((y.restart i).1.C x).e=(y.C x).e:=by
 unfold iB.restart;split
 ·exact⟨rfl,rfl,rfl,λ_=>rfl⟩
 ·obtain⟨Z,Y,X,_,V⟩:=l7 false (y.kH (i-1).toNat) y;obtain⟨b1,b2,b3,_,b5⟩:=l7 true (y.kH (i-1).toNat) ((y.jo false (y.kH (i-1).toNat)).jg (i-1).toNat (jt i 3 (y.ms (i-1).toNat)));obtain⟨g1,U,T,S⟩:=lg (((y.jo false (y.kH (i-1).toNat)).jg (i-1).toNat (jt i 3 (y.ms (i-1).toNat))).jo true (y.kH (i-1).toNat));exact⟨g1.trans (b1.trans Z),U.trans (b2.trans Y),T.trans (b3.trans X),λx=>(S x).1.trans ((b5 x).trans (V x))⟩
theorem Oh(y:iB)(f t:Int)(tx:List UInt8):(y.send f t tx).1.n=y.n/\(y.send f t tx).1.nc=y.nc/\(y.send f t tx).1.ms=y.ms/\∀x,((y.send f t tx).1.C x).e=(y.C x).e:=by
 unfold iB.send;split
 ·exact⟨rfl,rfl,rfl,λ_=>rfl⟩
 ·split
  ·exact⟨rfl,rfl,rfl,λ_=>rfl⟩
  ·obtain⟨g1,Z,Y,X⟩:=lg (y.jg (f-1).toNat (jR (y.R (f-1).toNat) t tx).1);exact⟨g1,Z,Y,λx=>(X x).1⟩
theorem Oi(y:iB)(v:AV):(qX y v).n=y.n/\(qX y v).nc=y.nc/\(qX y v).ms=y.ms/\∀x,((qX y v).C x).e=(y.C x).e:=by
 unfold qX;split
 ·exact Og _ _ _
 ·split
  ·obtain⟨a,b,c,d⟩:=D4 y v.a;exact⟨a,b,c,λx=>(d x).1⟩
  ·split
   ·obtain⟨a,b,c,d⟩:=oR y v.a v.b v.c;exact⟨a,b,c,λx=>(d x).1⟩
   ·split
    ·exact Fh _ _
    ·split
     ·exact Oh _ _ _ _
     ·split
      ·obtain⟨a,b,c,d⟩:=sT y;exact⟨a,b,c,λx=>(d x).1⟩
      ·exact⟨rfl,rfl,rfl,λ_=>rfl⟩
theorem jN.act {y:iB} {D:Nat} (h:jN y D 0)(Z:D<=800000000)(v:AV):jN (qX y v) (D+1300000) 0:=by
 unfold qX;split
 ·exact(h.iw dP _ _).mono dP (Nat.le_refl _)
 ·split
  ·exact(h.tick dP _).mono dP (Nat.le_refl _)
  ·split
   ·exact(h.deliver dP _ _ _).mono dP (Nat.le_refl _)
   ·split
    ·exact(h.restart dP _).mono dP (Nat.le_refl _)
    ·split
     ·exact(h.send dP _ _ _).mono dP (Nat.le_refl _)
     ·split
      ·exact h.round Z
      ·exact h.mono dP (Nat.le_refl _)
theorem jl.from {y:Yt} {n n':iB} {f:FuncId} {args:Array dO} {ev:dO} (hb:dV w W)(hc:eM eN f args W λe w'=>e=ρ ev/\il W w' y n' n.n):eM eN f args W λe w'=>(∃v,e=ρ v)/\il w w' y n' n.n:=by
 refine hc.mono ?_;rintro e w' ⟨rfl,Z⟩;exact⟨⟨_,rfl⟩,il.first hb Z⟩
theorem Am(y:Yt)(n:iB)(D:Nat)(v:AV)(w:dN)(h:jl w y n)(hT:iQ w)(iC:jN n D 0)(hD:D<=800000000):
 eM eN 59 #[π (μ ⟨y.N,0,ν⟩),.agg #[.string v.kind,ι κ v.a,ι κ v.b,ι κ v.c,ι κ v.d,.string v.s,ι κ v.Lh,ι κ v.pid,σ v.po v.pn v.A7,ι κ v.x.own,ι κ v.x.seq,σ v.x.a v.x.n v.x.cap]] w λe w'=>e=ρ (τ #[])/\il w w' y (qX n v) n.n:=by
 obtain⟨Z,T,M,vc,vd,vs,Vt,Vu,Vv,SK,zd,⟨xo,xq,xa,xn,xc⟩⟩:=v;have hb:=gM w (γ #[.string Z,ι κ T,ι κ M,ι κ vc,ι κ vd,.string vs,ι κ Vt,ι κ Vu,σ Vv SK zd,ι κ xo,ι κ xq,σ xa xn xc] 42);have J:iM (w.alloc (γ #[.string Z,ι κ T,ι κ M,ι κ vc,ι κ vd,.string vs,ι κ Vt,ι κ Vu,σ Vv SK zd,ι κ xo,ι κ xq,σ xa xn xc] 42)) w.heap.size #[.string Z,ι κ T,ι κ M,ι κ vc,ι κ vd,.string vs,ι κ Vt,ι κ Vu,σ Vv SK zd,ι κ xo,ι κ xq,σ xa xn xc] 42:=iM.new w _ _;obtain⟨S,mL⟩:=fP (w.alloc (γ #[.string Z,ι κ T,ι κ M,ι κ vc,ι κ vd,.string vs,ι κ Vt,ι κ Vu,σ Vv SK zd,ι κ xo,ι κ xq,σ xa xn xc] 42));obtain⟨X,hX⟩:=fP (w.heap.size);rw[mL]at hb J;rw[hX]at J;have R0:=h.below hb;have T0:iQ S:=iQ.below (w:=w) hT hb;have c0:S.cell? ⟨X,0,ν⟩=μ (.string Z):=J.cell 0;have c1:S.cell? ⟨X,1,ν⟩=μ (ι κ T):=J.cell 1;have c2:S.cell? ⟨X,2,ν⟩=μ (ι κ M):=J.cell 2;have c3:S.cell? ⟨X,3,ν⟩=μ (ι κ vc):=J.cell 3;have c5:S.cell? ⟨X,5,ν⟩=μ (.string vs):=J.cell 5;have xl:=J.lt;have t:Hid _:=mL;have HX:Hid _:=hX;have q1:=jl.from hb (H9 y n D T (M==1) S R0 T0 iC dP);have q2:=jl.from hb (H6 y n D T S R0 T0 iC dP);have H:=jl.from hb (zC y n D T M vc S R0 T0 iC dP);have E:=jl.from hb (Ig y n D T S R0 T0 iC dP);have A:=jl.from hb (RD y n D T M vs S R0 iC dP);have q6:=jl.from hb (D5 y n D S R0 T0 iC hD);have u:il w S y n n.n:=il.still h hb;obtain⟨G,hG⟩:=fP (qX n ⟨Z,T,M,vc,vd,vs,Vt,Vu,Vv,SK,zd,⟨xo,xq,xa,xn,xc⟩⟩)
 rw[hG];have j:Hid (G=if(Z.toList==[112,108,117,103])=true then(n.iw T (M==1)).1
  else if(Z.toList==[116,105,99,107])=true then(n.tick T).1
  else if(Z.toList==[100,101,108,105,118,101,114])=true then(n.deliver T M vc).1
  else if(Z.toList==[114,101,115,116,97,114,116])=true then(n.restart T).1
  else if(Z.toList==[115,101,110,100])=true then(n.send T M vs.data.toList).1
  else if(Z.toList==[114,111,117,110,100])=true then n.round
  else n):=hG.symm
 clear h hT iC R0 T0 hb J mL hX hG;cases k1:(Z.toList==[112,108,117,103])
 case true=>
  have V:=q1;clear q1 q2 H E A q6 u;have Y:Hid (∀x,il w x y _ n.n->il w x y G n.n):=λx hx=>by
   rw[j.out,ag k1];exact hx
  go_in
  go_wp2_with(fail)
  try rw[t.out]
  try rw[HX.out]
  go_wp2_with(fail);refine V.mono ?_;rintro e w6 ⟨⟨ev,rfl⟩,U⟩;have Q:Hid _:=Y.out _ U;clear V U Y
  go_wp2
  first|go_end0|refine iq rfl rfl ?_
  exact⟨rfl,Q.out⟩
 case false=>
  cases k2:(Z.toList==[116,105,99,107])
  case true=>
   have V:=q2;clear q1 q2 H E A q6 u;have Y:Hid (∀x,il w x y _ n.n->il w x y G n.n):=λx hx=>by
    rw[j.out,ae (by rw[k1];simp),ag k2];exact hx
   go_in
   go_wp2_with(fail)
   try rw[t.out]
   try rw[HX.out]
   go_wp2_with(fail);refine V.mono ?_;rintro e w6 ⟨⟨ev,rfl⟩,U⟩;have Q:Hid _:=Y.out _ U;clear V U Y
   go_wp2
   first|go_end0|refine iq rfl rfl ?_
   exact⟨rfl,Q.out⟩
  case false=>
   cases k3:(Z.toList==[100,101,108,105,118,101,114])
   case true=>
    have V:=H;clear q1 q2 H E A q6 u;have Y:Hid (∀x,il w x y _ n.n->il w x y G n.n):=λx hx=>by
     rw[j.out,ae (by rw[k1];simp),ae (by rw[k2];simp),ag k3];exact hx
    go_in
    go_wp2_with(fail)
    try rw[t.out]
    try rw[HX.out]
    go_wp2_with(fail);refine V.mono ?_;rintro e w6 ⟨⟨ev,rfl⟩,U⟩;have Q:Hid _:=Y.out _ U;clear V U Y
    go_wp2
    first|go_end0|refine iq rfl rfl ?_
    exact⟨rfl,Q.out⟩
   case false=>
    cases k4:(Z.toList==[114,101,115,116,97,114,116])
    case true=>
     have V:=E;clear q1 q2 H E A q6 u;have Y:Hid (∀x,il w x y _ n.n->il w x y G n.n):=λx hx=>by
      rw[j.out,ae (by rw[k1];simp),ae (by rw[k2];simp),ae (by rw[k3];simp),ag k4];exact hx
     go_in
     go_wp2_with(fail)
     try rw[t.out]
     try rw[HX.out]
     go_wp2_with(fail);refine V.mono ?_;rintro e w6 ⟨⟨ev,rfl⟩,U⟩;have Q:Hid _:=Y.out _ U;clear V U Y
     go_wp2
     first|go_end0|refine iq rfl rfl ?_
     exact⟨rfl,Q.out⟩
    case false=>
     cases k5:(Z.toList==[115,101,110,100])
     case true=>
      have V:=A;clear q1 q2 H E A q6 u;have Y:Hid (∀x,il w x y _ n.n->il w x y G n.n):=λx hx=>by
       rw[j.out,ae (by rw[k1];simp),ae (by rw[k2];simp),ae (by rw[k3];simp),ae (by rw[k4];simp),ag k5];exact hx
      go_in
      go_wp2_with(fail)
      try rw[t.out]
      try rw[HX.out]
      go_wp2_with(fail);refine V.mono ?_;rintro e w6 ⟨⟨ev,rfl⟩,U⟩;have Q:Hid _:=Y.out _ U;clear V U Y
      go_wp2
      first|go_end0|refine iq rfl rfl ?_
      exact⟨rfl,Q.out⟩
     case false=>
      cases k6:(Z.toList==[114,111,117,110,100])
      case true=>
       have V:=q6;clear q1 q2 H E A q6 u;have Y:Hid (∀x,il w x y _ n.n->il w x y G n.n):=λx hx=>by
        rw[j.out,ae (by rw[k1];simp),ae (by rw[k2];simp),ae (by rw[k3];simp),ae (by rw[k4];simp),ae (by rw[k5];simp),ag k6];exact hx
       go_in
       go_wp2_with(fail)
       try rw[t.out]
       try rw[HX.out]
       go_wp2_with(fail);refine V.mono ?_;rintro e w6 ⟨⟨ev,rfl⟩,U⟩;have Q:Hid _:=Y.out _ U;clear V U Y
       go_wp2
       first|go_end0|refine iq rfl rfl ?_
       exact⟨rfl,Q.out⟩
      case false=>
       have Q:Hid (il w S y G n.n):=by
        show il _ _ _ _ _;rw[j.out,ae (by rw[k1];simp),ae (by rw[k2];simp),ae (by rw[k3];simp),ae (by rw[k4];simp),ae (by rw[k5];simp),ae (by rw[k6];simp)];exact u
       clear q1 q2 H E A q6 u
       go_in
       go_wp2_with(fail)
       try rw[t.out]
       try rw[HX.out]
       go_wp2
       first|go_end0|refine iq rfl rfl ?_
       exact⟨rfl,Q.out⟩
