import Derived.Test.YtieklnlbljejdaaGreatDoorQ15
open Go.Value renaming int → ι, slice → σ, pointer → π, tuple → τ
open Go.IntKind renaming i64 → κ
open Go.Ending renaming returned → ρ
open Go.Obj renaming cells → γ
open Option renaming none → ν, some → μ
open Go.Proofs.Tryz renaming prog → eU
open List renaming range → fR, mem_filter → gS
open Prod renaming fst → gT, snd → gU
set_option maxRecDepth 100000
set_option maxHeartbeats 4000000
namespace Go.Proofs.YtieklnlbljejdaaGreatDoor
open Go.RowKit St
namespace Rt
variable {D i:Nat} {p q:jl} {ps:List (List UInt8)} {r r':iE} {s:LS} {y:iI}
def sg(y:iI)(v:AV):iI:=
 if(v.kind.toList==[112,108,117,103])=true then(y.iD v.a (v.b==1)).1
 else if(v.kind.toList==[116,105,99,107])=true then(y.tick v.a).1
 else if(v.kind.toList==[100,101,108,105,118,101,114])=true then(y.deliver v.a v.b v.c).1
 else if(v.kind.toList==[114,101,115,116,97,114,116])=true then(y.restart v.a).1
 else if(v.kind.toList==[115,101,110,100])=true then(y.send v.a v.b v.s.data.toList).1
 else if(v.kind.toList==[114,111,117,110,100])=true then y.round
 else y
theorem Ql(y:iI)(i:Int)(up:Bool):(y.iD i up).1.n=y.n/\(y.iD i up).1.nc=y.nc/\(y.iD i up).1.ms=y.ms/\∀x,((y.iD i up).1.C x).e=(y.C x).e:=by
 unfold iI.iD;split
 ·exact⟨rfl,rfl,rfl,λ_=>rfl⟩
 ·split
  ·exact⟨rfl,rfl,rfl,λ_=>rfl⟩
  ·obtain⟨g1,X,U,T⟩:=ln (y.jP i.toNat up);obtain⟨Z,V,p3,_,Y⟩:=oS y i.toNat up;exact⟨g1.trans Z,X.trans V,U.trans p3,λx=>(T x).1.trans (Y x).1⟩
theorem zf(y:iI)(i:Int):(y.restart i).1.n=y.n/\(y.restart i).1.nc=y.nc/\(y.restart i).1.ms=y.ms/\∀x,((y.restart i).1.C x).e=(y.C x).e:=by
 unfold iI.restart;split
 ·exact⟨rfl,rfl,rfl,λ_=>rfl⟩
 ·obtain⟨Y,Q,X,_,Z⟩:=mI false (y.k7 (i-1).toNat) y;obtain⟨b1,b2,b3,_,b5⟩:=mI true (y.k7 (i-1).toNat) ((y.jB false (y.k7 (i-1).toNat)).jq (i-1).toNat (jE i 3 (y.ms (i-1).toNat)));obtain⟨g1,V,U,T⟩:=ln (((y.jB false (y.k7 (i-1).toNat)).jq (i-1).toNat (jE i 3 (y.ms (i-1).toNat))).jB true (y.k7 (i-1).toNat));exact⟨g1.trans (b1.trans Y),V.trans (b2.trans Q),U.trans (b3.trans X),λx=>(T x).1.trans ((b5 x).trans (Z x))⟩
theorem Qm(y:iI)(f t:Int)(tx:List UInt8):(y.send f t tx).1.n=y.n/\(y.send f t tx).1.nc=y.nc/\(y.send f t tx).1.ms=y.ms/\∀x,((y.send f t tx).1.C x).e=(y.C x).e:=by
 unfold iI.send;split
 ·exact⟨rfl,rfl,rfl,λ_=>rfl⟩
 ·split
  ·exact⟨rfl,rfl,rfl,λ_=>rfl⟩
  ·obtain⟨g1,X,Z,Y⟩:=ln (y.jq (f-1).toNat (j2 (y.R (f-1).toNat) t tx).1);exact⟨g1,X,Z,λx=>(Y x).1⟩
theorem Qn(y:iI)(v:AV):(sg y v).n=y.n/\(sg y v).nc=y.nc/\(sg y v).ms=y.ms/\∀x,((sg y v).C x).e=(y.C x).e:=by
 unfold sg;split
 ·exact Ql _ _ _
 ·split
  ·obtain⟨a,b,c,d⟩:=Al y v.a;exact⟨a,b,c,λx=>(d x).1⟩
  ·split
   ·obtain⟨a,b,c,d⟩:=mE y v.a v.b v.c;exact⟨a,b,c,λx=>(d x).1⟩
   ·split
    ·exact zf _ _
    ·split
     ·exact Qm _ _ _ _
     ·split
      ·obtain⟨a,b,c,d⟩:=kr y;exact⟨a,b,c,λx=>(d x).1⟩
      ·exact⟨rfl,rfl,rfl,λ_=>rfl⟩
theorem jT.act(h:jT y D 0)(Z:D<=800000000)(v:AV):jT (sg y v) (D+1300000) 0:=by
 unfold sg;split
 ·exact(h.iD dU _ _).mono dU (Nat.le_refl _)
 ·split
  ·exact(h.tick dU _).mono dU (Nat.le_refl _)
  ·split
   ·exact(h.deliver dU _ _ _).mono dU (Nat.le_refl _)
   ·split
    ·exact(h.restart dU _).mono dU (Nat.le_refl _)
    ·split
     ·exact(h.send dU _ _ _).mono dU (Nat.le_refl _)
     ·split
      ·exact h.round Z
      ·exact h.mono dU (Nat.le_refl _)
theorem ju.from {w W:World} {y:Yt} {n n':iI} {f:FuncId} {args:Array Value} {ev:Value} (hb:eh w W)(hc:Calls eU f args W λe w'=>e=ρ ev/\iy W w' y n' n.n):Calls eU f args W λe w'=>(∃v,e=ρ v)/\iy w w' y n' n.n:=by
 refine hc.mono ?_;rintro e w' ⟨rfl,Z⟩;exact⟨⟨_,rfl⟩,iy.first hb Z⟩
theorem Ci(y:Yt)(n:iI)(D:Nat)(v:AV)(w:World)(h:ju w y n)(hT:iV w)(iF:jT n D 0)(hD:D<=800000000):
 Calls eU 59 #[π (μ ⟨y.N,0,ν⟩),.agg #[.string v.kind,ι κ v.a,ι κ v.b,ι κ v.c,ι κ v.d,.string v.s,ι κ v.Nr,ι κ v.pid,σ v.po v.pn v.CZ,ι κ v.x.own,ι κ v.x.seq,σ v.x.a v.x.n v.x.cap]] w λe w'=>e=ρ (τ #[])/\iy w w' y (sg n v) n.n:=by
 obtain⟨Z,T,M,vc,vd,vs,XY,XZ,X2,Ve,AP,⟨xo,xq,xa,xn,xc⟩⟩:=v;have hb:=gN w (γ #[.string Z,ι κ T,ι κ M,ι κ vc,ι κ vd,.string vs,ι κ XY,ι κ XZ,σ X2 Ve AP,ι κ xo,ι κ xq,σ xa xn xc] 42);have J:jc (w.alloc (γ #[.string Z,ι κ T,ι κ M,ι κ vc,ι κ vd,.string vs,ι κ XY,ι κ XZ,σ X2 Ve AP,ι κ xo,ι κ xq,σ xa xn xc] 42)) w.heap.size #[.string Z,ι κ T,ι κ M,ι κ vc,ι κ vd,.string vs,ι κ XY,ι κ XZ,σ X2 Ve AP,ι κ xo,ι κ xq,σ xa xn xc] 42:=jc.new w _ _;obtain⟨W0,mT⟩:=fW (w.alloc (γ #[.string Z,ι κ T,ι κ M,ι κ vc,ι κ vd,.string vs,ι κ XY,ι κ XZ,σ X2 Ve AP,ι κ xo,ι κ xq,σ xa xn xc] 42));obtain⟨X,hX⟩:=fW (w.heap.size);rw[mT]at hb J;rw[hX]at J;have R0:=h.below hb;have T0:iV W0:=iV.below (w:=w) hT hb;have c0:W0.cell? ⟨X,0,ν⟩=μ (.string Z):=J.cell 0;have c1:W0.cell? ⟨X,1,ν⟩=μ (ι κ T):=J.cell 1;have c2:W0.cell? ⟨X,2,ν⟩=μ (ι κ M):=J.cell 2;have c3:W0.cell? ⟨X,3,ν⟩=μ (ι κ vc):=J.cell 3;have c5:W0.cell? ⟨X,5,ν⟩=μ (.string vs):=J.cell 5;have xl:=J.lt;have Cq:Hid _:=mT;have HX:Hid _:=hX;have q1:=ju.from hb (Ka y n D T (M==1) W0 R0 T0 iF dU);have q2:=ju.from hb (DV y n D T W0 R0 T0 iF dU);have H:=ju.from hb (Bi y n D T M vc W0 R0 T0 iF dU);have j:=ju.from hb (Bk y n D T W0 R0 T0 iF dU);have A:=ju.from hb (Ua y n D T M vs W0 R0 iF dU);have q6:=ju.from hb (Am y n D W0 R0 T0 iF hD);have u:iy w W0 y n n.n:=iy.still h hb;obtain⟨G,hG⟩:=fW (sg n ⟨Z,T,M,vc,vd,vs,XY,XZ,X2,Ve,AP,⟨xo,xq,xa,xn,xc⟩⟩)
 rw[hG];have HG:Hid (G=if(Z.toList==[112,108,117,103])=true then(n.iD T (M==1)).1
  else if(Z.toList==[116,105,99,107])=true then(n.tick T).1
  else if(Z.toList==[100,101,108,105,118,101,114])=true then(n.deliver T M vc).1
  else if(Z.toList==[114,101,115,116,97,114,116])=true then(n.restart T).1
  else if(Z.toList==[115,101,110,100])=true then(n.send T M vs.data.toList).1
  else if(Z.toList==[114,111,117,110,100])=true then n.round
  else n):=hG.symm
 clear h hT iF R0 T0 hb J mT hX hG;cases k1:(Z.toList==[112,108,117,103])
 case true=>
  have V:=q1;clear q1 q2 H j A q6 u;have U:Hid (∀x,iy w x y _ n.n->iy w x y G n.n):=λx hx=>by
   rw[HG.out,ag k1];exact hx
  go_in
  go_wp2_with(fail)
  try rw[Cq.out]
  try rw[HX.out]
  go_wp2_with(fail);refine V.mono ?_;rintro e w6 ⟨⟨ev,rfl⟩,Y⟩;have Q:Hid _:=U.out _ Y;clear V Y U
  go_wp2
  first|go_end0|refine iC rfl rfl ?_
  exact⟨rfl,Q.out⟩
 case false=>
  cases k2:(Z.toList==[116,105,99,107])
  case true=>
   have V:=q2;clear q1 q2 H j A q6 u;have U:Hid (∀x,iy w x y _ n.n->iy w x y G n.n):=λx hx=>by
    rw[HG.out,ae (by rw[k1];simp),ag k2];exact hx
   go_in
   go_wp2_with(fail)
   try rw[Cq.out]
   try rw[HX.out]
   go_wp2_with(fail);refine V.mono ?_;rintro e w6 ⟨⟨ev,rfl⟩,Y⟩;have Q:Hid _:=U.out _ Y;clear V Y U
   go_wp2
   first|go_end0|refine iC rfl rfl ?_
   exact⟨rfl,Q.out⟩
  case false=>
   cases k3:(Z.toList==[100,101,108,105,118,101,114])
   case true=>
    have V:=H;clear q1 q2 H j A q6 u;have U:Hid (∀x,iy w x y _ n.n->iy w x y G n.n):=λx hx=>by
     rw[HG.out,ae (by rw[k1];simp),ae (by rw[k2];simp),ag k3];exact hx
    go_in
    go_wp2_with(fail)
    try rw[Cq.out]
    try rw[HX.out]
    go_wp2_with(fail);refine V.mono ?_;rintro e w6 ⟨⟨ev,rfl⟩,Y⟩;have Q:Hid _:=U.out _ Y;clear V Y U
    go_wp2
    first|go_end0|refine iC rfl rfl ?_
    exact⟨rfl,Q.out⟩
   case false=>
    cases k4:(Z.toList==[114,101,115,116,97,114,116])
    case true=>
     have V:=j;clear q1 q2 H j A q6 u;have U:Hid (∀x,iy w x y _ n.n->iy w x y G n.n):=λx hx=>by
      rw[HG.out,ae (by rw[k1];simp),ae (by rw[k2];simp),ae (by rw[k3];simp),ag k4];exact hx
     go_in
     go_wp2_with(fail)
     try rw[Cq.out]
     try rw[HX.out]
     go_wp2_with(fail);refine V.mono ?_;rintro e w6 ⟨⟨ev,rfl⟩,Y⟩;have Q:Hid _:=U.out _ Y;clear V Y U
     go_wp2
     first|go_end0|refine iC rfl rfl ?_
     exact⟨rfl,Q.out⟩
    case false=>
     cases k5:(Z.toList==[115,101,110,100])
     case true=>
      have V:=A;clear q1 q2 H j A q6 u;have U:Hid (∀x,iy w x y _ n.n->iy w x y G n.n):=λx hx=>by
       rw[HG.out,ae (by rw[k1];simp),ae (by rw[k2];simp),ae (by rw[k3];simp),ae (by rw[k4];simp),ag k5];exact hx
      go_in
      go_wp2_with(fail)
      try rw[Cq.out]
      try rw[HX.out]
      go_wp2_with(fail);refine V.mono ?_;rintro e w6 ⟨⟨ev,rfl⟩,Y⟩;have Q:Hid _:=U.out _ Y;clear V Y U
      go_wp2
      first|go_end0|refine iC rfl rfl ?_
      exact⟨rfl,Q.out⟩
     case false=>
      cases k6:(Z.toList==[114,111,117,110,100])
      case true=>
       have V:=q6;clear q1 q2 H j A q6 u;have U:Hid (∀x,iy w x y _ n.n->iy w x y G n.n):=λx hx=>by
        rw[HG.out,ae (by rw[k1];simp),ae (by rw[k2];simp),ae (by rw[k3];simp),ae (by rw[k4];simp),ae (by rw[k5];simp),ag k6];exact hx
       go_in
       go_wp2_with(fail)
       try rw[Cq.out]
       try rw[HX.out]
       go_wp2_with(fail);refine V.mono ?_;rintro e w6 ⟨⟨ev,rfl⟩,Y⟩;have Q:Hid _:=U.out _ Y;clear V Y U
       go_wp2
       first|go_end0|refine iC rfl rfl ?_
       exact⟨rfl,Q.out⟩
      case false=>
       have Q:Hid (iy w W0 y G n.n):=by
        show iy _ _ _ _ _;rw[HG.out,ae (by rw[k1];simp),ae (by rw[k2];simp),ae (by rw[k3];simp),ae (by rw[k4];simp),ae (by rw[k5];simp),ae (by rw[k6];simp)];exact u
       clear q1 q2 H j A q6 u
       go_in
       go_wp2_with(fail)
       try rw[Cq.out]
       try rw[HX.out]
       go_wp2
       first|go_end0|refine iC rfl rfl ?_
       exact⟨rfl,Q.out⟩
theorem W8(c:UInt8)(s:LS):(pB c s).st=s.st:=by
 unfold pB
 repeat' split
 all_goals rfl
theorem N2:∀(L:List UInt8) (s:LS),(qb L s).st=s.st
 |[],_=>rfl
 |c::r,s=>by
  show(qb r (pB c s)).st=s.st;rw[N2 r,W8]
theorem W9(s:LS)(nx:Int):(s.next nx).st=nx:=by
 unfold LS.next;split<;>rfl
theorem vT(s:LS)(ev:Int):(nD s ev).st=(ja s.st ev).2.1:=by
 unfold nD;rw[N2,W9]
def tO(s:Int):Bool:=s==3||(decide (5<=s)&&decide (s<=9))
theorem Cu {s:Int} (h:tO s=true):∃k:Nat,s=k/\k<10:=by
 refine⟨s.toNat,?_⟩;simp only[tO,Bool.or_eq_true,beq_iff_eq,Bool.and_eq_true,decide_eq_true_eq]at h;omega
theorem aa0:((fR 12).all λe=>(fR 10).all λs=> !(decide (4<=e)&&tO (s:Int)&& ((kV s e).2.2==0))||tO (kV s e).2.1)=true:=by decide+kernel
theorem Xa {e s:Nat} (Y:e<12)(X:4<=e)(hs:s<10)(U:tO (s:Int)=true)(V:(kV s e).2.2=0):tO (kV s e).2.1=true:=by
 have Z:=aX.1 (aX.1 aa0 e (aS.2 Y)) s (aS.2 hs);have b4:decide (4<=e)=true:=by simpa using X
 have b7:((kV s e).2.2==0)=true:=by simpa using V
 rw[b4,U,b7]at Z;simpa using Z
theorem D5(e:Nat)(Y:e<12)(V:4<=e)(a:kG)(h:tO s.st=true):tO (r7 s e a).1.st=true:=by
 obtain⟨k,U,X⟩:=Cu h;by_cases Z:(ja s.st e).2.2=0
 ·rw[sP a Z];show tO (nD s e).st=true;rw[vT];rw[U]at h Z⊢;rw[mQ k e X Y]at Z⊢;exact Xa Y V X h Z
 ·rw[vz a Z];exact h
theorem Xb(s:LS)(code:Int)(os:List jG):(s.tell code os).st=s.st:=by
 unfold LS.tell;split<;>rfl
theorem Um(s:LS)(os:List jG):(s.sized os).st=s.st:=by
 unfold LS.sized;split<;>rfl
theorem Xc(p:kG)(h:tO s.st=true):tO (jA s p).1.st=true:=by
 unfold jA;split
 ·exact h
 ·split
  ·unfold tH;split
   ·split
    ·rw[Um];exact D5 6 dX dX _ h
    ·exact D5 6 dX dX _ h
   ·exact D5 7 dX dX _ h
  ·split
   ·exact D5 10 dX dX _ h
   ·split
    ·exact D5 11 dX dX _ h
    ·unfold sQ;split
     ·exact h
     ·split
      ·split
       ·exact h
       ·exact D5 8 dX dX _ h
      ·exact D5 9 dX dX _ (by rw[Xb];exact h)
theorem Km:((fR 10).all λs=> !(tO (s:Int)&&decide (4<=s)&&decide (s<=8))||(tO (kV s 4).2.1&&tO (kV s 5).2.1))=true:=by decide+kernel
theorem Un(h:tO s.st=true):tO (j6 s).st=true:=by
 obtain⟨k,Y,X⟩:=Cu h;unfold j6;split
 ·exact h
 ·rename_i U
  have V:4<=k/\k<=8:=by
   rw[Y]at U;simp at U;omega
  have Z:=aX.1 Km k (aS.2 X);rw[<-Y,h]at Z;simp[V.1,V.2]at Z;split
  ·exact h
  ·split
   ·rw[vT];show tO (ja s.st 4).2.1=true;rw[Y,show(4:Int)=((4:Nat):Int)from rfl,mQ k 4 X dX];exact Z.1
   ·rw[vT];show tO (ja s.st 5).2.1=true;rw[Y,show(5:Int)=((5:Nat):Int)from rfl,mQ k 5 X dX];exact Z.2
theorem Kn:((fR 10).all λs=> !(tO (s:Int))||((kV s 1).2.2==0&& (kV s 1).2.1==1))=true:=by decide+kernel
theorem sG(h:tO s.st=true):(kL s 1).2.2=0/\(kL s 1).1.st=1:=by
 obtain⟨k,Y,X⟩:=Cu h;have Z:=aX.1 Kn k (aS.2 X);rw[<-Y,h]at Z;simp at Z;have V:(ja s.st 1).2.2=0:=by
  rw[Y,show(1:Int)=((1:Nat):Int)from rfl,mQ k 1 X dX];exact Z.1
 have e:kL s 1=(nD s 1,pg s 1 (0,0,[]),0):=by
  unfold kL;rw[ag gO,sP _ V]
 rw[e];refine⟨rfl,?_⟩;show(nD s 1).st=1;rw[vT,Y,show(1:Int)=((1:Nat):Int)from rfl,mQ k 1 X dX];exact Z.2
theorem Dj(h:s.st=1):(kL s 0).2.2=0/\tO (kL s 0).1.st=true:=by
 have Z:(ja s.st 0).2.2=0:=by rw[h];decide+kernel
 have e:kL s 0=(nD s 0,pg s 0 (0,0,[]),0):=by
  unfold kL;rw[ag gO,sP _ Z]
 rw[e];refine⟨rfl,?_⟩;show tO (nD s 0).st=true;rw[vT,h];decide+kernel
theorem Uo(h:tO s.st=true):tO (iW s).1.st=true:=by
 have Z:=Un h;unfold iW;split
 ·exact(Dj (sG Z).2).2
 ·exact Z
theorem Qo(h:s.st=1):(iW s).1=s:=by
 have Z:j6 s=s:=by unfold j6;simp[h]
 unfold iW;rw[Z];simp[h]
structure oK(up:Bool)(p:jl):Prop where
 st:if up=true then tO p.L.st=true else p.L.st=1
 gate:p.pe.who≠0->p.L.st=9
theorem oK.congr {up:Bool} (h:oK up p)(Z:q.L=p.L)(Y:q.pe=p.pe):oK up q:=⟨by rw[Z];exact h.st,by rw[Z,Y];exact h.gate⟩
theorem vU(p:jl)(c:UInt8)(s:List UInt8):(p.put c s).L=p.L:=by
 unfold jl.put
 repeat' split
 all_goals rfl
theorem D6:∀(l:List kG) (p:jl),(p.say l).L=p.L
 |[],_=>rfl
 |q::r,p=>by
  show((if jJ q.1 q.2.1 q.2.2=0 then p.put 76 (lR q.1 q.2.1 q.2.2)else p).say r).L=_;rw[D6 r];split
  ·exact vU _ _ _
  ·rfl
theorem vV:∀(l:List (Int×PS)) (p:jl),(p.kh l).L=p.L/\(p.kh l).pe=p.pe
 |[],_=>⟨rfl,rfl⟩
 |q::r,p=>by
  obtain⟨Y,Z⟩:=vV r (p.put 83 (qC q.1 q.2.1 q.2.2));exact⟨Y.trans (vU _ _ _),Z.trans (qT _ _ _)⟩
def j4(r r':iE)(p:Nat):Prop:=(r'.P p).L=(r.P p).L/\(r'.P p).pe=(r.P p).pe
theorem j4.refl(r:iE)(p:Nat):j4 r r p:=⟨rfl,rfl⟩
theorem j4.trans {a b c:iE} {p:Nat} (h:j4 a b p)(g:j4 b c p):j4 a c p:=⟨g.1.trans h.1,g.2.trans h.2⟩
theorem j4.wV(h:r'.P=r.P)(p:Nat):j4 r r' p:=by unfold j4;rw[h];exact⟨rfl,rfl⟩
theorem j4.iK(r:iE)(i:Nat)(q:jl)(Y:q.L=(r.P i).L)(Z:q.pe=(r.P i).pe)(p:Nat):j4 r (r.iK i q) p:=by
 show(kR r.P i q p).L=_/\(kR r.P i q p).pe=_;by_cases e:p=i
 ·subst e;rw[jk];exact⟨Y,Z⟩
 ·rw[jh _ _ e];exact⟨rfl,rfl⟩
theorem j4.ya(r:iE)(q:jl) {p:Nat} (h:p≠i):j4 r (r.iK i q) p:=by
 show(kR r.P i q p).L=_/\(kR r.P i q p).pe=_;rw[jh _ _ h];exact⟨rfl,rfl⟩
theorem j4.ql(r:iE)(q:kN) {p:Nat} (h:p≠i):j4 r (r.meet i q) p:=by
 unfold j4;rw[(mC r i q).2.2.2,jh _ _ h];exact⟨rfl,rfl⟩
theorem zg(r:iE)(i:Nat)(q:kN):((r.meet i q).P i).L=(r.P i).L/\((r.meet i q).P i).pe=q:=by
 rw[(mC r i q).2.2.2,jk];exact⟨rfl,rfl⟩
theorem j4.send(r:iE)(t:yn)(p:Nat):j4 r (r.send t) p:=by
 unfold iE.send;split
 ·exact j4.wV rfl p
 ·split
  ·exact j4.wV rfl p
  ·exact j4.iK _ _ _ (vU _ _ _) (qT _ _ _) p
theorem j4.state(r:iE)(i:Nat)(l:List UInt8)(p:Nat):j4 r (jd r i l) p:=by
 unfold jd;simp only;split
 ·exact j4.refl r p
 ·split
  ·exact j4.wV (nW _ _).2.2.2 p
  ·split
   ·exact j4.iK _ i _ (vU _ _ _) (qT _ _ _) p
   ·exact j4.wV rfl p
theorem MJ(r:iE)(i:Nat)(c:UInt8)(s:List UInt8)(p:Nat):((lO r i c s).P p).L=(r.P p).L/\(p≠i->j4 r (lO r i c s) p):=by
 unfold lO;split
 ·split
  ·refine⟨?_,λh=>j4.ql r _ h⟩;by_cases e:p=i
   ·subst e;exact(zg r p _).1
   ·exact(j4.ql r _ e).1
  ·exact⟨rfl,λ_=>j4.refl r p⟩
 ·split
  ·exact⟨(j4.state r i s p).1,λ_=>j4.state r i s p⟩
  ·split
   ·have h:j4 r (kd r i s) p:=by
     unfold kd;simp only;split<;>exact j4.wV rfl p
    exact⟨h.1,λ_=>h⟩
   ·split
    ·have h:j4 r (qH r s) p:=by
      unfold qH;split
      ·exact j4.send _ _ p
      ·exact j4.refl r p
     exact⟨h.1,λ_=>h⟩
    ·exact⟨rfl,λ_=>j4.refl r p⟩
def MK(p:jl):Prop:=tO p.L.st=true/\(p.pe.who≠0->p.L.st=9)
theorem oK.up:oK true p↔MK p:=⟨λh=>⟨by simpa using h.st,h.gate⟩,λh=>⟨by simpa using h.1,h.2⟩⟩
theorem MK.congr(h:MK p)(Y:q.L=p.L)(Z:q.pe=p.pe):MK q:=by
 unfold MK;rw[Y,Z];exact h
theorem Qp(s:List UInt8)(h:tO p.L.st=true):tO (p.packet s).L.st=true:=by
 unfold jl.packet;simp only;split
 ·rw[D6];exact Xc _ h
 ·exact h
theorem Gh(i:Nat)(c:UInt8)(s:List UInt8)(h:MK (r.P i)):MK ((r.take i c s).P i)/\∀p,p≠i->j4 r (r.take i c s) p:=by
 have V:tO ((jS r i c s).P i).L.st=true:=by
  unfold jS;split
  ·show tO (kR r.P i _ i).L.st=true;rw[jk];exact Qp s h.1
  ·exact h.1
 have X:∀p,p≠i->j4 r (jS r i c s) p:=λp Z=>by
  unfold jS;split
  ·exact j4.ya r _ Z
  ·exact j4.refl r p
 rw[lg];split
 ·obtain⟨a,b⟩:=zg (jS r i c s) i nobody;refine⟨⟨by rw[a];exact V,λe=>absurd (by rw[b];rfl) e⟩,λp Z=>(X p Z).trans (j4.ql _ _ Z)⟩
 ·rename_i U
  have Y:((jS r i c s).P i).L.st=9:=by simpa using U
  obtain⟨a,_⟩:=MJ (jS r i c s) i c s i;exact⟨⟨by rw[a];exact V,λ_=>by rw[a];exact Y⟩,λp Z=>(X p Z).trans ((MJ _ i c s p).2 Z)⟩
theorem D7:∀(l:List (List UInt8)) {r:iE} (i:Nat),MK (r.P i)->MK ((r.takes i l).P i)/\∀p,p≠i->j4 r (r.takes i l) p
 |[],r,i,h=>⟨h,λp _=>j4.refl r p⟩
 |t::l,r,i,h=>by
  show MK (((jD r i t).takes i l).P i)/\∀p,p≠i->j4 r ((jD r i t).takes i l) p;have Y:MK ((jD r i t).P i)/\∀p,p≠i->j4 r (jD r i t) p:=by
   cases t with
   |nil=>exact⟨h,λp _=>j4.refl r p⟩
   |cons c s=>exact Gh i c s h
  obtain⟨a,b⟩:=D7 l i Y.1;exact⟨a,λp Z=>(Y.2 p Z).trans (b p Z)⟩
theorem Qq(i:Nat)(l:List UInt8)(h:MK (r.P i)):MK ((r.recv i l).P i)/\∀p,p≠i->j4 r (r.recv i l) p:=by
 unfold iE.recv;simp only;have Z:∀p,j4 r (r.iK i {r.P i with rd:=(j9 (r.P i).rd l).2.2}) p:=λp=>j4.iK r i {r.P i with rd:=(j9 (r.P i).rd l).2.2} rfl rfl p;obtain⟨a,b⟩:=D7 (j9 (r.P i).rd l).1 (r:=r.iK i {r.P i with rd:=(j9 (r.P i).rd l).2.2}) i (h.congr (Z i).1 (Z i).2);exact⟨a,λp Y=>(Z p).trans (b p Y)⟩
theorem Up(r:iE)(i p:Nat):j4 r (r.recv i []) p:=j4.iK r i _ rfl rfl p
theorem rT(p:jl):p.tick.L=(iW p.L).1:=by
 unfold jl.tick;rw[D6]
theorem Gi {up:Bool} (i:Nat)(h:oK up (r.P i)):oK up ((r.iL i).P i)/\∀p,p≠i->j4 r (r.iL i) p:=by
 have Q:((iT r i).P i).L=(iW (r.P i).L).1:=by
  show(kR r.P i (r.P i).tick i).L=_;rw[jk,rT]
 have U:if up=true then tO ((iT r i).P i).L.st=true else((iT r i).P i).L.st=1:=by
  rw[Q];have:=h.st;split
  ·rename_i X;rw[ag X]at this;exact Uo this
  ·rename_i X;rw[ae X]at this;rw[Qo this];exact this
 have V:∀p,p≠i->j4 r (iT r i) p:=λp Z=>j4.ya r _ Z;rw[kP];split
 ·obtain⟨a,b⟩:=zg (iT r i) i nobody;exact⟨⟨by rw[a];exact U,λe=>absurd (by rw[b];rfl) e⟩,λp Z=>(V p Z).trans (j4.ql _ _ Z)⟩
 ·rename_i M
  have Y:((iT r i).P i).L.st=9:=by simpa using M
  have T:∀(x:iE) (p:Nat),j4 x (lZ x i) p:=λx p=>by
   unfold lZ;simp only;refine j4.iK x i _ ?_ ?_ p
   ·split
    ·exact(vV _ _).1.trans (vU _ _ _)
    ·exact vU _ _ _
   ·split
    ·exact(vV _ _).2.trans (qT _ _ _)
    ·exact qT _ _ _
  obtain⟨a,b⟩:=zg (iT r i) i (iA ((iT r i).P i).pe);obtain⟨c,d⟩:=T ((iT r i).meet i (iA ((iT r i).P i).pe)) i;exact⟨⟨by rw[c,a];exact U,λ_=>by rw[c,a];exact Y⟩,λp Z=>(V p Z).trans ((j4.ql _ _ Z).trans (T _ p))⟩
theorem D8 {r:iE} {U:Nat->Bool}:∀q,(∀p,p<q->oK (U p) (r.P p))->(∀p,p<q->oK (U p) ((r.iN q).P p))/\∀p,q<=p->j4 r (r.iN q) p
 |0,_=>⟨λp Z=>absurd Z dU,λp _=>j4.refl r p⟩
 |q+1,h=>by
  obtain⟨a,b⟩:=D8 (U:=U) q (λp Z=>h p dU);have Y:=b q (Nat.le_refl q);obtain⟨c,d⟩:=Gi (r:=r.iN q) q ((h q dU).congr Y.1 Y.2);refine⟨λp Z=> ?_,λp Z=>(b p dU).trans (d p dU)⟩;by_cases e:p=q
  ·subst e;exact c
  ·have:=d p e;exact(a p dU).congr this.1 this.2
theorem wG {up:Bool} (i:Nat)(h:oK (!up) (r.P i)):oK up ((r.iD i up).1.P i)/\(r.iD i up).2=0/\∀p,p≠i->j4 r (r.iD i up).1 p:=by
 have X:(kL (r.P i).L (if up=true then 0 else 1)).2.2=0/\(if up=true then tO (kL (r.P i).L (if up=true then 0 else 1)).1.st=true else(kL (r.P i).L (if up=true then 0 else 1)).1.st=1):=by
  cases up
  ·exact sG (oK.up.1 h).1
  ·exact Dj (by simpa using h.st)
 have e:(r.P i).iD up=(({r.P i with L:=(kL (r.P i).L (if up=true then 0 else 1)).1,rd:=([],false,false)}:jl).say (kL (r.P i).L (if up=true then 0 else 1)).2.1,0):=by
  unfold jl.iD;simp only;rw[ae (by simp[X.1])]
 unfold iE.iD;rw[e];simp only;rw[ae gO];obtain⟨x,hx⟩:=fW (({r.P i with L:=(kL (r.P i).L (if up=true then 0 else 1)).1,rd:=([],false,false)}:jl).say (kL (r.P i).L (if up=true then 0 else 1)).2.1);have Z:x.L=(kL (r.P i).L (if up=true then 0 else 1)).1:=by rw[<-hx,D6]
 rw[hx];obtain⟨a,b⟩:=zg (r.iK i x) i nobody;have c:((r.iK i x).P i)=x:=by show kR r.P i x i=x;exact jk _ _ _
 refine⟨⟨by rw[a,c,Z];exact X.2,λe=>absurd (by rw[b];rfl) e⟩,rfl,λp Y=>(j4.ya r _ Y).trans (j4.ql _ _ Y)⟩
structure GN(y:iI):Prop where
 ends:∀c d,c<y.nc->d<2->oK (y.C c).iR ((y.R ((y.C c).e d).1).P ((y.C c).e d).2)
 off:∀c d,c<y.nc->d<2->(y.C c).iR=false->(y.C c).on d=[]
structure Ends(y:iI):Prop where
 ds:∀c d c' d',c<y.nc->d<2->c'<y.nc->d'<2->(y.C c).e d=(y.C c').e d'->c=c'/\d=d'
 p3:∀c d,c<y.nc->d<2->((y.C c).e d).2<3
 rn:∀i,(y.R i).n=3 \/y.n<=i
 en:∀c d,c<y.nc->d<2->((y.C c).e d).1<y.n
theorem jT.nZ {k:Nat} (h:jT y D k):Ends y:=⟨h.ds,λc d hc hd=>(h.en c d hc hd).2,λi=>by
 by_cases e:i<y.n
 ·exact .inl (h.rn i e).1
 ·exact .inr dU,λc d hc hd=>(h.en c d hc hd).1⟩
theorem GN.alike {y':iI} (h:GN y)(Y:y'.nc=y.nc)(hC:∀c,c<y.nc->(y'.C c).e=(y.C c).e/\(y'.C c).iR=(y.C c).iR/\((y.C c).iR=false->∀d,d<2->(y'.C c).on d=[]))
 (Z:∀i p,j4 (y.R i) (y'.R i) p):GN y':=by
 refine⟨λc d hc hd=> ?_,λc d hc hd hf=> ?_⟩
 ·rw[Y]at hc;rw[(hC c hc).1,(hC c hc).2.1];exact(h.ends c d hc hd).congr (Z _ _).1 (Z _ _).2
 ·rw[Y]at hc;rw[(hC c hc).2.1]at hf;exact(hC c hc).2.2 hf d hd
theorem Gj(h:GN y)(c d:Nat)(hc:c<y.nc):GN (y.kD c d):=by
 obtain⟨s1,X,s3,s4,Y⟩:=mD y c d;refine h.alike X (λx hx=>⟨(Y x).1,(Y x).2,λhf e Z=> ?_⟩) (λi p=> ?_)
 ·show(if x=c then(y.C c).put d _ else y.C x).on e=[]
  by_cases ex:x=c
  ·rw[ag ex];subst ex;unfold pT.put;rw[ae (by simp[hf])];exact h.off x e hx Z hf
  ·rw[ae ex];exact h.off x e hx Z hf
 ·unfold j4;rw[Ai];split<;>exact⟨rfl,rfl⟩
theorem Gk {y:iI} (h:GN y):∀k,k<=y.nc->GN (y.jQ k)
 |0,_=>h
 |k+1,hk=>by
  have Y:=Gk h k dU;have Z:(y.jQ k).nc=y.nc:=(jU y k).2.1;exact Gj (Gj Y k 0 (by rw[Z];omega)) k 1 (by show k<(y.jQ k).nc;rw[Z];omega)
theorem GN.gather {y:iI} (h:GN y):GN y.gather:=by
 unfold iI.gather;have Y:=Gk h y.nc (Nat.le_refl _);obtain⟨e1,X,e3,Z⟩:=nE (y.jQ y.nc) y.n;refine Y.alike X (λc hc=>⟨by rw[Z],by rw[Z],λhf d hd=>by rw[Z];exact Y.off c d hc hd hf⟩) (λi p=> ?_);rw[(vR (y.jQ y.nc) i y.n).1];split<;>exact⟨rfl,rfl⟩
theorem GN.jq {y:iI} (h:GN y)(i:Nat)(r:iE)(Z:∀c d,c<y.nc->d<2->((y.C c).e d).1=i->oK (y.C c).iR ((y.R i).P ((y.C c).e d).2)->oK (y.C c).iR (r.P ((y.C c).e d).2)):GN (y.jq i r):=by
 refine⟨λc d hc hd=> ?_,h.off⟩;show oK (y.C c).iR ((jK y.R i r ((y.C c).e d).1).P ((y.C c).e d).2);by_cases e:((y.C c).e d).1=i
 ·rw[e,iu];exact Z c d hc hd e (by have:=h.ends c d hc hd;rw[e]at this;exact this)
 ·rw[iq _ _ e];exact h.ends c d hc hd
theorem GN.iT(h:GN y)(X:Ends y)(j:∀i p,i<y.n->p<3->(∀c d,c<y.nc->d<2->(y.C c).e d≠(i,p))->Idle ((y.R i).P p))(i:Nat)(hi:i<y.n):GN (y.jq i (y.R i).tick):=by
 classical
 have xh:(y.R i).n=3:=(X.rn i).resolve_right dU;obtain⟨U,H⟩:∃U:Nat->Bool,∀c d,c<y.nc->d<2->((y.C c).e d).1=i->U ((y.C c).e d).2=(y.C c).iR:=by
  refine⟨λp=>if h:∃c d,c<y.nc/\d<2/\(y.C c).e d=(i,p)then(y.C h.choose).iR else false,λc d hc hd Z=> ?_⟩;have hex:∃c' d',c'<y.nc/\d'<2/\(y.C c').e d'=(i,((y.C c).e d).2):=⟨c,d,hc,hd,by rw[<-Z]⟩
  show(if h:∃c' d',c'<y.nc/\d'<2/\(y.C c').e d'=(i,((y.C c).e d).2)then(y.C h.choose).iR else false)=_;rw[dif_pos hex];obtain⟨d',jN,j3,u⟩:=hex.choose_spec;have:=(X.ds _ _ _ _ jN j3 hc hd (u.trans (by rw[<-Z]))).1;rw[this]
 have hP:∀p,p<3->oK (U p) ((y.R i).P p) \/ ∀c d,c<y.nc->d<2->(y.C c).e d≠(i,p):=λp _=>by
  by_cases hex:∃c d,c<y.nc/\d<2/\(y.C c).e d=(i,p)
  ·obtain⟨c,d,hc,hd,Z⟩:=hex;refine .inl ?_;have Y:=h.ends c d hc hd;have M:=H c d hc hd (by rw[Z]);rw[Z]at Y M;rw[M];exact Y
  ·exact .inr λc d hc hd Z=>hex ⟨c,d,hc,hd,Z⟩
 obtain⟨V,G⟩:∃V:Nat->Bool,V=λp=>if h:∃c d,c<y.nc/\d<2/\(y.C c).e d=(i,p)then U p else false:=⟨_,rfl⟩
 have Q:∀p,p<3->oK (V p) ((y.R i).P p):=λp J=>by
  rw[G];show oK (if h:∃c d,c<y.nc/\d<2/\(y.C c).e d=(i,p)then U p else false) _;by_cases hex:∃c d,c<y.nc/\d<2/\(y.C c).e d=(i,p)
  ·rw[dif_pos hex];refine(hP p J).resolve_right (λhn=> ?_);obtain⟨c,d,hc,hd,Z⟩:=hex;exact hn c d hc hd Z
  ·rw[dif_neg hex];have A:=j i p hi J (λc d hc hd Z=>hex ⟨c,d,hc,hd,Z⟩);exact⟨by simpa using A.st,λe=>absurd (by rw[A.pe];rfl) e⟩
 have ht:=(D8 (r:=y.R i) (U:=V) 3 Q).1;refine h.jq i _ (λc d hc hd Z _=> ?_);have T:=X.p3 c d hc hd;have Y:=ht ((y.C c).e d).2 T;have hex:∃c' d',c'<y.nc/\d'<2/\(y.C c').e d'=(i,((y.C c).e d).2):=⟨c,d,hc,hd,by rw[<-Z]⟩
 have hv:V ((y.C c).e d).2=(y.C c).iR:=by
  rw[G];show(if h:∃c' d',c'<y.nc/\d'<2/\(y.C c').e d'=(i,((y.C c).e d).2)then U ((y.C c).e d).2 else false)=_;rw[dif_pos hex];exact H c d hc hd Z
 rw[hv]at Y;show oK _ (((y.R i).iN (y.R i).n).P _);rw[xh];exact Y
theorem GN.jg {y:iI} (h:GN y)(M:Ends y)(c d k:Nat)(hc:c<y.nc)(hd:d<2):GN (y.jg c d k):=by
 have H:GN (y.kX c {y.C c with on:=jK (y.C c).on d (((y.C c).on d).drop k)}):=by
  refine h.alike rfl (λx hx=> ?_) (λi p=>j4.refl _ _);show(if x=c then _ else y.C x).e=_/\(if x=c then _ else y.C x).iR=_/\(_->∀d',d'<2->(if x=c then _ else y.C x).on d'=[])
  by_cases e:x=c
  ·rw[ag e];subst e;refine⟨rfl,rfl,λhf d' Z=> ?_⟩;show jK (y.C x).on d _ d'=[]
   by_cases Q:d'=d
   ·subst Q;rw[iu,h.off x d' hx Z hf];simp
   ·rw[iq _ _ Q];exact h.off x d' hx Z hf
  ·rw[ae e];exact⟨rfl,rfl,λhf d' Z=>h.off x d' hx Z hf⟩
 have U:∀x,((y.kX c {y.C c with on:=jK (y.C c).on d (((y.C c).on d).drop k)}).C x).e=(y.C x).e/\((y.kX c {y.C c with on:=jK (y.C c).on d (((y.C c).on d).drop k)}).C x).iR=(y.C x).iR:=λx=>by
  show(if x=c then _ else y.C x).e=_/\(if x=c then _ else y.C x).iR=_;by_cases e:x=c
  ·rw[ag e];subst e;exact⟨rfl,rfl⟩
  ·rw[ae e];exact⟨rfl,rfl⟩
 refine H.jq _ _ (λx d' hx Z V Y=> ?_);rw[(U x).1]at V Y⊢;rw[(U x).2]at Y⊢;have J:x<y.nc:=hx;have T:oK (y.C x).iR ((y.R ((y.C c).e (1-d)).1).P ((y.C x).e d').2):=Y;by_cases X:(y.C c).iR=true
 ·have G:MK ((y.R ((y.C c).e (1-d)).1).P ((y.C c).e (1-d)).2):=by
   have:=h.ends c (1-d) hc dU;rw[X]at this;exact oK.up.1 this
  obtain⟨a,b⟩:=Qq ((y.C c).e (1-d)).2 (((y.C c).on d).take k) G;by_cases e:((y.C x).e d').2=((y.C c).e (1-d)).2
  ·have:=(M.ds x d' c (1-d) J Z hc dU (by rw[cG];exact⟨V,e⟩)).1;rw[e,this,X];exact oK.up.2 a
  ·exact T.congr (b _ e).1 (b _ e).2
 ·have hf:(y.C c).iR=false:=by simpa using X
  rw[h.off c d hc hd hf];have:=Up (y.R ((y.C c).e (1-d)).1) ((y.C c).e (1-d)).2 ((y.C x).e d').2;rw[List.take_nil];exact T.congr this.1 this.2
theorem GN.jP {y:iI} (h:GN y)(hE:Ends y)(c:Nat)(up:Bool)(hc:c<y.nc)(hu:(y.C c).iR= !up):GN (y.jP c up):=by
 obtain⟨Z,J⟩:=fW ((y.C c).e 0);obtain⟨Y,M⟩:=fW ((y.C c).e 1);have jm:Z≠Y:=λe=>by
  have:=(hE.ds c 0 c 1 hc dU hc dU (by rw[J,M,e])).2;omega
 have h0:=h.ends c 0 hc dU;have h1:=h.ends c 1 hc dU;rw[J,hu]at h0;rw[M,hu]at h1;obtain⟨A,_,b0⟩:=wG Z.2 h0;obtain⟨X,H⟩:∃X:pT,X={y.C c with iR:=up,on:=λ_=>[] }:=⟨_,rfl⟩
 have T:X.e=(y.C c).e:=by rw[H]
 have cbi:X.iR=up:=by rw[H]
 have u:∀d,X.on d=[] :=λd=>by rw[H]
 have hf:∀(z:iI) (d:Nat) (e:Nat×Nat),(z.C c).e d=e->z.mB c d up=z.jq e.1 ((z.R e.1).iD e.2 up).1:=by
  intro z d e he;unfold iI.mB;rw[he]
 have Q:(y.kX c X).C c=X:=iu _ _ _;have hp:y.jP c up=((y.kX c X).jq Z.1 ((y.R Z.1).iD Z.2 up).1).jq Y.1 ((jK y.R Z.1 ((y.R Z.1).iD Z.2 up).1 Y.1).iD Y.2 up).1:=by
  unfold iI.jP;rw[<-H,hf (y.kX c X) 0 Z (by rw[Q,T,J]),hf _ 1 Y (by show((y.kX c X).C c).e 1=Y;rw[Q,T,M])];rfl
 obtain⟨r1,kQ⟩:=fW (jK y.R Z.1 ((y.R Z.1).iD Z.2 up).1 Y.1);have U:∀p,(Y.1,p)≠Z->j4 (y.R Y.1) r1 p:=λp oE=>by
  rw[<-kQ];by_cases e:Y.1=Z.1
  ·rw[e,iu];exact b0 p (λV=>oE (by rw[cG];exact⟨e,V⟩))
  ·rw[iq _ _ e];exact j4.refl _ _
 have G:oK (!up) (r1.P Y.2):=h1.congr (U Y.2 (λe=>jm e.symm)).1 (U Y.2 (λe=>jm e.symm)).2;obtain⟨a1,_,b1⟩:=wG Y.2 G;rw[hp,kQ];have j:∀i p,oK up ((jK (jK y.R Z.1 ((y.R Z.1).iD Z.2 up).1) Y.1 (r1.iD Y.2 up).1 i).P p) \/((i,p)≠Z/\(i,p)≠Y):=λi p=>by
  by_cases x1:(i,p)=Y
  ·left;rw[<-x1]at a1⊢;rw[iu];exact a1
  ·by_cases x0:(i,p)=Z
   ·left;by_cases e:i=Y.1
    ·rw[e,iu];have Yj:p≠Y.2:=λV=>x1 (by rw[cG];exact⟨e,V⟩);have hr:r1.P p=((y.R Z.1).iD Z.2 up).1.P Z.2:=by
      rw[<-kQ,<-e,<-x0,iu]
     exact(A.congr (by rw[hr]) (by rw[hr]):oK up (r1.P p)).congr (b1 p Yj).1 (b1 p Yj).2
    ·rw[iq _ _ e,<-x0,iu];rw[<-x0]at A;exact A
   ·exact .inr ⟨x0,x1⟩
 have kf:∀i p,(i,p)≠Z->(i,p)≠Y->j4 (y.R i) (jK (jK y.R Z.1 ((y.R Z.1).iD Z.2 up).1) Y.1 (r1.iD Y.2 up).1 i) p:=λi p x0 x1=>by
  by_cases e:i=Y.1
  ·subst e;rw[iu];exact(U p x0).trans (b1 p (λV=>x1 (by rw[cG];exact⟨rfl,V⟩)))
  ·rw[iq _ _ e];by_cases e':i=Z.1
   ·subst e';rw[iu];exact b0 p (λV=>x0 (by rw[cG];exact⟨rfl,V⟩))
   ·rw[iq _ _ e'];exact j4.refl _ _
 refine⟨λx d hx hd=> ?_,λx d hx hd hf=> ?_⟩
 ·show oK ((if x=c then X else y.C x):pT).iR ((jK (jK y.R Z.1 ((y.R Z.1).iD Z.2 up).1) Y.1 (r1.iD Y.2 up).1 (((if x=c then X else y.C x):pT).e d).1).P (((if x=c then X else y.C x):pT).e d).2);have uQ:x<y.nc:=hx;by_cases e:x=c
  ·rw[ag e,T,cbi];refine(j _ _).resolve_right (λhn=> ?_);have:d=0 \/d=1:=dU;rcases this with rfl|rfl
   ·exact hn.1 J
   ·exact hn.2 M
  ·rw[ae e];have n0:(y.C x).e d≠Z:=λV=>e (hE.ds x d c 0 uQ hd hc dU (by rw[J];exact V)).1;have n1:(y.C x).e d≠Y:=λV=>e (hE.ds x d c 1 uQ hd hc dU (by rw[M];exact V)).1;have:=kf ((y.C x).e d).1 ((y.C x).e d).2 n0 n1;exact(h.ends x d uQ hd).congr this.1 this.2
 ·have Xd:((if x=c then X else y.C x):pT).iR=false:=hf;show((if x=c then X else y.C x):pT).on d=[]
  by_cases e:x=c
  ·rw[ag e];exact u d
  ·rw[ae e]at Xd⊢;exact h.off x d hx hd Xd
theorem Ends.jP {y:iI} (h:Ends y)(c:Nat)(up:Bool):Ends (y.jP c up):=by
 obtain⟨g1,X,g3,g4,Y⟩:=oS y c up;refine⟨λa d a' d' Z hd ha' Q e=> ?_,λa d Z hd=> ?_,λi=> ?_,λa d Z hd=> ?_⟩
 ·rw[(Y a).1,(Y a').1]at e;rw[X]at Z ha';exact h.ds a d a' d' Z hd ha' Q e
 ·rw[(Y a).1];rw[X]at Z;exact h.p3 a d Z hd
 ·have U:∀(x:iI) (d:Nat),(∀i,(x.R i).n=3 \/x.n<=i)->∀i,((x.mB c d up).R i).n=3 \/(x.mB c d up).n<=i:=λx d hx i=>by
   show(jK x.R ((x.C c).e d).1 _ i).n=3 \/x.n<=i;by_cases e:i=((x.C c).e d).1
   ·rw[e,iu,(jx.iD _ _ up).n];exact hx _
   ·rw[iq _ _ e];exact hx i
  unfold iI.jP;obtain⟨V,T⟩:∃V:pT,V={y.C c with iR:=up,on:=λ_=>[] }:=⟨_,rfl⟩
  rw[<-T];exact U _ 1 (U (y.kX c V) 0 h.rn) i
 ·rw[(Y a).1,g1];rw[X]at Z;exact h.en a d Z hd
theorem GN.jB(up:Bool):∀(l:List Nat) {y:iI},GN y->Ends y->l.Nodup->(∀c∈l,c<y.nc/\(y.C c).iR= !up)->GN (y.jB up l)/\Ends (y.jB up l)/\∀x,((y.jB up l).C x).iR=if x∈l then up else(y.C x).iR
 |[],y,h,hE,_,_=>⟨h,hE,λx=>by simp[iI.jB]⟩
 |c::l,y,h,hE,wH,hl=>by
  obtain⟨g1,T,g3,g4,X⟩:=oS y c up;have hc:=hl c gO;have V:=bP.1 wH;obtain⟨a,b,d⟩:=GN.jB up l (h.jP hE c up hc.1 hc.2) (hE.jP c up) V.2 (λx hx=>by
   have U:x≠c:=λe=>V.1 (e▸hx);rw[T,(X x).2,ae U];exact hl x (by simp[hx]))
  refine⟨a,b,λx=> ?_⟩;show(((y.jP c up).jB up l).C x).iR=_;rw[d x,(X x).2];by_cases Z:x∈l
  ·rw[ag Z,ag (by simp[Z])]
  ·by_cases Y:x=c
   ·rw[ae Z,ag Y,ag (by simp[Y])]
   ·rw[ae Z,ae Y,ae (by simp[Z,Y])]
theorem GN.restart {y:iI} {D:Nat} (h:GN y)(A:jT y D 0)(i:Int):GN (y.restart i).1/\∀x,x<y.nc->((y.restart i).1.C x).iR=(y.C x).iR:=by
 unfold iI.restart;split
 ·exact⟨h,λ_ _=>rfl⟩
 ·rename_i hi
  obtain⟨k,hk⟩:=fW ((i-1).toNat);rw[hk];obtain⟨l,hl⟩:=fW (y.k7 k);rw[hl];have X:∀c,c∈l↔c<y.nc/\(y.C c).iR=true/\(((y.C c).e 0).1=k \/((y.C c).e 1).1=k):=λc=>by
   rw[<-hl];unfold iI.k7;simp[gS]
  have M:l.Nodup:=by
   rw[<-hl];exact dh cX bQ
  obtain⟨a,b,d⟩:=GN.jB false l h A.nZ M (λc hc=>⟨((X c).1 hc).1,((X c).1 hc).2.1⟩);obtain⟨s1,V,H,G,Q⟩:=mI false l y;obtain⟨Z,Ba⟩:=fW (y.jB false l);rw[Ba]at a b d s1 V H G Q⊢;have a2:GN (Z.jq k (jE i 3 (y.ms k))):=by
   refine a.jq k _ (λc e hc he heq _=> ?_);have u:c<y.nc:=by rw[V]at hc;exact hc
   have hf:(Z.C c).iR=false:=by
    rw[d c];by_cases Y:c∈l
    ·rw[ag Y]
    ·rw[ae Y];by_cases T:(y.C c).iR=true
     ·exfalso;rw[Q c]at heq;refine Y ((X c).2 ⟨u,T,?_⟩);have:e=0 \/e=1:=dU;rcases this with rfl|rfl
      ·exact .inl heq
      ·exact .inr heq
     ·simpa using T
   rw[hf];have U:=qg i (y.ms k) ((Z.C c).e e).2;exact⟨by simpa using U.st,λe=>absurd (by rw[U.pe];rfl) e⟩
  have b2:Ends (Z.jq k (jE i 3 (y.ms k))):=⟨b.ds,b.p3,λj=>by
   show(jK Z.R k _ j).n=3 \/Z.n<=j;by_cases e:j=k
   ·rw[e,iu];exact .inl rfl
   ·rw[iq _ _ e];exact b.rn j,b.en⟩
  obtain⟨J,_,d3⟩:=GN.jB true l a2 b2 M (λc hc=>⟨by show c<Z.nc;rw[V];exact((X c).1 hc).1,by show(Z.C c).iR=_;rw[d c,ag hc];rfl⟩);refine⟨J.gather,λx hx=> ?_⟩;rw[((ln _).2.2.2 x).2,d3 x];show(if x∈l then true else(Z.C x).iR)=_;rw[d x];by_cases Y:x∈l
  ·rw[ag Y,((X x).1 Y).2.1]
  ·rw[ae Y,ae Y]
theorem GN.iD {y:iI} {D:Nat} (h:GN y)(Y:jT y D 0)(i:Int)(up:Bool):GN (y.iD i up).1/\∀x,((y.iD i up).1.C x).iR=if(x:Int)=i/\x<y.nc then up else(y.C x).iR:=by
 unfold iI.iD;split
 ·rename_i hi
  exact⟨h,λx=>by rw[ae dU]⟩
 ·rename_i hi
  split
  ·rename_i Z
   refine⟨h,λx=> ?_⟩;split
   ·rename_i hx
    have:x=i.toNat:=dU;rw[this,Z]
   ·rfl
  ·rename_i Z
   refine⟨(h.jP Y.nZ i.toNat up dU (by cases hv:(y.C i.toNat).iR<;>cases up<;>simp_all)).gather,λx=> ?_⟩;rw[((ln _).2.2.2 x).2,((oS y i.toNat up).2.2.2.2 x).2];by_cases e:x=i.toNat
   ·rw[ag e,ag dU]
   ·rw[ae e,ae dU]
theorem GN.tick {y:iI} {D:Nat} (h:GN y)(Z:jT y D 0)(i:Int):GN (y.tick i).1/\∀x,((y.tick i).1.C x).iR=(y.C x).iR:=by
 unfold iI.tick;split
 ·exact⟨h,λ_=>rfl⟩
 ·exact⟨(h.iT Z.nZ Z.idle (i-1).toNat dU).gather,λx=>((ln _).2.2.2 x).2⟩
theorem D9(y:iI)(c d k x:Nat):((y.jg c d k).C x).iR=(y.C x).iR:=by
 show((if x=c then _ else y.C x):pT).iR=_;by_cases e:x=c
 ·rw[ag e];subst e;rfl
 ·rw[ae e]
theorem GN.deliver {y:iI} {D:Nat} (h:GN y)(Z:jT y D 0)(i d m:Int):GN (y.deliver i d m).1/\∀x,((y.deliver i d m).1.C x).iR=(y.C x).iR:=by
 unfold iI.deliver;split
 ·exact⟨h,λ_=>rfl⟩
 ·exact⟨(h.jg Z.nZ _ _ _ dU dU).gather,λx=>by rw[((ln _).2.2.2 x).2,D9]⟩
theorem GN.send {y:iI} (h:GN y)(f t:Int)(tx:List UInt8):GN (y.send f t tx).1/\∀x,((y.send f t tx).1.C x).iR=(y.C x).iR:=by
 unfold iI.send;split
 ·exact⟨h,λ_=>rfl⟩
 ·split
  ·exact⟨h,λ_=>rfl⟩
  ·refine⟨GN.gather (h.jq _ _ (λc d hc hd he Z=> ?_)),λx=>((ln _).2.2.2 x).2⟩;have:∀(r:iE) (p:Nat),j4 r (j2 r t tx).1 p:=λr p=>by
    unfold j2;split
    ·exact j4.refl r p
    ·exact j4.send r (t,8,tx) p
   exact Z.congr (this _ _).1 (this _ _).2
theorem GN.iN {y:iI} {D:Nat} (h:GN y)(Y:jT y D 0)(Z:D<=800000000):∀q,q<=6->GN (y.iN q)
 |0,_=>h
 |q+1,hq=>((GN.iN h Y Z q dU).tick (Y.iN Z q dU) ((q:Int)+1)).1
theorem GN.jF {y:iI} {D:Nat} (h:GN y)(X:jT y D 0)(Z:D<=890000000):∀q,q<=9->GN (y.jF q)
 |0,_=>h
 |q+1,hq=>by
  have Y:=X.jF Z q dU;have V:=GN.jF h X Z q dU;exact((V.deliver Y (q:Int) 0 2000).1.deliver (Y.deliver dU (q:Int) 0 2000) (q:Int) 1 2000).1
theorem GN.turns {y:iI} {D:Nat} (h:GN y)(Z:jT y D 0)(Y:D<=810000000):∀t,t<=12->GN (y.turns t)
 |0,_=>h
 |t+1,ht=>(GN.turns h Z Y t dU).jF (Z.turns Y t dU) dU y.nc Z.c9
theorem GN.round {y:iI} {D:Nat} (h:GN y)(Z:jT y D 0)(Y:D<=800000000):GN y.round:=
 (h.iN Z Y y.n Z.n6).turns (Z.iN Y y.n Z.n6) (by have:=Z.n6;omega) 12 (Nat.le_refl _)
def Ar(v:AV):Bool:=v.kind.toList==[112,108,117,103]
theorem GN.act(h:GN y)(Z:jT y D 0)(U:D<=800000000)(v:AV):GN (sg y v)/\∀x,x<y.nc->((sg y v).C x).iR=if Ar v=true/\(x:Int)=v.a then v.b==1 else(y.C x).iR:=by
 unfold sg;by_cases k1:(v.kind.toList==[112,108,117,103])=true
 ·rw[ag k1];obtain⟨a,b⟩:=h.iD Z v.a (v.b==1);refine⟨a,λx hx=> ?_⟩;rw[b x];have Y:Ar v=true:=k1;by_cases e:(x:Int)=v.a
  ·rw[ag ⟨e,hx⟩,ag ⟨Y,e⟩]
  ·rw[ae (λh=>e h.1),ae (λh=>e h.2)]
 ·rw[ae k1];have Y:∀x:Nat,¬(Ar v=true/\(x:Int)=v.a):=λx e=>k1 e.1;have V:∀z:iI,(GN z/\∀x,x<y.nc->(z.C x).iR=(y.C x).iR)->GN z/\∀x,x<y.nc->(z.C x).iR=if Ar v=true/\(x:Int)=v.a then v.b==1 else(y.C x).iR:=λz X=>⟨X.1,λx hx=>by rw[ae (Y x)];exact X.2 x hx⟩
  apply V;split
  ·obtain⟨a,b⟩:=h.tick Z v.a;exact⟨a,λx _=>b x⟩
  ·split
   ·obtain⟨a,b⟩:=h.deliver Z v.a v.b v.c;exact⟨a,λx _=>b x⟩
   ·split
    ·exact h.restart Z v.a
    ·split
     ·obtain⟨a,b⟩:=h.send v.a v.b v.s.data.toList;exact⟨a,λx _=>b x⟩
     ·split
      ·exact⟨h.round Z U,λx _=>((kr y).2.2.2 x).2⟩
      ·exact⟨h,λ_ _=>rfl⟩
theorem Ea(many:Nat)(L:List oR):GN (jH many L):=by
 refine⟨λc d _ _=> ?_,λc d _ _ _=>rfl⟩;have Z:=qg (((((jH many L).C c).e d).1:Int)+1) (pH L (((jH many L).C c).e d).1) (((jH many L).C c).e d).2;have Y:((jH many L).R (((jH many L).C c).e d).1).P (((jH many L).C c).e d).2=(jE (((((jH many L).C c).e d).1:Int)+1) 3 (pH L (((jH many L).C c).e d).1)).P (((jH many L).C c).e d).2:=rfl;rw[Y];exact⟨by rw[show((jH many L).C c).iR=false from rfl,ae dX];exact Z.st,λe=>absurd (by
  show((jE _ 3 _).P _).pe.who=0;rw[Z.pe];rfl) e⟩
def xt(p:List UInt8):Prop:=1<=p.length/\p.length<=60
def Frames(l:List UInt8)(ps:List (List UInt8)):Prop:=l=ps.flatMap Plain.kF/\∀p∈ps,xt p
def k9:kc:=([],false,false)
theorem Frames.nil:Frames [] [] :=⟨rfl,λ_ h=>by simp at h⟩
theorem Frames.snoc {l:List UInt8} (h:Frames l ps) {p:List UInt8} (Y:xt p):Frames (l++Plain.kF p) (ps++ [p]):=by
 obtain⟨X,Z⟩:=h;refine⟨by rw[X];simp,λq V=> ?_⟩;rcases av.1 V with e|e
 ·exact Z q e
 ·rw[ar.1 e];exact Y
theorem py:∀(ps:List (List UInt8)),(∀p∈ps,xt p)->j9 k9 (ps.flatMap Plain.kF)=(ps,0,k9)
 |[],_=>rfl
 |p::ps,h=>by
  have e:(p::ps).flatMap Plain.kF=Plain.kF p++ps.flatMap Plain.kF:=gO;have Z:j9 k9 (Plain.kF p)=([p],0,k9):=LZ p (h p gO).2;rw[e,qG,Z];simp only;rw[py ps (λq Y=>h q (by simp[Y]))];rfl
structure mN(r r':iE):Prop where
 rd:∀p,(r'.P p).rd=(r.P p).rd
 out:∀p ps,Frames (r.P p).out ps->∃qs,Frames (r'.P p).out (ps++qs)
theorem mN.refl(r:iE):mN r r:=⟨λ_=>rfl,λ_ ps h=>⟨[],by simpa using h⟩⟩
theorem mN.trans {a b c:iE} (h:mN a b)(g:mN b c):mN a c:=by
 refine⟨λp=>(g.rd p).trans (h.rd p),λp ps Y=> ?_⟩;obtain⟨q1,X⟩:=h.out p ps Y;obtain⟨q2,Z⟩:=g.out p _ X;exact⟨q1++q2,by rw[<-aD];exact Z⟩
theorem mN.wV(h:r'.P=r.P):mN r r':=⟨λ_=>by rw[h],λ_ ps Z=>⟨[],by rw[h];simpa using Z⟩⟩
structure ry(p q:jl):Prop where
 rd:q.rd=p.rd
 out:∀ps,Frames p.out ps->∃qs,Frames q.out (ps++qs)
theorem ry.refl(p:jl):ry p p:=⟨rfl,λps h=>⟨[],by simpa using h⟩⟩
theorem ry.trans {a b c:jl} (h:ry a b)(g:ry b c):ry a c:=by
 refine⟨g.rd.trans h.rd,λps Y=> ?_⟩;obtain⟨q1,X⟩:=h.out ps Y;obtain⟨q2,Z⟩:=g.out _ X;exact⟨q1++q2,by rw[<-aD];exact Z⟩
theorem ry.put(p:jl)(c:UInt8)(s:List UInt8):ry p (p.put c s):=by
 unfold jl.put;split
 ·exact ry.refl p
 ·split
  ·rename_i h
   exact⟨rfl,λps Z=>⟨[c::s],Z.snoc ⟨gO,by simpa using h⟩⟩⟩
  ·exact ry.refl p
theorem ry.say:∀(l:List kG) (p:jl),ry p (p.say l)
 |[],p=>ry.refl p
 |q::r,p=>by
  refine ry.trans ?_ (ry.say r _);split
  ·exact ry.put _ _ _
  ·exact ry.refl p
theorem ry.kh:∀(l:List (Int×PS)) (p:jl),ry p (p.kh l)
 |[],p=>ry.refl p
 |q::r,p=>(ry.put p 83 (qC q.1 q.2.1 q.2.2)).trans (ry.kh r _)
theorem ry.aer(p:jl)(L:LS)(l:List kG):ry p (({p with L:=L}:jl).say l):=by
 have h:ry p ({p with L:=L}:jl):=⟨rfl,λps h=>⟨[],by simpa using h⟩⟩
 exact h.trans (ry.say l _)
theorem ry.tick(p:jl):ry p p.tick:=ry.aer p _ _
theorem ry.packet(p:jl)(s:List UInt8):ry p (p.packet s):=by
 unfold jl.packet;simp only;split
 ·exact ry.aer p _ _
 ·exact ry.refl p
theorem mN.iK(r:iE)(i:Nat) {q:jl} (h:ry (r.P i) q):mN r (r.iK i q):=by
 refine⟨λp=> ?_,λp ps Z=> ?_⟩
 ·show(kR r.P i q p).rd=_;by_cases e:p=i
  ·subst e;rw[jk];exact h.rd
  ·rw[jh _ _ e]
 ·show∃qs,Frames (kR r.P i q p).out (ps++qs);by_cases e:p=i
  ·subst e;rw[jk];exact h.out ps Z
  ·rw[jh _ _ e];exact⟨[],by simpa using Z⟩
theorem mN.meet(r:iE)(i:Nat)(q:kN):mN r (r.meet i q):=by
 refine⟨λp=> ?_,λp ps Z=>⟨[],?_⟩⟩
 ·rw[(mC r i q).2.2.2];by_cases e:p=i
  ·subst e;rw[jk]
  ·rw[jh _ _ e]
 ·rw[(mC r i q).2.2.2];by_cases e:p=i
  ·subst e;rw[jk];simpa using Z
  ·rw[jh _ _ e];simpa using Z
theorem mN.send(r:iE)(t:yn):mN r (r.send t):=by
 unfold iE.send;split
 ·exact mN.wV rfl
 ·split
  ·exact mN.wV rfl
  ·exact mN.iK _ _ (ry.put _ _ _)
theorem mN.state(r:iE)(i:Nat)(l:List UInt8):mN r (jd r i l):=by
 unfold jd;simp only;split
 ·exact mN.refl r
 ·split
  ·exact mN.wV (nW _ _).2.2.2
  ·split
   ·exact⟨λp=>(mN.iK _ i (ry.put _ _ _)).rd p,λp ps Z=>(mN.iK _ i (ry.put _ _ _)).out p ps Z⟩
   ·exact mN.wV rfl
theorem mN.take(r:iE)(i:Nat)(c:UInt8)(s:List UInt8):mN r (r.take i c s):=by
 rw[lg];have Z:mN r (jS r i c s):=by
  unfold jS;split
  ·exact mN.iK _ _ (ry.packet _ _)
  ·exact mN.refl r
 split
 ·exact Z.trans (mN.meet _ _ _)
 ·refine Z.trans ?_;unfold lO;split
  ·split
   ·exact mN.meet _ _ _
   ·exact mN.refl _
  ·split
   ·exact mN.state _ _ _
   ·split
    ·unfold kd;simp only;split<;>exact mN.wV rfl
    ·split
     ·unfold qH;split
      ·exact mN.send _ _
      ·exact mN.refl _
     ·exact mN.refl _
theorem mN.takes:∀(l:List (List UInt8)) (r:iE) (i:Nat),mN r (r.takes i l)
 |[],r,_=>mN.refl r
 |t::l,r,i=>by
  refine mN.trans ?_ (mN.takes l _ i);cases t with
  |nil=>exact mN.refl r
  |cons c s=>exact mN.take r i c s
theorem mN.iL(r:iE)(i:Nat):mN r (r.iL i):=by
 rw[kP];have Z:mN r (iT r i):=mN.iK _ _ (ry.tick _);split
 ·exact Z.trans (mN.meet _ _ _)
 ·refine Z.trans ((mN.meet _ i (iA ((iT r i).P i).pe)).trans ?_);unfold lZ;simp only;refine mN.iK _ i ?_;split
  ·exact(ry.put _ _ _).trans (ry.kh _ _)
  ·exact ry.put _ _ _
theorem mN.iN(r:iE):∀q,mN r (r.iN q)
 |0=>mN.refl r
 |q+1=>(mN.iN r q).trans (mN.iL _ _)
theorem mN.j2(r:iE)(t:Int)(tx:List UInt8):mN r (j2 r t tx).1:=by
 unfold Rt.j2;split
 ·exact mN.refl r
 ·exact mN.send r (t,8,tx)
theorem Gl(r:iE)(i:Nat)(l:List UInt8):((r.recv i l).P i).rd=(j9 (r.P i).rd l).2.2/\(∀p,p≠i->((r.recv i l).P p).rd=(r.P p).rd)/\∀p ps,Frames (r.P p).out ps->∃qs,Frames ((r.recv i l).P p).out (ps++qs):=by
 unfold iE.recv;simp only;have h:=mN.takes (j9 (r.P i).rd l).1 (r.iK i {r.P i with rd:=(j9 (r.P i).rd l).2.2}) i;have Y:∀p,((r.iK i {r.P i with rd:=(j9 (r.P i).rd l).2.2}).P p).out=(r.P p).out:=λp=>by
  show(kR r.P i _ p).out=_;by_cases e:p=i
  ·subst e;rw[jk]
  ·rw[jh _ _ e]
 refine⟨?_,λp Z=> ?_,λp ps hf=>h.out p ps (by rw[Y];exact hf)⟩
 ·rw[h.rd];show(kR r.P i _ i).rd=_;rw[jk]
 ·rw[h.rd];show(kR r.P i _ p).rd=_;rw[jh _ _ Z]
theorem Gm {up:Bool} (i:Nat)(h:oK (!up) (r.P i)):(((r.iD i up).1.P i).rd=k9)/\(∀p,p≠i->((r.iD i up).1.P p).rd=(r.P p).rd)/\∀p ps,Frames (r.P p).out ps->∃qs,Frames ((r.iD i up).1.P p).out (ps++qs):=by
 have U:(kL (r.P i).L (if up=true then 0 else 1)).2.2=0:=by
  cases up
  ·exact(sG (oK.up.1 h).1).1
  ·exact(Dj (by simpa using h.st)).1
 have e:(r.P i).iD up=(({r.P i with L:=(kL (r.P i).L (if up=true then 0 else 1)).1,rd:=([],false,false)}:jl).say (kL (r.P i).L (if up=true then 0 else 1)).2.1,0):=by
  unfold jl.iD;simp only;rw[ae (by simp[U])]
 unfold iE.iD;rw[e];simp only;rw[ae gO];obtain⟨x,hx⟩:=fW (({r.P i with L:=(kL (r.P i).L (if up=true then 0 else 1)).1,rd:=([],false,false)}:jl).say (kL (r.P i).L (if up=true then 0 else 1)).2.1);have Y:ry {r.P i with L:=(kL (r.P i).L (if up=true then 0 else 1)).1,rd:=([],false,false)} x:=by rw[<-hx];exact ry.say _ _
 rw[hx];have Z:=mN.meet (r.iK i x) i nobody;refine⟨?_,λp Q=> ?_,λp ps hf=> ?_⟩
 ·rw[Z.rd];show(kR r.P i x i).rd=_;rw[jk,Y.rd];rfl
 ·rw[Z.rd];show(kR r.P i x p).rd=_;rw[jh _ _ Q]
 ·by_cases X:p=i
  ·subst X;obtain⟨q1,V⟩:=Y.out ps hf;obtain⟨q2,T⟩:=Z.out p (ps++q1) (by show Frames (kR r.P p x p).out _;rw[jk];exact V);exact⟨q1++q2,by rw[<-aD];exact T⟩
  ·exact Z.out p ps (by show Frames (kR r.P i x p).out _;rw[jh _ _ X];exact hf)
def jM(y:iI)(c d:Nat):kc:=((y.R ((y.C c).e (1-d)).1).P ((y.C c).e (1-d)).2).rd
structure jo(y:iI):Prop where
 q:∀c d,c<y.nc->d<2->(j9 (jM y c d) ((y.C c).on d)).2=(0,k9)/\∀p∈(j9 (jM y c d) ((y.C c).on d)).1,xt p
 o:∀i p,∃ps,Frames ((y.R i).P p).out ps
theorem jo.kD {y:iI} (h:jo y)(c d:Nat)(_hc:c<y.nc):jo (y.kD c d):=by
 have H:∀i p,(((y.kD c d).R i).P p).rd=((y.R i).P p).rd:=λi p=>by
  rw[Ai];split<;>rfl
 have Q:∀x,((y.kD c d).C x).e=(y.C x).e:=λx=>((mD y c d).2.2.2.2 x).1;have G:∀x e,jM (y.kD c d) x e=jM y x e:=λx e=>by
  unfold jM;rw[Q,H]
 refine⟨λx e hx J=> ?_,λi p=> ?_⟩
 ·have M:x<y.nc:=hx;rw[G];have u:((y.kD c d).C x).on e=(y.C x).on e \/(x=c/\e=d/\((y.kD c d).C x).on e=(y.C x).on e++((y.R ((y.C c).e d).1).P ((y.C c).e d).2).out):=by
   show((if x=c then(y.C c).put d _ else y.C x):pT).on e=_ \/(x=c/\e=d/\((if x=c then(y.C c).put d _ else y.C x):pT).on e=_);by_cases ex:x=c
   ·rw[ag ex];subst ex;unfold pT.put;split
    ·show jK (y.C x).on d _ e=_ \/(x=x/\e=d/\jK (y.C x).on d _ e=_);by_cases ed:e=d
     ·subst ed;rw[iu];exact .inr ⟨rfl,rfl,rfl⟩
     ·rw[iq _ _ ed];exact .inl rfl
    ·exact .inl rfl
   ·rw[ae ex];exact .inl rfl
  obtain⟨T,U⟩:=h.q x e M J;rcases u with Y|⟨_,_,Y⟩
  ·rw[Y];exact⟨T,U⟩
  ·obtain⟨ps,X,Z⟩:=h.o ((y.C c).e d).1 ((y.C c).e d).2;rw[Y,qG,T,X,py ps Z];refine⟨rfl,λp A=> ?_⟩;rcases av.1 A with V|V
   ·exact U p V
   ·exact Z p V
 ·rw[Ai];split
  ·exact⟨[],Frames.nil⟩
  ·exact h.o i p
theorem jo.jQ {y:iI} (h:jo y):∀k,k<=y.nc->jo (y.jQ k)
 |0,_=>h
 |k+1,hk=>by
  have Y:=jo.jQ h k dU;have Z:(y.jQ k).nc=y.nc:=(jU y k).2.1;exact(Y.kD k 0 (by rw[Z];omega)).kD k 1 (by show k<(y.jQ k).nc;rw[Z];omega)
theorem jo.gather {y:iI} (h:jo y):jo y.gather:=by
 unfold iI.gather;have Y:=h.jQ y.nc (Nat.le_refl _);obtain⟨e1,V,e3,Z⟩:=nE (y.jQ y.nc) y.n;have X:∀i,(((y.jQ y.nc).lW y.n).R i).P=((y.jQ y.nc).R i).P:=λi=>by
  rw[(vR (y.jQ y.nc) i y.n).1];split<;>rfl
 refine⟨λc d hc hd=> ?_,λi p=>by rw[X];exact Y.o i p⟩;have hf:jM ((y.jQ y.nc).lW y.n) c d=jM (y.jQ y.nc) c d:=by
  unfold jM;rw[Z,X]
 rw[hf,Z];exact Y.q c d (by rw[V]at hc;exact hc) hd
theorem jo.jq {y:iI} (h:jo y)(i:Nat) {r:iE} (Z:mN (y.R i) r):jo (y.jq i r):=by
 refine⟨λc d hc hd=> ?_,λj p=> ?_⟩
 ·have hf:jM (y.jq i r) c d=jM y c d:=by
   show((jK y.R i r ((y.C c).e (1-d)).1).P ((y.C c).e (1-d)).2).rd=((y.R ((y.C c).e (1-d)).1).P ((y.C c).e (1-d)).2).rd;by_cases e:((y.C c).e (1-d)).1=i
   ·rw[e,iu];exact Z.rd _
   ·rw[iq _ _ e]
  rw[hf];exact h.q c d hc hd
 ·show∃ps,Frames ((jK y.R i r j).P p).out ps;by_cases e:j=i
  ·subst e;rw[iu];obtain⟨ps,Y⟩:=h.o j p;obtain⟨qs,X⟩:=Z.out p ps Y;exact⟨_,X⟩
  ·rw[iq _ _ e];exact h.o j p
theorem jo.jg {y:iI} (h:jo y)(hE:Ends y)(c d k:Nat)(hc:c<y.nc)(hd:d<2):jo (y.jg c d k):=by
 obtain⟨i,hi⟩:=fW (((y.C c).e (1-d)).1);obtain⟨p,X⟩:=fW (((y.C c).e (1-d)).2);obtain⟨r1,r2,r3⟩:=Gl (y.R i) p (((y.C c).on d).take k);have Z:∀x,((y.jg c d k).C x).e=(y.C x).e:=λx=>((qI y c d k).2.2.2 x).1;have V:∀j,(y.jg c d k).R j=jK y.R i ((y.R i).recv p (((y.C c).on d).take k)) j:=λj=>by
  unfold iI.jg;rw[hi,X];rfl
 have yY:∀x e,((y.jg c d k).C x).on e=if x=c/\e=d then((y.C c).on d).drop k else(y.C x).on e:=λx e=>by
  show((if x=c then {y.C c with on:=jK (y.C c).on d (((y.C c).on d).drop k)}else y.C x):pT).on e=_;by_cases ex:x=c
  ·rw[ag ex];show jK (y.C c).on d _ e=_;by_cases ed:e=d
   ·rw[ed,iu,ag ⟨ex,rfl⟩]
   ·rw[iq _ _ ed,ae (λh=>ed h.2),ex]
  ·rw[ae ex,ae (λh=>ex h.1)]
 refine⟨λx e hx G=> ?_,λj s=> ?_⟩
 ·have H:x<y.nc:=hx;rw[yY];by_cases Y:x=c/\e=d
  ·obtain⟨rfl,rfl⟩:=Y;rw[ag ⟨rfl,rfl⟩];have hf:jM (y.jg x e k) x e=(j9 (jM y x e) (((y.C x).on e).take k)).2.2:=by
    unfold jM;rw[Z,V,hi,X,iu];exact r1
   obtain⟨T,M⟩:=h.q x e hc hd;have J:=qG (jM y x e) (((y.C x).on e).take k) (((y.C x).on e).drop k);rw[cB]at J;rw[J]at T M;rw[hf];refine⟨?_,λq U=>M q (av.2 (.inr U))⟩;have u:=congrArg gT T;have hb:=congrArg gU T;simp only at u hb;exact aR (by show _=0;omega) hb
  ·rw[ae Y];have A:(y.C x).e (1-e)≠(i,p):=λe2=>Y (by
    have:=hE.ds x (1-e) c (1-d) H dU hc dU (by rw[e2,<-hi,<-X]);exact⟨this.1,dU⟩)
   have hf:jM (y.jg c d k) x e=jM y x e:=by
    unfold jM;rw[Z,V];by_cases Q:((y.C x).e (1-e)).1=i
    ·rw[Q,iu];exact r2 _ (λe4=>A (by rw[cG];exact⟨Q,e4⟩))
    ·rw[iq _ _ Q]
   rw[hf];exact h.q x e H G
 ·rw[V];by_cases e:j=i
  ·subst e;rw[iu];obtain⟨ps,tW⟩:=h.o j s;obtain⟨qs,U⟩:=r3 s ps tW;exact⟨_,U⟩
  ·rw[iq _ _ e];exact h.o j s
theorem jo.jP {y:iI} (h:jo y)(hG:GN y)(hE:Ends y)(c:Nat)(up:Bool)(hc:c<y.nc)(hu:(y.C c).iR= !up):jo (y.jP c up):=by
 obtain⟨Z,H⟩:=fW ((y.C c).e 0);obtain⟨Y,J⟩:=fW ((y.C c).e 1);have jm:Z≠Y:=λe=>by
  have:=(hE.ds c 0 c 1 hc dU hc dU (by rw[H,J,e])).2;omega
 have h0:=hG.ends c 0 hc dU;have u:=hG.ends c 1 hc dU;rw[H,hu]at h0;rw[J,hu]at u;obtain⟨X,uj⟩:∃X:pT,X={y.C c with iR:=up,on:=λ_=>[] }:=⟨_,rfl⟩
 have U:X.e=(y.C c).e:=by rw[uj]
 have cbo:∀d,X.on d=[] :=λd=>by rw[uj]
 have hf:∀(z:iI) (d:Nat) (e:Nat×Nat),(z.C c).e d=e->z.mB c d up=z.jq e.1 ((z.R e.1).iD e.2 up).1:=by
  intro z d e he;unfold iI.mB;rw[he]
 have Q:(y.kX c X).C c=X:=iu _ _ _;have hp:y.jP c up=((y.kX c X).jq Z.1 ((y.R Z.1).iD Z.2 up).1).jq Y.1 ((jK y.R Z.1 ((y.R Z.1).iD Z.2 up).1 Y.1).iD Y.2 up).1:=by
  unfold iI.jP;rw[<-uj,hf (y.kX c X) 0 Z (by rw[Q,U,H]),hf _ 1 Y (by show((y.kX c X).C c).e 1=Y;rw[Q,U,J])];rfl
 obtain⟨r1,G⟩:=fW (jK y.R Z.1 ((y.R Z.1).iD Z.2 up).1 Y.1);obtain⟨a1,a2,a3⟩:=Gm Z.2 h0;obtain⟨_,_,b0⟩:=wG Z.2 h0;have aa3:oK (!up) (r1.P Y.2):=by
  rw[<-G];by_cases e:Y.1=Z.1
  ·rw[e,iu];have Yj:Y.2≠Z.2:=λM=>jm (by rw[cG];exact⟨e.symm,M.symm⟩);rw[e]at u;exact u.congr (b0 _ Yj).1 (b0 _ Yj).2
  ·rw[iq _ _ e];exact u
 obtain⟨c1,c2,c3⟩:=Gm Y.2 aa3;rw[hp,G];obtain⟨R2,A⟩:=fW (jK (jK y.R Z.1 ((y.R Z.1).iD Z.2 up).1) Y.1 (r1.iD Y.2 up).1);have YD:∀i p,((R2 i).P p).rd=if(i,p)=Z \/(i,p)=Y then k9 else((y.R i).P p).rd:=λi p=>by
  rw[<-A];by_cases x1:i=Y.1
  ·rw[x1,iu];by_cases y1:p=Y.2
   ·rw[y1,ag (.inr rfl)];exact c1
   ·rw[c2 p y1,<-G];by_cases x0:Y.1=Z.1
    ·rw[x0,iu];by_cases T:p=Z.2
     ·rw[T,ag (.inl rfl)];exact a1
     ·rw[a2 p T,ae];rintro(e|e)
      ·exact T (congrArg gU e)
      ·exact y1 (congrArg gU e)
    ·rw[iq _ _ x0,ae];rintro(e|e)
     ·exact x0 (by have V:=congrArg gT e;exact V)
     ·exact y1 (congrArg gU e)
  ·rw[iq _ _ x1];by_cases x0:i=Z.1
   ·rw[x0,iu];by_cases T:p=Z.2
    ·rw[T,ag (.inl rfl)];exact a1
    ·rw[a2 p T,ae];rintro(e|e)
     ·exact T (congrArg gU e)
     ·exact x1 (x0.trans (by have V:=congrArg gT e;exact V))
   ·rw[iq _ _ x0,ae];rintro(e|e)
    ·exact x0 (by have V:=congrArg gT e;exact V)
    ·exact x1 (by have V:=congrArg gT e;exact V)
 have KY:∀i p,∃ps,Frames ((R2 i).P p).out ps:=λi p=>by
  rw[<-A];have hA:∀j s,∃ps,Frames ((jK y.R Z.1 ((y.R Z.1).iD Z.2 up).1 j).P s).out ps:=λj s=>by
   by_cases x0:j=Z.1
   ·rw[x0,iu];obtain⟨ps,tW⟩:=h.o Z.1 s;obtain⟨qs,hq⟩:=a3 s ps tW;exact⟨_,hq⟩
   ·rw[iq _ _ x0];exact h.o j s
  by_cases x1:i=Y.1
  ·rw[x1,iu];obtain⟨ps,tW⟩:=hA Y.1 p;rw[G]at tW;obtain⟨qs,hq⟩:=c3 p ps tW;exact⟨_,hq⟩
  ·rw[iq _ _ x1];exact hA i p
 refine⟨λx d hx hd=> ?_,λi p=> ?_⟩
 ·have uQ:x<y.nc:=hx;show(j9 (((jK (jK y.R Z.1 ((y.R Z.1).iD Z.2 up).1) Y.1 (r1.iD Y.2 up).1 ((((if x=c then X else y.C x):pT).e (1-d)).1)).P (((if x=c then X else y.C x):pT).e (1-d)).2).rd) (((if x=c then X else y.C x):pT).on d)).2=(0,k9)/\∀p∈(j9 (((jK (jK y.R Z.1 ((y.R Z.1).iD Z.2 up).1) Y.1 (r1.iD Y.2 up).1 ((((if x=c then X else y.C x):pT).e (1-d)).1)).P (((if x=c then X else y.C x):pT).e (1-d)).2).rd) (((if x=c then X else y.C x):pT).on d)).1,xt p;rw[A,YD];by_cases e:x=c
  ·rw[ag e,U,cbo];have qR:(((y.C c).e (1-d)).1,((y.C c).e (1-d)).2)=Z \/(((y.C c).e (1-d)).1,((y.C c).e (1-d)).2)=Y:=by
    have:d=0 \/d=1:=dU;rcases this with rfl|rfl
    ·exact .inr J
    ·exact .inl H
   rw[ag qR];exact⟨rfl,λp hp=>by simp[j9]at hp⟩
  ·rw[ae e];have n0:¬((((y.C x).e (1-d)).1,((y.C x).e (1-d)).2)=Z \/(((y.C x).e (1-d)).1,((y.C x).e (1-d)).2)=Y):=by
    rintro(M|M)
    ·exact e (hE.ds x (1-d) c 0 uQ dU hc dU (by rw[H];exact M)).1
    ·exact e (hE.ds x (1-d) c 1 uQ dU hc dU (by rw[J];exact M)).1
   rw[ae n0];exact h.q x d uQ hd
 ·show∃ps,Frames ((jK (jK y.R Z.1 ((y.R Z.1).iD Z.2 up).1) Y.1 (r1.iD Y.2 up).1 i).P p).out ps;rw[A];exact KY i p
theorem jo.jB(up:Bool):∀(l:List Nat) {y:iI},jo y->GN y->Ends y->l.Nodup->(∀c∈l,c<y.nc/\(y.C c).iR= !up)->jo (y.jB up l)
 |[],_,h,_,_,_,_=>h
 |c::l,y,h,hG,hE,wH,hl=>by
  obtain⟨g1,X,g3,g4,V⟩:=oS y c up;have hc:=hl c gO;have Z:=bP.1 wH;exact jo.jB up l (h.jP hG hE c up hc.1 hc.2) (hG.jP hE c up hc.1 hc.2) (hE.jP c up) Z.2 (λx hx=>by
   have Y:x≠c:=λe=>Z.1 (e▸hx);rw[X,(V x).2,ae Y];exact hl x (by simp[hx]))
theorem jo.anew(h:jo y)(X:GN y)(i:Nat)(id:Int)(m:Nat->Int)(hf:∀c d,c<y.nc->d<2->((y.C c).e d).1=i->(y.C c).iR=false):jo (y.jq i (jE id 3 m)):=by
 refine⟨λc d hc hd=> ?_,λj p=> ?_⟩
 ·have Z:c<y.nc:=hc;show(j9 (((jK y.R i (jE id 3 m) ((y.C c).e (1-d)).1).P ((y.C c).e (1-d)).2).rd) ((y.C c).on d)).2=(0,k9)/\∀p∈(j9 (((jK y.R i (jE id 3 m) ((y.C c).e (1-d)).1).P ((y.C c).e (1-d)).2).rd) ((y.C c).on d)).1,xt p;by_cases e:((y.C c).e (1-d)).1=i
  ·rw[e,iu,X.off c d Z hd (hf c (1-d) Z dU e)];exact⟨rfl,λp Y=>by simp[j9]at Y⟩
  ·rw[iq _ _ e];exact h.q c d Z hd
 ·show∃ps,Frames ((jK y.R i (jE id 3 m) j).P p).out ps;by_cases e:j=i
  ·rw[e,iu];exact⟨[],Frames.nil⟩
  ·rw[iq _ _ e];exact h.o j p
theorem jo.restart {y:iI} {D:Nat} (h:jo y)(M:GN y)(G:jT y D 0)(i:Int):jo (y.restart i).1:=by
 unfold iI.restart;split
 ·exact h
 ·rename_i hi
  obtain⟨k,hk⟩:=fW ((i-1).toNat);rw[hk];obtain⟨l,hl⟩:=fW (y.k7 k);rw[hl];have Y:∀c,c∈l↔c<y.nc/\(y.C c).iR=true/\(((y.C c).e 0).1=k \/((y.C c).e 1).1=k):=λc=>by
   rw[<-hl];unfold iI.k7;simp[gS]
  have V:l.Nodup:=by
   rw[<-hl];exact dh cX bQ
  have Q:∀c∈l,c<y.nc/\(y.C c).iR= !false:=λc hc=>⟨((Y c).1 hc).1,((Y c).1 hc).2.1⟩
  obtain⟨a,b,d⟩:=GN.jB false l M G.nZ V Q;have f1:=jo.jB false l h M G.nZ V Q;obtain⟨s1,U,s3,s4,u⟩:=mI false l y;obtain⟨Z,Ba⟩:=fW (y.jB false l);rw[Ba]at a b d s1 U s3 s4 u f1⊢;have A:∀c e,c<Z.nc->e<2->((Z.C c).e e).1=k->(Z.C c).iR=false:=λc e hc T heq=>by
   have jN:c<y.nc:=by rw[U]at hc;exact hc
   rw[d c];by_cases X:c∈l
   ·rw[ag X]
   ·rw[ae X];by_cases J:(y.C c).iR=true
    ·exfalso;rw[u c]at heq;refine X ((Y c).2 ⟨jN,J,?_⟩);have:e=0 \/e=1:=dU;rcases this with rfl|rfl
     ·exact .inl heq
     ·exact .inr heq
    ·simpa using J
  have f2:=f1.anew a k i (y.ms k) A;have a2:GN (Z.jq k (jE i 3 (y.ms k))):=by
   refine a.jq k _ (λc e hc T heq _=> ?_);rw[A c e hc T heq];have H:=qg i (y.ms k) ((Z.C c).e e).2;exact⟨by simpa using H.st,λe=>absurd (by rw[H.pe];rfl) e⟩
  have b2:Ends (Z.jq k (jE i 3 (y.ms k))):=⟨b.ds,b.p3,λj=>by
   show(jK Z.R k _ j).n=3 \/Z.n<=j;by_cases e:j=k
   ·rw[e,iu];exact .inl rfl
   ·rw[iq _ _ e];exact b.rn j,b.en⟩
  exact(jo.jB true l f2 a2 b2 V (λc hc=>⟨by show c<Z.nc;rw[U];exact((Y c).1 hc).1,by show(Z.C c).iR=_;rw[d c,ag hc];rfl⟩)).gather
theorem jo.iD {y:iI} {D:Nat} (h:jo y)(Z:GN y)(Y:jT y D 0)(i:Int)(up:Bool):jo (y.iD i up).1:=by
 unfold iI.iD;split
 ·exact h
 ·split
  ·exact h
  ·rename_i lL
   exact(h.jP Z Y.nZ i.toNat up dU (by cases hv:(y.C i.toNat).iR<;>cases up<;>simp_all)).gather
theorem jo.tick {y:iI} (h:jo y)(i:Int):jo (y.tick i).1:=by
 unfold iI.tick;split
 ·exact h
 ·exact(h.jq _ (mN.iN _ _)).gather
theorem jo.deliver {y:iI} {D:Nat} (h:jo y)(Z:jT y D 0)(i d m:Int):jo (y.deliver i d m).1:=by
 unfold iI.deliver;split
 ·exact h
 ·exact(h.jg Z.nZ _ _ _ dU dU).gather
theorem jo.send {y:iI} (h:jo y)(f t:Int)(tx:List UInt8):jo (y.send f t tx).1:=by
 unfold iI.send;split
 ·exact h
 ·split
  ·exact h
  ·exact(h.jq _ (mN.j2 _ _ _)).gather
theorem jo.iN {y:iI} (h:jo y):∀q,jo (y.iN q)
 |0=>h
 |q+1=>(jo.iN h q).tick _
theorem jo.jF {y:iI} {D:Nat} (h:jo y)(X:jT y D 0)(Z:D<=890000000):∀q,q<=9->jo (y.jF q)
 |0,_=>h
 |q+1,hq=>by
  have Y:=X.jF Z q dU;exact((jo.jF h X Z q dU).deliver Y (q:Int) 0 2000).deliver (Y.deliver dU (q:Int) 0 2000) (q:Int) 1 2000
theorem jo.turns {y:iI} {D:Nat} (h:jo y)(Z:jT y D 0)(Y:D<=810000000):∀t,t<=12->jo (y.turns t)
 |0,_=>h
 |t+1,ht=>(jo.turns h Z Y t dU).jF (Z.turns Y t dU) dU y.nc Z.c9
theorem jo.round {y:iI} {D:Nat} (h:jo y)(Z:jT y D 0)(Y:D<=800000000):jo y.round:=
 (h.iN y.n).turns (Z.iN Y y.n Z.n6) (by have:=Z.n6;omega) 12 (Nat.le_refl _)
theorem jo.act(h:jo y)(Y:GN y)(Z:jT y D 0)(X:D<=800000000)(v:AV):jo (sg y v):=by
 unfold sg;split
 ·exact h.iD Y Z _ _
 ·split
  ·exact h.tick _
  ·split
   ·exact h.deliver Z _ _ _
   ·split
    ·exact h.restart Y Z _
    ·split
     ·exact h.send _ _ _
     ·split
      ·exact h.round Z X
      ·exact h
theorem MN(many:Nat)(L:List oR):jo (jH many L):=⟨λ_ _ _ _=>⟨rfl,λp Z=>by simp[j9,jH,rP]at Z⟩,λ_ _=>⟨[],Frames.nil⟩⟩
def isI(k:Nat)(tx:List UInt8)(m:yn):Bool:=m.1==(k:Int)&&m.2.2==tx
def cI(k:Nat)(tx:List UInt8)(l:List yn):Nat:=l.countP (isI k tx)
def je(p:jl):List (List UInt8):=(j9 k9 p.out).1
theorem mF(h:Frames p.out ps):je p=ps:=by
 unfold je;rw[h.1,py ps h.2]
theorem ry.fr(h:ry p q)(Y:∃ps,Frames p.out ps):∃ps,Frames q.out ps:=by
 obtain⟨ps,Z⟩:=Y;obtain⟨qs,X⟩:=h.out ps Z;exact⟨_,X⟩
