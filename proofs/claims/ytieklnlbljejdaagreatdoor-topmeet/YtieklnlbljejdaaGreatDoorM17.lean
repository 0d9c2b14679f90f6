import Derived.Test.YtieklnlbljejdaaGreatDoorM16
open Go.Value renaming int → ι, slice → σ, pointer → π, tuple → τ
open Go.IntKind renaming i64 → κ
open Go.Ending renaming returned → ρ
open Go.Obj renaming cells → γ
open Option renaming none → ν, some → μ
open Go.Proofs.Tryz renaming prog → eX
open List renaming range → fW, mem_filter → ia
open Prod renaming fst → ic, snd → ig
set_option maxRecDepth 100000
set_option maxHeartbeats 4000000
namespace Go.Proofs.YtieklnlbljejdaaGreatDoor
open Go.RowKit St
namespace Rt
variable {D i:Nat} {p q:jw} {ps:List (List UInt8)} {r r':iM} {s:LS} {y:iP}
def tg(y:iP)(v:AV):iP:=
 if(v.kind.toList==[112,108,117,103])=true then(y.iL v.a (v.b==1)).1
 else if(v.kind.toList==[116,105,99,107])=true then(y.tick v.a).1
 else if(v.kind.toList==[100,101,108,105,118,101,114])=true then(y.deliver v.a v.b v.c).1
 else if(v.kind.toList==[114,101,115,116,97,114,116])=true then(y.restart v.a).1
 else if(v.kind.toList==[115,101,110,100])=true then(y.send v.a v.b v.s.data.toList).1
 else if(v.kind.toList==[114,111,117,110,100])=true then y.round
 else y
theorem R8(y:iP)(i:Int)(up:Bool):(y.iL i up).1.n=y.n/\(y.iL i up).1.nc=y.nc/\(y.iL i up).1.ms=y.ms/\∀x,((y.iL i up).1.C x).e=(y.C x).e:=by
 unfold iP.iL;split
 ·exact⟨rfl,rfl,rfl,λ_=>rfl⟩
 ·split
  ·exact⟨rfl,rfl,rfl,λ_=>rfl⟩
  ·obtain⟨g1,Z,T,X⟩:=lP (y.jZ i.toNat up);obtain⟨Y,V,p3,_,U⟩:=pD y i.toNat up;exact⟨g1.trans Y,Z.trans V,T.trans p3,λx=>(X x).1.trans (U x).1⟩
theorem Jr(y:iP)(i:Int):(y.restart i).1.n=y.n/\(y.restart i).1.nc=y.nc/\(y.restart i).1.ms=y.ms/\∀x,((y.restart i).1.C x).e=(y.C x).e:=by
 unfold iP.restart;split
 ·exact⟨rfl,rfl,rfl,λ_=>rfl⟩
 ·obtain⟨Z,T,Y,_,V⟩:=nj false (y.lA (i-1).toNat) y;obtain⟨b1,b2,b3,_,b5⟩:=nj true (y.lA (i-1).toNat) ((y.jL false (y.lA (i-1).toNat)).jB (i-1).toNat (jN i 3 (y.ms (i-1).toNat)));obtain⟨g1,X,S,U⟩:=lP (((y.jL false (y.lA (i-1).toNat)).jB (i-1).toNat (jN i 3 (y.ms (i-1).toNat))).jL true (y.lA (i-1).toNat));exact⟨g1.trans (b1.trans Z),X.trans (b2.trans T),S.trans (b3.trans Y),λx=>(U x).1.trans ((b5 x).trans (V x))⟩
theorem Sb(y:iP)(f t:Int)(tx:List UInt8):(y.send f t tx).1.n=y.n/\(y.send f t tx).1.nc=y.nc/\(y.send f t tx).1.ms=y.ms/\∀x,((y.send f t tx).1.C x).e=(y.C x).e:=by
 unfold iP.send;split
 ·exact⟨rfl,rfl,rfl,λ_=>rfl⟩
 ·split
  ·exact⟨rfl,rfl,rfl,λ_=>rfl⟩
  ·obtain⟨g1,Z,Y,X⟩:=lP (y.jB (f-1).toNat (kd (y.R (f-1).toNat) t tx).1);exact⟨g1,Z,Y,λx=>(X x).1⟩
theorem Sc(y:iP)(v:AV):(tg y v).n=y.n/\(tg y v).nc=y.nc/\(tg y v).ms=y.ms/\∀x,((tg y v).C x).e=(y.C x).e:=by
 unfold tg;split
 ·exact R8 _ _ _
 ·split
  ·obtain⟨a,b,c,d⟩:=HJ y v.a;exact⟨a,b,c,λx=>(d x).1⟩
  ·split
   ·obtain⟨a,b,c,d⟩:=m7 y v.a v.b v.c;exact⟨a,b,c,λx=>(d x).1⟩
   ·split
    ·exact Jr _ _
    ·split
     ·exact Sb _ _ _ _
     ·split
      ·obtain⟨a,b,c,d⟩:=kJ y;exact⟨a,b,c,λx=>(d x).1⟩
      ·exact⟨rfl,rfl,rfl,λ_=>rfl⟩
theorem j3.act(h:j3 y D 0)(Z:D<=800000000)(v:AV):j3 (tg y v) (D+1300000) 0:=by
 unfold tg;split
 ·exact(h.iL eh _ _).mono eh (Nat.le_refl _)
 ·split
  ·exact(h.tick eh _).mono eh (Nat.le_refl _)
  ·split
   ·exact(h.deliver eh _ _ _).mono eh (Nat.le_refl _)
   ·split
    ·exact(h.restart eh _).mono eh (Nat.le_refl _)
    ·split
     ·exact(h.send eh _ _ _).mono eh (Nat.le_refl _)
     ·split
      ·exact h.round Z
      ·exact h.mono eh (Nat.le_refl _)
theorem jG.from {w W:World} {y:Yt} {n n':iP} {f:FuncId} {args:Array Value} {ev:Value} (hb:eE w W)(hc:Calls eX f args W λe w'=>e=ρ ev/\iF W w' y n' n.n):Calls eX f args W λe w'=>(∃v,e=ρ v)/\iF w w' y n' n.n:=by
 refine hc.mono ?_;rintro e w' ⟨rfl,Z⟩;exact⟨⟨_,rfl⟩,iF.first hb Z⟩
theorem Dd(y:Yt)(n:iP)(D:Nat)(v:AV)(w:World)(h:jG w y n)(hT:jf w)(iN:j3 n D 0)(hD:D<=800000000):
 Calls eX 59 #[π (μ ⟨y.N,0,ν⟩),.agg #[.string v.kind,ι κ v.a,ι κ v.b,ι κ v.c,ι κ v.d,.string v.s,ι κ v.OV,ι κ v.pid,σ v.po v.pn v.DX,ι κ v.x.own,ι κ v.x.seq,σ v.x.a v.x.n v.x.cap]] w λe w'=>e=ρ (τ #[])/\iF w w' y (tg n v) n.n:=by
 obtain⟨Z,T,M,vc,vd,vs,ZU,ZV,ZW,W8,BP,⟨xo,xq,xa,xn,xc⟩⟩:=v;have hb:=gW w (γ #[.string Z,ι κ T,ι κ M,ι κ vc,ι κ vd,.string vs,ι κ ZU,ι κ ZV,σ ZW W8 BP,ι κ xo,ι κ xq,σ xa xn xc] 42);have J:iX (w.alloc (γ #[.string Z,ι κ T,ι κ M,ι κ vc,ι κ vd,.string vs,ι κ ZU,ι κ ZV,σ ZW W8 BP,ι κ xo,ι κ xq,σ xa xn xc] 42)) w.heap.size #[.string Z,ι κ T,ι κ M,ι κ vc,ι κ vd,.string vs,ι κ ZU,ι κ ZV,σ ZW W8 BP,ι κ xo,ι κ xq,σ xa xn xc] 42:=iX.new w _ _;obtain⟨S,nX⟩:=gg (w.alloc (γ #[.string Z,ι κ T,ι κ M,ι κ vc,ι κ vd,.string vs,ι κ ZU,ι κ ZV,σ ZW W8 BP,ι κ xo,ι κ xq,σ xa xn xc] 42));obtain⟨X,hX⟩:=gg (w.heap.size);rw[nX]at hb J;rw[hX]at J;have R0:=h.below hb;have T0:jf S:=jf.below (w:=w) hT hb;have c0:S.cell? ⟨X,0,ν⟩=μ (.string Z):=J.cell 0;have c1:S.cell? ⟨X,1,ν⟩=μ (ι κ T):=J.cell 1;have c2:S.cell? ⟨X,2,ν⟩=μ (ι κ M):=J.cell 2;have c3:S.cell? ⟨X,3,ν⟩=μ (ι κ vc):=J.cell 3;have c5:S.cell? ⟨X,5,ν⟩=μ (.string vs):=J.cell 5;have xl:=J.lt;have Gt:Hid _:=nX;have j:Hid _:=hX;have q1:=jG.from hb (Lx y n D T (M==1) S R0 T0 iN eh);have q2:=jG.from hb (Lu y n D T S R0 T0 iN eh);have E:=jG.from hb (Cf y n D T M vc S R0 T0 iN eh);have u:=jG.from hb (LC y n D T S R0 T0 iN eh);have H:=jG.from hb (VJ y n D T M vs S R0 iN eh);have q6:=jG.from hb (Bk y n D S R0 T0 iN hD);have A:iF w S y n n.n:=iF.still h hb;obtain⟨G,hG⟩:=gg (tg n ⟨Z,T,M,vc,vd,vs,ZU,ZV,ZW,W8,BP,⟨xo,xq,xa,xn,xc⟩⟩)
 rw[hG];have HG:Hid (G=if(Z.toList==[112,108,117,103])=true then(n.iL T (M==1)).1
  else if(Z.toList==[116,105,99,107])=true then(n.tick T).1
  else if(Z.toList==[100,101,108,105,118,101,114])=true then(n.deliver T M vc).1
  else if(Z.toList==[114,101,115,116,97,114,116])=true then(n.restart T).1
  else if(Z.toList==[115,101,110,100])=true then(n.send T M vs.data.toList).1
  else if(Z.toList==[114,111,117,110,100])=true then n.round
  else n):=hG.symm
 clear h hT iN R0 T0 hb J nX hX hG;cases k1:(Z.toList==[112,108,117,103])
 case true=>
  have U:=q1;clear q1 q2 E u H q6 A;have V:Hid (∀x,iF w x y _ n.n->iF w x y G n.n):=λx hx=>by
   rw[HG.out,ai k1];exact hx
  go_in
  go_wp2_with(fail)
  try rw[Gt.out]
  try rw[j.out]
  go_wp2_with(fail);refine U.mono ?_;rintro e w6 ⟨⟨ev,rfl⟩,Y⟩;have Q:Hid _:=V.out _ Y;clear U Y V
  go_wp2
  first|go_end0|refine iJ rfl rfl ?_
  exact⟨rfl,Q.out⟩
 case false=>
  cases k2:(Z.toList==[116,105,99,107])
  case true=>
   have U:=q2;clear q1 q2 E u H q6 A;have V:Hid (∀x,iF w x y _ n.n->iF w x y G n.n):=λx hx=>by
    rw[HG.out,af (by rw[k1];simp),ai k2];exact hx
   go_in
   go_wp2_with(fail)
   try rw[Gt.out]
   try rw[j.out]
   go_wp2_with(fail);refine U.mono ?_;rintro e w6 ⟨⟨ev,rfl⟩,Y⟩;have Q:Hid _:=V.out _ Y;clear U Y V
   go_wp2
   first|go_end0|refine iJ rfl rfl ?_
   exact⟨rfl,Q.out⟩
  case false=>
   cases k3:(Z.toList==[100,101,108,105,118,101,114])
   case true=>
    have U:=E;clear q1 q2 E u H q6 A;have V:Hid (∀x,iF w x y _ n.n->iF w x y G n.n):=λx hx=>by
     rw[HG.out,af (by rw[k1];simp),af (by rw[k2];simp),ai k3];exact hx
    go_in
    go_wp2_with(fail)
    try rw[Gt.out]
    try rw[j.out]
    go_wp2_with(fail);refine U.mono ?_;rintro e w6 ⟨⟨ev,rfl⟩,Y⟩;have Q:Hid _:=V.out _ Y;clear U Y V
    go_wp2
    first|go_end0|refine iJ rfl rfl ?_
    exact⟨rfl,Q.out⟩
   case false=>
    cases k4:(Z.toList==[114,101,115,116,97,114,116])
    case true=>
     have U:=u;clear q1 q2 E u H q6 A;have V:Hid (∀x,iF w x y _ n.n->iF w x y G n.n):=λx hx=>by
      rw[HG.out,af (by rw[k1];simp),af (by rw[k2];simp),af (by rw[k3];simp),ai k4];exact hx
     go_in
     go_wp2_with(fail)
     try rw[Gt.out]
     try rw[j.out]
     go_wp2_with(fail);refine U.mono ?_;rintro e w6 ⟨⟨ev,rfl⟩,Y⟩;have Q:Hid _:=V.out _ Y;clear U Y V
     go_wp2
     first|go_end0|refine iJ rfl rfl ?_
     exact⟨rfl,Q.out⟩
    case false=>
     cases k5:(Z.toList==[115,101,110,100])
     case true=>
      have U:=H;clear q1 q2 E u H q6 A;have V:Hid (∀x,iF w x y _ n.n->iF w x y G n.n):=λx hx=>by
       rw[HG.out,af (by rw[k1];simp),af (by rw[k2];simp),af (by rw[k3];simp),af (by rw[k4];simp),ai k5];exact hx
      go_in
      go_wp2_with(fail)
      try rw[Gt.out]
      try rw[j.out]
      go_wp2_with(fail);refine U.mono ?_;rintro e w6 ⟨⟨ev,rfl⟩,Y⟩;have Q:Hid _:=V.out _ Y;clear U Y V
      go_wp2
      first|go_end0|refine iJ rfl rfl ?_
      exact⟨rfl,Q.out⟩
     case false=>
      cases k6:(Z.toList==[114,111,117,110,100])
      case true=>
       have U:=q6;clear q1 q2 E u H q6 A;have V:Hid (∀x,iF w x y _ n.n->iF w x y G n.n):=λx hx=>by
        rw[HG.out,af (by rw[k1];simp),af (by rw[k2];simp),af (by rw[k3];simp),af (by rw[k4];simp),af (by rw[k5];simp),ai k6];exact hx
       go_in
       go_wp2_with(fail)
       try rw[Gt.out]
       try rw[j.out]
       go_wp2_with(fail);refine U.mono ?_;rintro e w6 ⟨⟨ev,rfl⟩,Y⟩;have Q:Hid _:=V.out _ Y;clear U Y V
       go_wp2
       first|go_end0|refine iJ rfl rfl ?_
       exact⟨rfl,Q.out⟩
      case false=>
       have Q:Hid (iF w S y G n.n):=by
        show iF _ _ _ _ _;rw[HG.out,af (by rw[k1];simp),af (by rw[k2];simp),af (by rw[k3];simp),af (by rw[k4];simp),af (by rw[k5];simp),af (by rw[k6];simp)];exact A
       clear q1 q2 E u H q6 A
       go_in
       go_wp2_with(fail)
       try rw[Gt.out]
       try rw[j.out]
       go_wp2
       first|go_end0|refine iJ rfl rfl ?_
       exact⟨rfl,Q.out⟩
theorem Y6(c:UInt8)(s:LS):(pS c s).st=s.st:=by
 unfold pS
 repeat' split
 all_goals rfl
theorem PG:∀(L:List UInt8) (s:LS),(qJ L s).st=s.st
 |[],_=>rfl
 |c::r,s=>by
  show(qJ r (pS c s)).st=s.st;rw[PG r,Y6]
theorem Y7(s:LS)(nx:Int):(s.next nx).st=nx:=by
 unfold LS.next;split<;>rfl
theorem wJ(s:LS)(ev:Int):(nW s ev).st=(jh s.st ev).2.1:=by
 unfold nW;rw[PG,Y7]
def uv(s:Int):Bool:=s==3||(decide (5<=s)&&decide (s<=9))
theorem Dq {s:Int} (h:uv s=true):∃k:Nat,s=k/\k<10:=by
 refine⟨s.toNat,?_⟩;simp only[uv,Bool.or_eq_true,beq_iff_eq,Bool.and_eq_true,decide_eq_true_eq]at h;omega
theorem ac8:((fW 12).all λe=>(fW 10).all λs=> !(decide (4<=e)&&uv (s:Int)&& ((lp s e).2.2==0))||uv (lp s e).2.1)=true:=by decide+kernel
theorem Y8 {e s:Nat} (X:e<12)(U:4<=e)(hs:s<10)(V:uv (s:Int)=true)(Y:(lp s e).2.2=0):uv (lp s e).2.1=true:=by
 have Z:=a8.1 (a8.1 ac8 e (aQ.2 X)) s (aQ.2 hs);have b4:decide (4<=e)=true:=by simpa using U
 have b7:((lp s e).2.2==0)=true:=by simpa using Y
 rw[b4,V,b7]at Z;simpa using Z
theorem EZ(e:Nat)(X:e<12)(U:4<=e)(a:kM)(h:uv s.st=true):uv (sW s e a).1.st=true:=by
 obtain⟨k,V,Y⟩:=Dq h;by_cases Z:(jh s.st e).2.2=0
 ·rw[tO a Z];show uv (nW s e).st=true;rw[wJ];rw[V]at h Z⊢;rw[nA k e Y X]at Z⊢;exact Y8 X U Y h Z
 ·rw[wa a Z];exact h
theorem Y9(s:LS)(code:Int)(os:List jE):(s.tell code os).st=s.st:=by
 unfold LS.tell;split<;>rfl
theorem VX(s:LS)(os:List jE):(s.sized os).st=s.st:=by
 unfold LS.sized;split<;>rfl
theorem Za(p:kM)(h:uv s.st=true):uv (jK s p).1.st=true:=by
 unfold jK;split
 ·exact h
 ·split
  ·unfold uk;split
   ·split
    ·rw[VX];exact EZ 6 eA eA _ h
    ·exact EZ 6 eA eA _ h
   ·exact EZ 7 eA eA _ h
  ·split
   ·exact EZ 10 eA eA _ h
   ·split
    ·exact EZ 11 eA eA _ h
    ·unfold tP;split
     ·exact h
     ·split
      ·split
       ·exact h
       ·exact EZ 8 eA eA _ h
      ·exact EZ 9 eA eA _ (by rw[Y9];exact h)
theorem LM:((fW 10).all λs=> !(uv (s:Int)&&decide (4<=s)&&decide (s<=8))||(uv (lp s 4).2.1&&uv (lp s 5).2.1))=true:=by decide+kernel
theorem VY(h:uv s.st=true):uv (kj s).st=true:=by
 obtain⟨k,Y,X⟩:=Dq h;unfold kj;split
 ·exact h
 ·rename_i U
  have V:4<=k/\k<=8:=by
   rw[Y]at U;simp at U;omega
  have Z:=a8.1 LM k (aQ.2 X);rw[<-Y,h]at Z;simp[V.1,V.2]at Z;split
  ·exact h
  ·split
   ·rw[wJ];show uv (jh s.st 4).2.1=true;rw[Y,show(4:Int)=((4:Nat):Int)from rfl,nA k 4 X eA];exact Z.1
   ·rw[wJ];show uv (jh s.st 5).2.1=true;rw[Y,show(5:Int)=((5:Nat):Int)from rfl,nA k 5 X eA];exact Z.2
theorem LN:((fW 10).all λs=> !(uv (s:Int))||((lp s 1).2.2==0&& (lp s 1).2.1==1))=true:=by decide+kernel
theorem tG(h:uv s.st=true):(kY s 1).2.2=0/\(kY s 1).1.st=1:=by
 obtain⟨k,X,Y⟩:=Dq h;have Z:=a8.1 LN k (aQ.2 Y);rw[<-X,h]at Z;simp at Z;have V:(jh s.st 1).2.2=0:=by
  rw[X,show(1:Int)=((1:Nat):Int)from rfl,nA k 1 Y eA];exact Z.1
 have e:kY s 1=(nW s 1,pL s 1 (0,0,[]),0):=by
  unfold kY;rw[ai gY,tO _ V]
 rw[e];refine⟨rfl,?_⟩;show(nW s 1).st=1;rw[wJ,X,show(1:Int)=((1:Nat):Int)from rfl,nA k 1 Y eA];exact Z.2
theorem Ef(h:s.st=1):(kY s 0).2.2=0/\uv (kY s 0).1.st=true:=by
 have Z:(jh s.st 0).2.2=0:=by rw[h];decide+kernel
 have e:kY s 0=(nW s 0,pL s 0 (0,0,[]),0):=by
  unfold kY;rw[ai gY,tO _ Z]
 rw[e];refine⟨rfl,?_⟩;show uv (nW s 0).st=true;rw[wJ,h];decide+kernel
theorem VZ(h:uv s.st=true):uv (jd s).1.st=true:=by
 have Z:=VY h;unfold jd;split
 ·exact(Ef (tG Z).2).2
 ·exact Z
theorem Sd(h:s.st=1):(jd s).1=s:=by
 have Z:kj s=s:=by unfold kj;simp[h]
 unfold jd;rw[Z];simp[h]
structure pj(up:Bool)(p:jw):Prop where
 st:if up=true then uv p.L.st=true else p.L.st=1
 gate:p.pe.who≠0->p.L.st=9
theorem pj.congr {up:Bool} (h:pj up p)(Z:q.L=p.L)(Y:q.pe=p.pe):pj up q:=⟨by rw[Z];exact h.st,by rw[Z,Y];exact h.gate⟩
theorem wK(p:jw)(c:UInt8)(s:List UInt8):(p.put c s).L=p.L:=by
 unfold jw.put
 repeat' split
 all_goals rfl
theorem E3:∀(l:List kM) (p:jw),(p.say l).L=p.L
 |[],_=>rfl
 |q::r,p=>by
  show((if jS q.1 q.2.1 q.2.2=0 then p.put 76 (mD q.1 q.2.1 q.2.2)else p).say r).L=_;rw[E3 r];split
  ·exact wK _ _ _
  ·rfl
theorem wL:∀(l:List (Int×PS)) (p:jw),(p.kH l).L=p.L/\(p.kH l).pe=p.pe
 |[],_=>⟨rfl,rfl⟩
 |q::r,p=>by
  obtain⟨Z,Y⟩:=wL r (p.put 83 (rb q.1 q.2.1 q.2.2));exact⟨Z.trans (wK _ _ _),Y.trans (rN _ _ _)⟩
def kg(r r':iM)(p:Nat):Prop:=(r'.P p).L=(r.P p).L/\(r'.P p).pe=(r.P p).pe
theorem kg.refl(r:iM)(p:Nat):kg r r p:=⟨rfl,rfl⟩
theorem kg.trans {a b c:iM} {p:Nat} (h:kg a b p)(g:kg b c p):kg a c p:=⟨g.1.trans h.1,g.2.trans h.2⟩
theorem kg.xM(h:r'.P=r.P)(p:Nat):kg r r' p:=by unfold kg;rw[h];exact⟨rfl,rfl⟩
theorem kg.iU(r:iM)(i:Nat)(q:jw)(Z:q.L=(r.P i).L)(Y:q.pe=(r.P i).pe)(p:Nat):kg r (r.iU i q) p:=by
 show(la r.P i q p).L=_/\(la r.P i q p).pe=_;by_cases e:p=i
 ·subst e;rw[jy];exact⟨Z,Y⟩
 ·rw[jq _ _ e];exact⟨rfl,rfl⟩
theorem kg.yQ(r:iM)(q:jw) {p:Nat} (h:p≠i):kg r (r.iU i q) p:=by
 show(la r.P i q p).L=_/\(la r.P i q p).pe=_;rw[jq _ _ h];exact⟨rfl,rfl⟩
theorem kg.qO(r:iM)(q:lD) {p:Nat} (h:p≠i):kg r (r.meet i q) p:=by
 unfold kg;rw[(mV r i q).2.2.2,jq _ _ h];exact⟨rfl,rfl⟩
theorem zW(r:iM)(i:Nat)(q:lD):((r.meet i q).P i).L=(r.P i).L/\((r.meet i q).P i).pe=q:=by
 rw[(mV r i q).2.2.2,jy];exact⟨rfl,rfl⟩
theorem kg.send(r:iM)(t:za)(p:Nat):kg r (r.send t) p:=by
 unfold iM.send;split
 ·exact kg.xM rfl p
 ·split
  ·exact kg.xM rfl p
  ·exact kg.iU _ _ _ (wK _ _ _) (rN _ _ _) p
theorem kg.state(r:iM)(i:Nat)(l:List UInt8)(p:Nat):kg r (ji r i l) p:=by
 unfold ji;simp only;split
 ·exact kg.refl r p
 ·split
  ·exact kg.xM (oE _ _).2.2.2 p
  ·split
   ·exact kg.iU _ i _ (wK _ _ _) (rN _ _ _) p
   ·exact kg.xM rfl p
theorem Od(r:iM)(i:Nat)(c:UInt8)(s:List UInt8)(p:Nat):((mA r i c s).P p).L=(r.P p).L/\(p≠i->kg r (mA r i c s) p):=by
 unfold mA;split
 ·split
  ·refine⟨?_,λh=>kg.qO r _ h⟩;by_cases e:p=i
   ·subst e;exact(zW r p _).1
   ·exact(kg.qO r _ e).1
  ·exact⟨rfl,λ_=>kg.refl r p⟩
 ·split
  ·exact⟨(kg.state r i s p).1,λ_=>kg.state r i s p⟩
  ·split
   ·have h:kg r (kD r i s) p:=by
     unfold kD;simp only;split<;>exact kg.xM rfl p
    exact⟨h.1,λ_=>h⟩
   ·split
    ·have h:kg r (ru r s) p:=by
      unfold ru;split
      ·exact kg.send _ _ p
      ·exact kg.refl r p
     exact⟨h.1,λ_=>h⟩
    ·exact⟨rfl,λ_=>kg.refl r p⟩
def Oe(p:jw):Prop:=uv p.L.st=true/\(p.pe.who≠0->p.L.st=9)
theorem pj.up:pj true p↔Oe p:=⟨λh=>⟨by simpa using h.st,h.gate⟩,λh=>⟨by simpa using h.1,h.2⟩⟩
theorem Oe.congr(h:Oe p)(Z:q.L=p.L)(Y:q.pe=p.pe):Oe q:=by
 unfold Oe;rw[Z,Y];exact h
theorem Se(s:List UInt8)(h:uv p.L.st=true):uv (p.packet s).L.st=true:=by
 unfold jw.packet;simp only;split
 ·rw[E3];exact Za _ h
 ·exact h
theorem H5(i:Nat)(c:UInt8)(s:List UInt8)(h:Oe (r.P i)):Oe ((r.take i c s).P i)/\∀p,p≠i->kg r (r.take i c s) p:=by
 have X:uv ((j1 r i c s).P i).L.st=true:=by
  unfold j1;split
  ·show uv (la r.P i _ i).L.st=true;rw[jy];exact Se s h.1
  ·exact h.1
 have V:∀p,p≠i->kg r (j1 r i c s) p:=λp Z=>by
  unfold j1;split
  ·exact kg.yQ r _ Z
  ·exact kg.refl r p
 rw[lJ];split
 ·obtain⟨a,b⟩:=zW (j1 r i c s) i nobody;refine⟨⟨by rw[a];exact X,λe=>absurd (by rw[b];rfl) e⟩,λp Z=>(V p Z).trans (kg.qO _ _ Z)⟩
 ·rename_i U
  have Y:((j1 r i c s).P i).L.st=9:=by simpa using U
  obtain⟨a,_⟩:=Od (j1 r i c s) i c s i;exact⟨⟨by rw[a];exact X,λ_=>by rw[a];exact Y⟩,λp Z=>(V p Z).trans ((Od _ i c s p).2 Z)⟩
theorem E4:∀(l:List (List UInt8)) {r:iM} (i:Nat),Oe (r.P i)->Oe ((r.takes i l).P i)/\∀p,p≠i->kg r (r.takes i l) p
 |[],r,i,h=>⟨h,λp _=>kg.refl r p⟩
 |t::l,r,i,h=>by
  show Oe (((jM r i t).takes i l).P i)/\∀p,p≠i->kg r ((jM r i t).takes i l) p;have Z:Oe ((jM r i t).P i)/\∀p,p≠i->kg r (jM r i t) p:=by
   cases t with
   |nil=>exact⟨h,λp _=>kg.refl r p⟩
   |cons c s=>exact H5 i c s h
  obtain⟨a,b⟩:=E4 l i Z.1;exact⟨a,λp Y=>(Z.2 p Y).trans (b p Y)⟩
theorem Sf(i:Nat)(l:List UInt8)(h:Oe (r.P i)):Oe ((r.recv i l).P i)/\∀p,p≠i->kg r (r.recv i l) p:=by
 unfold iM.recv;simp only;have Z:∀p,kg r (r.iU i {r.P i with rd:=(kx (r.P i).rd l).2.2}) p:=λp=>kg.iU r i {r.P i with rd:=(kx (r.P i).rd l).2.2} rfl rfl p;obtain⟨a,b⟩:=E4 (kx (r.P i).rd l).1 (r:=r.iU i {r.P i with rd:=(kx (r.P i).rd l).2.2}) i (h.congr (Z i).1 (Z i).2);exact⟨a,λp Y=>(Z p).trans (b p Y)⟩
theorem V5(r:iM)(i p:Nat):kg r (r.recv i []) p:=kg.iU r i _ rfl rfl p
theorem sN(p:jw):p.tick.L=(jd p.L).1:=by
 unfold jw.tick;rw[E3]
theorem H6 {up:Bool} (i:Nat)(h:pj up (r.P i)):pj up ((r.iV i).P i)/\∀p,p≠i->kg r (r.iV i) p:=by
 have Q:((jb r i).P i).L=(jd (r.P i).L).1:=by
  show(la r.P i (r.P i).tick i).L=_;rw[jy,sN]
 have U:if up=true then uv ((jb r i).P i).L.st=true else((jb r i).P i).L.st=1:=by
  rw[Q];have:=h.st;split
  ·rename_i X;rw[ai X]at this;exact VZ this
  ·rename_i X;rw[af X]at this;rw[Sd this];exact this
 have T:∀p,p≠i->kg r (jb r i) p:=λp Z=>kg.yQ r _ Z;rw[k7];split
 ·obtain⟨a,b⟩:=zW (jb r i) i nobody;exact⟨⟨by rw[a];exact U,λe=>absurd (by rw[b];rfl) e⟩,λp Z=>(T p Z).trans (kg.qO _ _ Z)⟩
 ·rename_i S
  have Y:((jb r i).P i).L.st=9:=by simpa using S
  have V:∀(x:iM) (p:Nat),kg x (mI x i) p:=λx p=>by
   unfold mI;simp only;refine kg.iU x i _ ?_ ?_ p
   ·split
    ·exact(wL _ _).1.trans (wK _ _ _)
    ·exact wK _ _ _
   ·split
    ·exact(wL _ _).2.trans (rN _ _ _)
    ·exact rN _ _ _
  obtain⟨a,b⟩:=zW (jb r i) i (iI ((jb r i).P i).pe);obtain⟨c,d⟩:=V ((jb r i).meet i (iI ((jb r i).P i).pe)) i;exact⟨⟨by rw[c,a];exact U,λ_=>by rw[c,a];exact Y⟩,λp Z=>(T p Z).trans ((kg.qO _ _ Z).trans (V _ p))⟩
theorem E5 {r:iM} {U:Nat->Bool}:∀q,(∀p,p<q->pj (U p) (r.P p))->(∀p,p<q->pj (U p) ((r.ja q).P p))/\∀p,q<=p->kg r (r.ja q) p
 |0,_=>⟨λp Z=>absurd Z eh,λp _=>kg.refl r p⟩
 |q+1,h=>by
  obtain⟨a,b⟩:=E5 (U:=U) q (λp Z=>h p eh);have Y:=b q (Nat.le_refl q);obtain⟨c,d⟩:=H6 (r:=r.ja q) q ((h q eh).congr Y.1 Y.2);refine⟨λp Z=> ?_,λp Z=>(b p eh).trans (d p eh)⟩;by_cases e:p=q
  ·subst e;exact c
  ·have:=d p e;exact(a p eh).congr this.1 this.2
theorem xx {up:Bool} (i:Nat)(h:pj (!up) (r.P i)):pj up ((r.iL i up).1.P i)/\(r.iL i up).2=0/\∀p,p≠i->kg r (r.iL i up).1 p:=by
 have Y:(kY (r.P i).L (if up=true then 0 else 1)).2.2=0/\(if up=true then uv (kY (r.P i).L (if up=true then 0 else 1)).1.st=true else(kY (r.P i).L (if up=true then 0 else 1)).1.st=1):=by
  cases up
  ·exact tG (pj.up.1 h).1
  ·exact Ef (by simpa using h.st)
 have e:(r.P i).iL up=(({r.P i with L:=(kY (r.P i).L (if up=true then 0 else 1)).1,rd:=([],false,false)}:jw).say (kY (r.P i).L (if up=true then 0 else 1)).2.1,0):=by
  unfold jw.iL;simp only;rw[af (by simp[Y.1])]
 unfold iM.iL;rw[e];simp only;rw[af gY];obtain⟨x,hx⟩:=gg (({r.P i with L:=(kY (r.P i).L (if up=true then 0 else 1)).1,rd:=([],false,false)}:jw).say (kY (r.P i).L (if up=true then 0 else 1)).2.1);have Z:x.L=(kY (r.P i).L (if up=true then 0 else 1)).1:=by rw[<-hx,E3]
 rw[hx];obtain⟨a,b⟩:=zW (r.iU i x) i nobody;have c:((r.iU i x).P i)=x:=by show la r.P i x i=x;exact jy _ _ _
 refine⟨⟨by rw[a,c,Z];exact Y.2,λe=>absurd (by rw[b];rfl) e⟩,rfl,λp X=>(kg.yQ r _ X).trans (kg.qO _ _ X)⟩
structure GN(y:iP):Prop where
 ends:∀c d,c<y.nc->d<2->pj (y.C c).iQ ((y.R ((y.C c).e d).1).P ((y.C c).e d).2)
 off:∀c d,c<y.nc->d<2->(y.C c).iQ=false->(y.C c).on d=[]
structure Ends(y:iP):Prop where
 ds:∀c d c' d',c<y.nc->d<2->c'<y.nc->d'<2->(y.C c).e d=(y.C c').e d'->c=c'/\d=d'
 p3:∀c d,c<y.nc->d<2->((y.C c).e d).2<3
 rn:∀i,(y.R i).n=3 \/y.n<=i
 en:∀c d,c<y.nc->d<2->((y.C c).e d).1<y.n
theorem j3.oI {k:Nat} (h:j3 y D k):Ends y:=⟨h.ds,λc d hc hd=>(h.en c d hc hd).2,λi=>by
 by_cases e:i<y.n
 ·exact .inl (h.rn i e).1
 ·exact .inr eh,λc d hc hd=>(h.en c d hc hd).1⟩
theorem GN.alike {y':iP} (h:GN y)(Y:y'.nc=y.nc)(hC:∀c,c<y.nc->(y'.C c).e=(y.C c).e/\(y'.C c).iQ=(y.C c).iQ/\((y.C c).iQ=false->∀d,d<2->(y'.C c).on d=[]))
 (Z:∀i p,kg (y.R i) (y'.R i) p):GN y':=by
 refine⟨λc d hc hd=> ?_,λc d hc hd hf=> ?_⟩
 ·rw[Y]at hc;rw[(hC c hc).1,(hC c hc).2.1];exact(h.ends c d hc hd).congr (Z _ _).1 (Z _ _).2
 ·rw[Y]at hc;rw[(hC c hc).2.1]at hf;exact(hC c hc).2.2 hf d hd
theorem H7(h:GN y)(c d:Nat)(hc:c<y.nc):GN (y.kZ c d):=by
 obtain⟨s1,X,s3,s4,Z⟩:=mW y c d;refine h.alike X (λx hx=>⟨(Z x).1,(Z x).2,λhf e Y=> ?_⟩) (λi p=> ?_)
 ·show(if x=c then(y.C c).put d _ else y.C x).on e=[]
  by_cases ex:x=c
  ·rw[ai ex];subst ex;unfold qA.put;rw[af (by simp[hf])];exact h.off x e hx Y hf
  ·rw[af ex];exact h.off x e hx Y hf
 ·unfold kg;rw[Bh];split<;>exact⟨rfl,rfl⟩
theorem H8 {y:iP} (h:GN y):∀k,k<=y.nc->GN (y.j2 k)
 |0,_=>h
 |k+1,hk=>by
  have Y:=H8 h k eh;have Z:(y.j2 k).nc=y.nc:=(j4 y k).2.1;exact H7 (H7 Y k 0 (by rw[Z];omega)) k 1 (by show k<(y.j2 k).nc;rw[Z];omega)
theorem GN.gather {y:iP} (h:GN y):GN y.gather:=by
 unfold iP.gather;have Y:=H8 h y.nc (Nat.le_refl _);obtain⟨e1,X,e3,Z⟩:=nY (y.j2 y.nc) y.n;refine Y.alike X (λc hc=>⟨by rw[Z],by rw[Z],λhf d hd=>by rw[Z];exact Y.off c d hc hd hf⟩) (λi p=> ?_);rw[(wH (y.j2 y.nc) i y.n).1];split<;>exact⟨rfl,rfl⟩
theorem GN.jB {y:iP} (h:GN y)(i:Nat)(r:iM)(Z:∀c d,c<y.nc->d<2->((y.C c).e d).1=i->pj (y.C c).iQ ((y.R i).P ((y.C c).e d).2)->pj (y.C c).iQ (r.P ((y.C c).e d).2)):GN (y.jB i r):=by
 refine⟨λc d hc hd=> ?_,h.off⟩;show pj (y.C c).iQ ((jU y.R i r ((y.C c).e d).1).P ((y.C c).e d).2);by_cases e:((y.C c).e d).1=i
 ·rw[e,iE];exact Z c d hc hd e (by have:=h.ends c d hc hd;rw[e]at this;exact this)
 ·rw[iC _ _ e];exact h.ends c d hc hd
theorem GN.jb(h:GN y)(X:Ends y)(pT:∀i p,i<y.n->p<3->(∀c d,c<y.nc->d<2->(y.C c).e d≠(i,p))->Idle ((y.R i).P p))(i:Nat)(hi:i<y.n):GN (y.jB i (y.R i).tick):=by
 classical
 have j:(y.R i).n=3:=(X.rn i).resolve_right eh;obtain⟨U,G⟩:∃U:Nat->Bool,∀c d,c<y.nc->d<2->((y.C c).e d).1=i->U ((y.C c).e d).2=(y.C c).iQ:=by
  refine⟨λp=>if h:∃c d,c<y.nc/\d<2/\(y.C c).e d=(i,p)then(y.C h.choose).iQ else false,λc d hc hd Z=> ?_⟩;have hex:∃c' d',c'<y.nc/\d'<2/\(y.C c').e d'=(i,((y.C c).e d).2):=⟨c,d,hc,hd,by rw[<-Z]⟩
  show(if h:∃c' d',c'<y.nc/\d'<2/\(y.C c').e d'=(i,((y.C c).e d).2)then(y.C h.choose).iQ else false)=_;rw[dif_pos hex];obtain⟨d',jX,u,E⟩:=hex.choose_spec;have:=(X.ds _ _ _ _ jX u hc hd (E.trans (by rw[<-Z]))).1;rw[this]
 have hP:∀p,p<3->pj (U p) ((y.R i).P p) \/ ∀c d,c<y.nc->d<2->(y.C c).e d≠(i,p):=λp _=>by
  by_cases hex:∃c d,c<y.nc/\d<2/\(y.C c).e d=(i,p)
  ·obtain⟨c,d,hc,hd,Z⟩:=hex;refine .inl ?_;have Y:=h.ends c d hc hd;have Q:=G c d hc hd (by rw[Z]);rw[Z]at Y Q;rw[Q];exact Y
  ·exact .inr λc d hc hd Z=>hex ⟨c,d,hc,hd,Z⟩
 obtain⟨V,M⟩:∃V:Nat->Bool,V=λp=>if h:∃c d,c<y.nc/\d<2/\(y.C c).e d=(i,p)then U p else false:=⟨_,rfl⟩
 have S:∀p,p<3->pj (V p) ((y.R i).P p):=λp J=>by
  rw[M];show pj (if h:∃c d,c<y.nc/\d<2/\(y.C c).e d=(i,p)then U p else false) _;by_cases hex:∃c d,c<y.nc/\d<2/\(y.C c).e d=(i,p)
  ·rw[dif_pos hex];refine(hP p J).resolve_right (λhn=> ?_);obtain⟨c,d,hc,hd,Z⟩:=hex;exact hn c d hc hd Z
  ·rw[dif_neg hex];have H:=pT i p hi J (λc d hc hd Z=>hex ⟨c,d,hc,hd,Z⟩);exact⟨by simpa using H.st,λe=>absurd (by rw[H.pe];rfl) e⟩
 have A:=(E5 (r:=y.R i) (U:=V) 3 S).1;refine h.jB i _ (λc d hc hd Z _=> ?_);have T:=X.p3 c d hc hd;have Y:=A ((y.C c).e d).2 T;have hex:∃c' d',c'<y.nc/\d'<2/\(y.C c').e d'=(i,((y.C c).e d).2):=⟨c,d,hc,hd,by rw[<-Z]⟩
 have hv:V ((y.C c).e d).2=(y.C c).iQ:=by
  rw[M];show(if h:∃c' d',c'<y.nc/\d'<2/\(y.C c').e d'=(i,((y.C c).e d).2)then U ((y.C c).e d).2 else false)=_;rw[dif_pos hex];exact G c d hc hd Z
 rw[hv]at Y;show pj _ (((y.R i).ja (y.R i).n).P _);rw[j];exact Y
theorem GN.jo {y:iP} (h:GN y)(M:Ends y)(c d k:Nat)(hc:c<y.nc)(hd:d<2):GN (y.jo c d k):=by
 have J:GN (y.lq c {y.C c with on:=jU (y.C c).on d (((y.C c).on d).drop k)}):=by
  refine h.alike rfl (λx hx=> ?_) (λi p=>kg.refl _ _);show(if x=c then _ else y.C x).e=_/\(if x=c then _ else y.C x).iQ=_/\(_->∀d',d'<2->(if x=c then _ else y.C x).on d'=[])
  by_cases e:x=c
  ·rw[ai e];subst e;refine⟨rfl,rfl,λhf d' Z=> ?_⟩;show jU (y.C x).on d _ d'=[]
   by_cases S:d'=d
   ·subst S;rw[iE,h.off x d' hx Z hf];simp
   ·rw[iC _ _ S];exact h.off x d' hx Z hf
  ·rw[af e];exact⟨rfl,rfl,λhf d' Z=>h.off x d' hx Z hf⟩
 have U:∀x,((y.lq c {y.C c with on:=jU (y.C c).on d (((y.C c).on d).drop k)}).C x).e=(y.C x).e/\((y.lq c {y.C c with on:=jU (y.C c).on d (((y.C c).on d).drop k)}).C x).iQ=(y.C x).iQ:=λx=>by
  show(if x=c then _ else y.C x).e=_/\(if x=c then _ else y.C x).iQ=_;by_cases e:x=c
  ·rw[ai e];subst e;exact⟨rfl,rfl⟩
  ·rw[af e];exact⟨rfl,rfl⟩
 refine J.jB _ _ (λx d' hx Z T V=> ?_);rw[(U x).1]at T V⊢;rw[(U x).2]at V⊢;have Q:x<y.nc:=hx;have Y:pj (y.C x).iQ ((y.R ((y.C c).e (1-d)).1).P ((y.C x).e d').2):=V;by_cases X:(y.C c).iQ=true
 ·have H:Oe ((y.R ((y.C c).e (1-d)).1).P ((y.C c).e (1-d)).2):=by
   have:=h.ends c (1-d) hc eh;rw[X]at this;exact pj.up.1 this
  obtain⟨a,b⟩:=Sf ((y.C c).e (1-d)).2 (((y.C c).on d).take k) H;by_cases e:((y.C x).e d').2=((y.C c).e (1-d)).2
  ·have:=(M.ds x d' c (1-d) Q Z hc eh (by rw[cN];exact⟨T,e⟩)).1;rw[e,this,X];exact pj.up.2 a
  ·exact Y.congr (b _ e).1 (b _ e).2
 ·have hf:(y.C c).iQ=false:=by simpa using X
  rw[h.off c d hc hd hf];have:=V5 (y.R ((y.C c).e (1-d)).1) ((y.C c).e (1-d)).2 ((y.C x).e d').2;rw[List.take_nil];exact Y.congr this.1 this.2
theorem GN.jZ {y:iP} (h:GN y)(E:Ends y)(c:Nat)(up:Bool)(hc:c<y.nc)(hu:(y.C c).iQ= !up):GN (y.jZ c up):=by
 obtain⟨Z,H⟩:=gg ((y.C c).e 0);obtain⟨Y,S⟩:=gg ((y.C c).e 1);have ju:Z≠Y:=λe=>by
  have:=(E.ds c 0 c 1 hc eh hc eh (by rw[H,S,e])).2;omega
 have h0:=h.ends c 0 hc eh;have h1:=h.ends c 1 hc eh;rw[H,hu]at h0;rw[S,hu]at h1;obtain⟨a0,_,b0⟩:=xx Z.2 h0;obtain⟨X,G⟩:∃X:qA,X={y.C c with iQ:=up,on:=λ_=>[] }:=⟨_,rfl⟩
 have T:X.e=(y.C c).e:=by rw[G]
 have A:X.iQ=up:=by rw[G]
 have u:∀d,X.on d=[] :=λd=>by rw[G]
 have hf:∀(z:iP) (d:Nat) (e:Nat×Nat),(z.C c).e d=e->z.mT c d up=z.jB e.1 ((z.R e.1).iL e.2 up).1:=by
  intro z d e he;unfold iP.mT;rw[he]
 have J:(y.lq c X).C c=X:=iE _ _ _;have hp:y.jZ c up=((y.lq c X).jB Z.1 ((y.R Z.1).iL Z.2 up).1).jB Y.1 ((jU y.R Z.1 ((y.R Z.1).iL Z.2 up).1 Y.1).iL Y.2 up).1:=by
  unfold iP.jZ;rw[<-G,hf (y.lq c X) 0 Z (by rw[J,T,H]),hf _ 1 Y (by show((y.lq c X).C c).e 1=Y;rw[J,T,S])];rfl
 obtain⟨r1,j⟩:=gg (jU y.R Z.1 ((y.R Z.1).iL Z.2 up).1 Y.1);have U:∀p,(Y.1,p)≠Z->kg (y.R Y.1) r1 p:=λp oP=>by
  rw[<-j];by_cases e:Y.1=Z.1
  ·rw[e,iE];exact b0 p (λV=>oP (by rw[cN];exact⟨e,V⟩))
  ·rw[iC _ _ e];exact kg.refl _ _
 have adb:pj (!up) (r1.P Y.2):=h1.congr (U Y.2 (λe=>ju e.symm)).1 (U Y.2 (λe=>ju e.symm)).2;obtain⟨a1,_,b1⟩:=xx Y.2 adb;rw[hp,j];have agL:∀i p,pj up ((jU (jU y.R Z.1 ((y.R Z.1).iL Z.2 up).1) Y.1 (r1.iL Y.2 up).1 i).P p) \/((i,p)≠Z/\(i,p)≠Y):=λi p=>by
  by_cases x1:(i,p)=Y
  ·left;rw[<-x1]at a1⊢;rw[iE];exact a1
  ·by_cases x0:(i,p)=Z
   ·left;by_cases e:i=Y.1
    ·rw[e,iE];have M:p≠Y.2:=λV=>x1 (by rw[cN];exact⟨e,V⟩);have hr:r1.P p=((y.R Z.1).iL Z.2 up).1.P Z.2:=by
      rw[<-j,<-e,<-x0,iE]
     exact(a0.congr (by rw[hr]) (by rw[hr]):pj up (r1.P p)).congr (b1 p M).1 (b1 p M).2
    ·rw[iC _ _ e,<-x0,iE];rw[<-x0]at a0;exact a0
   ·exact .inr ⟨x0,x1⟩
 have kr:∀i p,(i,p)≠Z->(i,p)≠Y->kg (y.R i) (jU (jU y.R Z.1 ((y.R Z.1).iL Z.2 up).1) Y.1 (r1.iL Y.2 up).1 i) p:=λi p x0 x1=>by
  by_cases e:i=Y.1
  ·subst e;rw[iE];exact(U p x0).trans (b1 p (λV=>x1 (by rw[cN];exact⟨rfl,V⟩)))
  ·rw[iC _ _ e];by_cases e':i=Z.1
   ·subst e';rw[iE];exact b0 p (λV=>x0 (by rw[cN];exact⟨rfl,V⟩))
   ·rw[iC _ _ e'];exact kg.refl _ _
 refine⟨λx d hx hd=> ?_,λx d hx hd hf=> ?_⟩
 ·show pj ((if x=c then X else y.C x):qA).iQ ((jU (jU y.R Z.1 ((y.R Z.1).iL Z.2 up).1) Y.1 (r1.iL Y.2 up).1 (((if x=c then X else y.C x):qA).e d).1).P (((if x=c then X else y.C x):qA).e d).2);have vC:x<y.nc:=hx;by_cases e:x=c
  ·rw[ai e,T,A];refine(agL _ _).resolve_right (λhn=> ?_);have:d=0 \/d=1:=eh;rcases this with rfl|rfl
   ·exact hn.1 H
   ·exact hn.2 S
  ·rw[af e];have n0:(y.C x).e d≠Z:=λV=>e (E.ds x d c 0 vC hd hc eh (by rw[H];exact V)).1;have n1:(y.C x).e d≠Y:=λV=>e (E.ds x d c 1 vC hd hc eh (by rw[S];exact V)).1;have:=kr ((y.C x).e d).1 ((y.C x).e d).2 n0 n1;exact(h.ends x d vC hd).congr this.1 this.2
 ·have Q:((if x=c then X else y.C x):qA).iQ=false:=hf;show((if x=c then X else y.C x):qA).on d=[]
  by_cases e:x=c
  ·rw[ai e];exact u d
  ·rw[af e]at Q⊢;exact h.off x d hx hd Q
theorem Ends.jZ {y:iP} (h:Ends y)(c:Nat)(up:Bool):Ends (y.jZ c up):=by
 obtain⟨g1,X,g3,g4,Y⟩:=pD y c up;refine⟨λa d a' d' Z hd ha' T e=> ?_,λa d Z hd=> ?_,λi=> ?_,λa d Z hd=> ?_⟩
 ·rw[(Y a).1,(Y a').1]at e;rw[X]at Z ha';exact h.ds a d a' d' Z hd ha' T e
 ·rw[(Y a).1];rw[X]at Z;exact h.p3 a d Z hd
 ·have U:∀(x:iP) (d:Nat),(∀i,(x.R i).n=3 \/x.n<=i)->∀i,((x.mT c d up).R i).n=3 \/(x.mT c d up).n<=i:=λx d hx i=>by
   show(jU x.R ((x.C c).e d).1 _ i).n=3 \/x.n<=i;by_cases e:i=((x.C c).e d).1
   ·rw[e,iE,(jH.iL _ _ up).n];exact hx _
   ·rw[iC _ _ e];exact hx i
  unfold iP.jZ;obtain⟨V,S⟩:∃V:qA,V={y.C c with iQ:=up,on:=λ_=>[] }:=⟨_,rfl⟩
  rw[<-S];exact U _ 1 (U (y.lq c V) 0 h.rn) i
 ·rw[(Y a).1,g1];rw[X]at Z;exact h.en a d Z hd
theorem GN.jL(up:Bool):∀(l:List Nat) {y:iP},GN y->Ends y->l.Nodup->(∀c∈l,c<y.nc/\(y.C c).iQ= !up)->GN (y.jL up l)/\Ends (y.jL up l)/\∀x,((y.jL up l).C x).iQ=if x∈l then up else(y.C x).iQ
 |[],y,h,hE,_,_=>⟨h,hE,λx=>by simp[iP.jL]⟩
 |c::l,y,h,hE,xy,hl=>by
  obtain⟨g1,T,g3,g4,X⟩:=pD y c up;have hc:=hl c gY;have V:=br.1 xy;obtain⟨a,b,d⟩:=GN.jL up l (h.jZ hE c up hc.1 hc.2) (hE.jZ c up) V.2 (λx hx=>by
   have U:x≠c:=λe=>V.1 (e▸hx);rw[T,(X x).2,af U];exact hl x (by simp[hx]))
  refine⟨a,b,λx=> ?_⟩;show(((y.jZ c up).jL up l).C x).iQ=_;rw[d x,(X x).2];by_cases Z:x∈l
  ·rw[ai Z,ai (by simp[Z])]
  ·by_cases Y:x=c
   ·rw[af Z,ai Y,ai (by simp[Y])]
   ·rw[af Z,af Y,af (by simp[Z,Y])]
theorem GN.restart {y:iP} {D:Nat} (h:GN y)(H:j3 y D 0)(i:Int):GN (y.restart i).1/\∀x,x<y.nc->((y.restart i).1.C x).iQ=(y.C x).iQ:=by
 unfold iP.restart;split
 ·exact⟨h,λ_ _=>rfl⟩
 ·rename_i hi
  obtain⟨k,hk⟩:=gg ((i-1).toNat);rw[hk];obtain⟨l,hl⟩:=gg (y.lA k);rw[hl];have X:∀c,c∈l↔c<y.nc/\(y.C c).iQ=true/\(((y.C c).e 0).1=k \/((y.C c).e 1).1=k):=λc=>by
   rw[<-hl];unfold iP.lA;simp[ia]
  have S:l.Nodup:=by
   rw[<-hl];exact dv dk bX
  obtain⟨a,b,d⟩:=GN.jL false l h H.oI S (λc hc=>⟨((X c).1 hc).1,((X c).1 hc).2.1⟩);obtain⟨s1,V,M,s4,T⟩:=nj false l y;obtain⟨Z,E⟩:=gg (y.jL false l);rw[E]at a b d s1 V M s4 T⊢;have u:GN (Z.jB k (jN i 3 (y.ms k))):=by
   refine a.jB k _ (λc e hc he heq _=> ?_);have A:c<y.nc:=by rw[V]at hc;exact hc
   have hf:(Z.C c).iQ=false:=by
    rw[d c];by_cases Y:c∈l
    ·rw[ai Y]
    ·rw[af Y];by_cases U:(y.C c).iQ=true
     ·exfalso;rw[T c]at heq;refine Y ((X c).2 ⟨A,U,?_⟩);have:e=0 \/e=1:=eh;rcases this with rfl|rfl
      ·exact .inl heq
      ·exact .inr heq
     ·simpa using U
   rw[hf];have Q:=qL i (y.ms k) ((Z.C c).e e).2;exact⟨by simpa using Q.st,λe=>absurd (by rw[Q.pe];rfl) e⟩
  have b2:Ends (Z.jB k (jN i 3 (y.ms k))):=⟨b.ds,b.p3,λj=>by
   show(jU Z.R k _ j).n=3 \/Z.n<=j;by_cases e:j=k
   ·rw[e,iE];exact .inl rfl
   ·rw[iC _ _ e];exact b.rn j,b.en⟩
  obtain⟨G,_,J⟩:=GN.jL true l u b2 S (λc hc=>⟨by show c<Z.nc;rw[V];exact((X c).1 hc).1,by show(Z.C c).iQ=_;rw[d c,ai hc];rfl⟩);refine⟨G.gather,λx hx=> ?_⟩;rw[((lP _).2.2.2 x).2,J x];show(if x∈l then true else(Z.C x).iQ)=_;rw[d x];by_cases Y:x∈l
  ·rw[ai Y,((X x).1 Y).2.1]
  ·rw[af Y,af Y]
theorem GN.iL {y:iP} {D:Nat} (h:GN y)(Y:j3 y D 0)(i:Int)(up:Bool):GN (y.iL i up).1/\∀x,((y.iL i up).1.C x).iQ=if(x:Int)=i/\x<y.nc then up else(y.C x).iQ:=by
 unfold iP.iL;split
 ·rename_i hi
  exact⟨h,λx=>by rw[af eh]⟩
 ·rename_i hi
  split
  ·rename_i Z
   refine⟨h,λx=> ?_⟩;split
   ·rename_i hx
    have:x=i.toNat:=eh;rw[this,Z]
   ·rfl
  ·rename_i Z
   refine⟨(h.jZ Y.oI i.toNat up eh (by cases hv:(y.C i.toNat).iQ<;>cases up<;>simp_all)).gather,λx=> ?_⟩;rw[((lP _).2.2.2 x).2,((pD y i.toNat up).2.2.2.2 x).2];by_cases e:x=i.toNat
   ·rw[ai e,ai eh]
   ·rw[af e,af eh]
theorem GN.tick {y:iP} {D:Nat} (h:GN y)(Z:j3 y D 0)(i:Int):GN (y.tick i).1/\∀x,((y.tick i).1.C x).iQ=(y.C x).iQ:=by
 unfold iP.tick;split
 ·exact⟨h,λ_=>rfl⟩
 ·exact⟨(h.jb Z.oI Z.idle (i-1).toNat eh).gather,λx=>((lP _).2.2.2 x).2⟩
theorem E6(y:iP)(c d k x:Nat):((y.jo c d k).C x).iQ=(y.C x).iQ:=by
 show((if x=c then _ else y.C x):qA).iQ=_;by_cases e:x=c
 ·rw[ai e];subst e;rfl
 ·rw[af e]
theorem GN.deliver {y:iP} {D:Nat} (h:GN y)(Z:j3 y D 0)(i d m:Int):GN (y.deliver i d m).1/\∀x,((y.deliver i d m).1.C x).iQ=(y.C x).iQ:=by
 unfold iP.deliver;split
 ·exact⟨h,λ_=>rfl⟩
 ·exact⟨(h.jo Z.oI _ _ _ eh eh).gather,λx=>by rw[((lP _).2.2.2 x).2,E6]⟩
theorem GN.send {y:iP} (h:GN y)(f t:Int)(tx:List UInt8):GN (y.send f t tx).1/\∀x,((y.send f t tx).1.C x).iQ=(y.C x).iQ:=by
 unfold iP.send;split
 ·exact⟨h,λ_=>rfl⟩
 ·split
  ·exact⟨h,λ_=>rfl⟩
  ·refine⟨GN.gather (h.jB _ _ (λc d hc hd he Z=> ?_)),λx=>((lP _).2.2.2 x).2⟩;have:∀(r:iM) (p:Nat),kg r (kd r t tx).1 p:=λr p=>by
    unfold kd;split
    ·exact kg.refl r p
    ·exact kg.send r (t,8,tx) p
   exact Z.congr (this _ _).1 (this _ _).2
theorem GN.ja {y:iP} {D:Nat} (h:GN y)(Z:j3 y D 0)(Y:D<=800000000):∀q,q<=6->GN (y.ja q)
 |0,_=>h
 |q+1,hq=>((GN.ja h Z Y q eh).tick (Z.ja Y q eh) ((q:Int)+1)).1
theorem GN.jO {y:iP} {D:Nat} (h:GN y)(Z:j3 y D 0)(X:D<=890000000):∀q,q<=9->GN (y.jO q)
 |0,_=>h
 |q+1,hq=>by
  have Y:=Z.jO X q eh;have V:=GN.jO h Z X q eh;exact((V.deliver Y (q:Int) 0 2000).1.deliver (Y.deliver eh (q:Int) 0 2000) (q:Int) 1 2000).1
theorem GN.turns {y:iP} {D:Nat} (h:GN y)(Z:j3 y D 0)(Y:D<=810000000):∀t,t<=12->GN (y.turns t)
 |0,_=>h
 |t+1,ht=>(GN.turns h Z Y t eh).jO (Z.turns Y t eh) eh y.nc Z.c9
theorem GN.round {y:iP} {D:Nat} (h:GN y)(Z:j3 y D 0)(Y:D<=800000000):GN y.round:=
 (h.ja Z Y y.n Z.n6).turns (Z.ja Y y.n Z.n6) (by have:=Z.n6;omega) 12 (Nat.le_refl _)
def Bp(v:AV):Bool:=v.kind.toList==[112,108,117,103]
theorem GN.act(h:GN y)(Z:j3 y D 0)(V:D<=800000000)(v:AV):GN (tg y v)/\∀x,x<y.nc->((tg y v).C x).iQ=if Bp v=true/\(x:Int)=v.a then v.b==1 else(y.C x).iQ:=by
 unfold tg;by_cases k1:(v.kind.toList==[112,108,117,103])=true
 ·rw[ai k1];obtain⟨a,b⟩:=h.iL Z v.a (v.b==1);refine⟨a,λx hx=> ?_⟩;rw[b x];have Y:Bp v=true:=k1;by_cases e:(x:Int)=v.a
  ·rw[ai ⟨e,hx⟩,ai ⟨Y,e⟩]
  ·rw[af (λh=>e h.1),af (λh=>e h.2)]
 ·rw[af k1];have Y:∀x:Nat,¬(Bp v=true/\(x:Int)=v.a):=λx e=>k1 e.1;have U:∀z:iP,(GN z/\∀x,x<y.nc->(z.C x).iQ=(y.C x).iQ)->GN z/\∀x,x<y.nc->(z.C x).iQ=if Bp v=true/\(x:Int)=v.a then v.b==1 else(y.C x).iQ:=λz X=>⟨X.1,λx hx=>by rw[af (Y x)];exact X.2 x hx⟩
  apply U;split
  ·obtain⟨a,b⟩:=h.tick Z v.a;exact⟨a,λx _=>b x⟩
  ·split
   ·obtain⟨a,b⟩:=h.deliver Z v.a v.b v.c;exact⟨a,λx _=>b x⟩
   ·split
    ·exact h.restart Z v.a
    ·split
     ·obtain⟨a,b⟩:=h.send v.a v.b v.s.data.toList;exact⟨a,λx _=>b x⟩
     ·split
      ·exact⟨h.round Z V,λx _=>((kJ y).2.2.2 x).2⟩
      ·exact⟨h,λ_ _=>rfl⟩
theorem E7(many:Nat)(L:List oV):GN (jQ many L):=by
 refine⟨λc d _ _=> ?_,λc d _ _ _=>rfl⟩;have Z:=qL (((((jQ many L).C c).e d).1:Int)+1) (pg L (((jQ many L).C c).e d).1) (((jQ many L).C c).e d).2;have Y:((jQ many L).R (((jQ many L).C c).e d).1).P (((jQ many L).C c).e d).2=(jN (((((jQ many L).C c).e d).1:Int)+1) 3 (pg L (((jQ many L).C c).e d).1)).P (((jQ many L).C c).e d).2:=rfl;rw[Y];exact⟨by rw[show((jQ many L).C c).iQ=false from rfl,af eA];exact Z.st,λe=>absurd (by
  show((jN _ 3 _).P _).pe.who=0;rw[Z.pe];rfl) e⟩
def yb(p:List UInt8):Prop:=1<=p.length/\p.length<=60
def Frames(l:List UInt8)(ps:List (List UInt8)):Prop:=l=ps.flatMap Plain.lL/\∀p∈ps,yb p
def lH:kC:=([],false,false)
theorem Frames.nil:Frames [] [] :=⟨rfl,λ_ h=>by simp at h⟩
theorem Frames.snoc {l:List UInt8} (h:Frames l ps) {p:List UInt8} (X:yb p):Frames (l++Plain.lL p) (ps++ [p]):=by
 obtain⟨Y,V⟩:=h;refine⟨by rw[Y];simp,λq Z=> ?_⟩;rcases aw.1 Z with e|e
 ·exact V q e
 ·rw[au.1 e];exact X
theorem rA:∀(ps:List (List UInt8)),(∀p∈ps,yb p)->kx lH (ps.flatMap Plain.lL)=(ps,0,lH)
 |[],_=>rfl
 |p::ps,h=>by
  have e:(p::ps).flatMap Plain.lL=Plain.lL p++ps.flatMap Plain.lL:=gY;have Y:kx lH (Plain.lL p)=([p],0,lH):=Nm p (h p gY).2;rw[e,rk,Y];simp only;rw[rA ps (λq Z=>h q (by simp[Z]))];rfl
structure nu(r r':iM):Prop where
 rd:∀p,(r'.P p).rd=(r.P p).rd
 out:∀p ps,Frames (r.P p).out ps->∃qs,Frames (r'.P p).out (ps++qs)
theorem nu.refl(r:iM):nu r r:=⟨λ_=>rfl,λ_ ps h=>⟨[],by simpa using h⟩⟩
theorem nu.trans {a b c:iM} (h:nu a b)(g:nu b c):nu a c:=by
 refine⟨λp=>(g.rd p).trans (h.rd p),λp ps Y=> ?_⟩;obtain⟨q1,Z⟩:=h.out p ps Y;obtain⟨q2,X⟩:=g.out p _ Z;exact⟨q1++q2,by rw[<-aE];exact X⟩
theorem nu.xM(h:r'.P=r.P):nu r r':=⟨λ_=>by rw[h],λ_ ps Z=>⟨[],by rw[h];simpa using Z⟩⟩
structure r7(p q:jw):Prop where
 rd:q.rd=p.rd
 out:∀ps,Frames p.out ps->∃qs,Frames q.out (ps++qs)
theorem r7.refl(p:jw):r7 p p:=⟨rfl,λps h=>⟨[],by simpa using h⟩⟩
theorem r7.trans {a b c:jw} (h:r7 a b)(g:r7 b c):r7 a c:=by
 refine⟨g.rd.trans h.rd,λps X=> ?_⟩;obtain⟨q1,Y⟩:=h.out ps X;obtain⟨q2,Z⟩:=g.out _ Y;exact⟨q1++q2,by rw[<-aE];exact Z⟩
theorem r7.put(p:jw)(c:UInt8)(s:List UInt8):r7 p (p.put c s):=by
 unfold jw.put;split
 ·exact r7.refl p
 ·split
  ·rename_i h
   exact⟨rfl,λps Z=>⟨[c::s],Z.snoc ⟨gY,by simpa using h⟩⟩⟩
  ·exact r7.refl p
theorem r7.say:∀(l:List kM) (p:jw),r7 p (p.say l)
 |[],p=>r7.refl p
 |q::r,p=>by
  refine r7.trans ?_ (r7.say r _);split
  ·exact r7.put _ _ _
  ·exact r7.refl p
theorem r7.kH:∀(l:List (Int×PS)) (p:jw),r7 p (p.kH l)
 |[],p=>r7.refl p
 |q::r,p=>(r7.put p 83 (rb q.1 q.2.1 q.2.2)).trans (r7.kH r _)
theorem r7.agM(p:jw)(L:LS)(l:List kM):r7 p (({p with L:=L}:jw).say l):=by
 have h:r7 p ({p with L:=L}:jw):=⟨rfl,λps h=>⟨[],by simpa using h⟩⟩
 exact h.trans (r7.say l _)
theorem r7.tick(p:jw):r7 p p.tick:=r7.agM p _ _
theorem r7.packet(p:jw)(s:List UInt8):r7 p (p.packet s):=by
 unfold jw.packet;simp only;split
 ·exact r7.agM p _ _
 ·exact r7.refl p
theorem nu.iU(r:iM)(i:Nat) {q:jw} (h:r7 (r.P i) q):nu r (r.iU i q):=by
 refine⟨λp=> ?_,λp ps Z=> ?_⟩
 ·show(la r.P i q p).rd=_;by_cases e:p=i
  ·subst e;rw[jy];exact h.rd
  ·rw[jq _ _ e]
 ·show∃qs,Frames (la r.P i q p).out (ps++qs);by_cases e:p=i
  ·subst e;rw[jy];exact h.out ps Z
  ·rw[jq _ _ e];exact⟨[],by simpa using Z⟩
theorem nu.meet(r:iM)(i:Nat)(q:lD):nu r (r.meet i q):=by
 refine⟨λp=> ?_,λp ps Z=>⟨[],?_⟩⟩
 ·rw[(mV r i q).2.2.2];by_cases e:p=i
  ·subst e;rw[jy]
  ·rw[jq _ _ e]
 ·rw[(mV r i q).2.2.2];by_cases e:p=i
  ·subst e;rw[jy];simpa using Z
  ·rw[jq _ _ e];simpa using Z
theorem nu.send(r:iM)(t:za):nu r (r.send t):=by
 unfold iM.send;split
 ·exact nu.xM rfl
 ·split
  ·exact nu.xM rfl
  ·exact nu.iU _ _ (r7.put _ _ _)
theorem nu.state(r:iM)(i:Nat)(l:List UInt8):nu r (ji r i l):=by
 unfold ji;simp only;split
 ·exact nu.refl r
 ·split
  ·exact nu.xM (oE _ _).2.2.2
  ·split
   ·exact⟨λp=>(nu.iU _ i (r7.put _ _ _)).rd p,λp ps Z=>(nu.iU _ i (r7.put _ _ _)).out p ps Z⟩
   ·exact nu.xM rfl
theorem nu.take(r:iM)(i:Nat)(c:UInt8)(s:List UInt8):nu r (r.take i c s):=by
 rw[lJ];have Z:nu r (j1 r i c s):=by
  unfold j1;split
  ·exact nu.iU _ _ (r7.packet _ _)
  ·exact nu.refl r
 split
 ·exact Z.trans (nu.meet _ _ _)
 ·refine Z.trans ?_;unfold mA;split
  ·split
   ·exact nu.meet _ _ _
   ·exact nu.refl _
  ·split
   ·exact nu.state _ _ _
   ·split
    ·unfold kD;simp only;split<;>exact nu.xM rfl
    ·split
     ·unfold ru;split
      ·exact nu.send _ _
      ·exact nu.refl _
     ·exact nu.refl _
theorem nu.takes:∀(l:List (List UInt8)) (r:iM) (i:Nat),nu r (r.takes i l)
 |[],r,_=>nu.refl r
 |t::l,r,i=>by
  refine nu.trans ?_ (nu.takes l _ i);cases t with
  |nil=>exact nu.refl r
  |cons c s=>exact nu.take r i c s
theorem nu.iV(r:iM)(i:Nat):nu r (r.iV i):=by
 rw[k7];have Z:nu r (jb r i):=nu.iU _ _ (r7.tick _);split
 ·exact Z.trans (nu.meet _ _ _)
 ·refine Z.trans ((nu.meet _ i (iI ((jb r i).P i).pe)).trans ?_);unfold mI;simp only;refine nu.iU _ i ?_;split
  ·exact(r7.put _ _ _).trans (r7.kH _ _)
  ·exact r7.put _ _ _
theorem nu.ja(r:iM):∀q,nu r (r.ja q)
 |0=>nu.refl r
 |q+1=>(nu.ja r q).trans (nu.iV _ _)
theorem nu.kd(r:iM)(t:Int)(tx:List UInt8):nu r (kd r t tx).1:=by
 unfold Rt.kd;split
 ·exact nu.refl r
 ·exact nu.send r (t,8,tx)
theorem H9(r:iM)(i:Nat)(l:List UInt8):((r.recv i l).P i).rd=(kx (r.P i).rd l).2.2/\(∀p,p≠i->((r.recv i l).P p).rd=(r.P p).rd)/\∀p ps,Frames (r.P p).out ps->∃qs,Frames ((r.recv i l).P p).out (ps++qs):=by
 unfold iM.recv;simp only;have h:=nu.takes (kx (r.P i).rd l).1 (r.iU i {r.P i with rd:=(kx (r.P i).rd l).2.2}) i;have Z:∀p,((r.iU i {r.P i with rd:=(kx (r.P i).rd l).2.2}).P p).out=(r.P p).out:=λp=>by
  show(la r.P i _ p).out=_;by_cases e:p=i
  ·subst e;rw[jy]
  ·rw[jq _ _ e]
 refine⟨?_,λp Y=> ?_,λp ps hf=>h.out p ps (by rw[Z];exact hf)⟩
 ·rw[h.rd];show(la r.P i _ i).rd=_;rw[jy]
 ·rw[h.rd];show(la r.P i _ p).rd=_;rw[jq _ _ Y]
theorem Ia {up:Bool} (i:Nat)(h:pj (!up) (r.P i)):(((r.iL i up).1.P i).rd=lH)/\(∀p,p≠i->((r.iL i up).1.P p).rd=(r.P p).rd)/\∀p ps,Frames (r.P p).out ps->∃qs,Frames ((r.iL i up).1.P p).out (ps++qs):=by
 have U:(kY (r.P i).L (if up=true then 0 else 1)).2.2=0:=by
  cases up
  ·exact(tG (pj.up.1 h).1).1
  ·exact(Ef (by simpa using h.st)).1
 have e:(r.P i).iL up=(({r.P i with L:=(kY (r.P i).L (if up=true then 0 else 1)).1,rd:=([],false,false)}:jw).say (kY (r.P i).L (if up=true then 0 else 1)).2.1,0):=by
  unfold jw.iL;simp only;rw[af (by simp[U])]
 unfold iM.iL;rw[e];simp only;rw[af gY];obtain⟨x,hx⟩:=gg (({r.P i with L:=(kY (r.P i).L (if up=true then 0 else 1)).1,rd:=([],false,false)}:jw).say (kY (r.P i).L (if up=true then 0 else 1)).2.1);have X:r7 {r.P i with L:=(kY (r.P i).L (if up=true then 0 else 1)).1,rd:=([],false,false)} x:=by rw[<-hx];exact r7.say _ _
 rw[hx];have Z:=nu.meet (r.iU i x) i nobody;refine⟨?_,λp S=> ?_,λp ps hf=> ?_⟩
 ·rw[Z.rd];show(la r.P i x i).rd=_;rw[jy,X.rd];rfl
 ·rw[Z.rd];show(la r.P i x p).rd=_;rw[jq _ _ S]
 ·by_cases Y:p=i
  ·subst Y;obtain⟨q1,T⟩:=X.out ps hf;obtain⟨q2,V⟩:=Z.out p (ps++q1) (by show Frames (la r.P p x p).out _;rw[jy];exact T);exact⟨q1++q2,by rw[<-aE];exact V⟩
  ·exact Z.out p ps (by show Frames (la r.P i x p).out _;rw[jq _ _ Y];exact hf)
def jW(y:iP)(c d:Nat):kC:=((y.R ((y.C c).e (1-d)).1).P ((y.C c).e (1-d)).2).rd
structure jA(y:iP):Prop where
 q:∀c d,c<y.nc->d<2->(kx (jW y c d) ((y.C c).on d)).2=(0,lH)/\∀p∈(kx (jW y c d) ((y.C c).on d)).1,yb p
 o:∀i p,∃ps,Frames ((y.R i).P p).out ps
theorem jA.kZ {y:iP} (h:jA y)(c d:Nat)(_hc:c<y.nc):jA (y.kZ c d):=by
 have Y:∀i p,(((y.kZ c d).R i).P p).rd=((y.R i).P p).rd:=λi p=>by
  rw[Bh];split<;>rfl
 have J:∀x,((y.kZ c d).C x).e=(y.C x).e:=λx=>((mW y c d).2.2.2.2 x).1;have E:∀x e,jW (y.kZ c d) x e=jW y x e:=λx e=>by
  unfold jW;rw[J,Y]
 refine⟨λx e hx M=> ?_,λi p=> ?_⟩
 ·have Q:x<y.nc:=hx;rw[E];have G:((y.kZ c d).C x).on e=(y.C x).on e \/(x=c/\e=d/\((y.kZ c d).C x).on e=(y.C x).on e++((y.R ((y.C c).e d).1).P ((y.C c).e d).2).out):=by
   show((if x=c then(y.C c).put d _ else y.C x):qA).on e=_ \/(x=c/\e=d/\((if x=c then(y.C c).put d _ else y.C x):qA).on e=_);by_cases ex:x=c
   ·rw[ai ex];subst ex;unfold qA.put;split
    ·show jU (y.C x).on d _ e=_ \/(x=x/\e=d/\jU (y.C x).on d _ e=_);by_cases ed:e=d
     ·subst ed;rw[iE];exact .inr ⟨rfl,rfl,rfl⟩
     ·rw[iC _ _ ed];exact .inl rfl
    ·exact .inl rfl
   ·rw[af ex];exact .inl rfl
  obtain⟨T,S⟩:=h.q x e Q M;rcases G with X|⟨_,_,X⟩
  ·rw[X];exact⟨T,S⟩
  ·obtain⟨ps,V,Z⟩:=h.o ((y.C c).e d).1 ((y.C c).e d).2;rw[X,rk,T,V,rA ps Z];refine⟨rfl,λp H=> ?_⟩;rcases aw.1 H with U|U
   ·exact S p U
   ·exact Z p U
 ·rw[Bh];split
  ·exact⟨[],Frames.nil⟩
  ·exact h.o i p
theorem jA.j2 {y:iP} (h:jA y):∀k,k<=y.nc->jA (y.j2 k)
 |0,_=>h
 |k+1,hk=>by
  have Y:=jA.j2 h k eh;have Z:(y.j2 k).nc=y.nc:=(j4 y k).2.1;exact(Y.kZ k 0 (by rw[Z];omega)).kZ k 1 (by show k<(y.j2 k).nc;rw[Z];omega)
theorem jA.gather {y:iP} (h:jA y):jA y.gather:=by
 unfold iP.gather;have Z:=h.j2 y.nc (Nat.le_refl _);obtain⟨e1,V,e3,X⟩:=nY (y.j2 y.nc) y.n;have Y:∀i,(((y.j2 y.nc).mZ y.n).R i).P=((y.j2 y.nc).R i).P:=λi=>by
  rw[(wH (y.j2 y.nc) i y.n).1];split<;>rfl
 refine⟨λc d hc hd=> ?_,λi p=>by rw[Y];exact Z.o i p⟩;have hf:jW ((y.j2 y.nc).mZ y.n) c d=jW (y.j2 y.nc) c d:=by
  unfold jW;rw[X,Y]
 rw[hf,X];exact Z.q c d (by rw[V]at hc;exact hc) hd
theorem jA.jB {y:iP} (h:jA y)(i:Nat) {r:iM} (Z:nu (y.R i) r):jA (y.jB i r):=by
 refine⟨λc d hc hd=> ?_,λj p=> ?_⟩
 ·have hf:jW (y.jB i r) c d=jW y c d:=by
   show((jU y.R i r ((y.C c).e (1-d)).1).P ((y.C c).e (1-d)).2).rd=((y.R ((y.C c).e (1-d)).1).P ((y.C c).e (1-d)).2).rd;by_cases e:((y.C c).e (1-d)).1=i
   ·rw[e,iE];exact Z.rd _
   ·rw[iC _ _ e]
  rw[hf];exact h.q c d hc hd
 ·show∃ps,Frames ((jU y.R i r j).P p).out ps;by_cases e:j=i
  ·subst e;rw[iE];obtain⟨ps,Y⟩:=h.o j p;obtain⟨qs,X⟩:=Z.out p ps Y;exact⟨_,X⟩
  ·rw[iC _ _ e];exact h.o j p
theorem jA.jo {y:iP} (h:jA y)(H:Ends y)(c d k:Nat)(hc:c<y.nc)(hd:d<2):jA (y.jo c d k):=by
 obtain⟨i,hi⟩:=gg (((y.C c).e (1-d)).1);obtain⟨p,Y⟩:=gg (((y.C c).e (1-d)).2);obtain⟨r1,r2,G⟩:=H9 (y.R i) p (((y.C c).on d).take k);have Z:∀x,((y.jo c d k).C x).e=(y.C x).e:=λx=>((ry y c d k).2.2.2 x).1;have X:∀j,(y.jo c d k).R j=jU y.R i ((y.R i).recv p (((y.C c).on d).take k)) j:=λj=>by
  unfold iP.jo;rw[hi,Y];rfl
 have E:∀x e,((y.jo c d k).C x).on e=if x=c/\e=d then((y.C c).on d).drop k else(y.C x).on e:=λx e=>by
  show((if x=c then {y.C c with on:=jU (y.C c).on d (((y.C c).on d).drop k)}else y.C x):qA).on e=_;by_cases ex:x=c
  ·rw[ai ex];show jU (y.C c).on d _ e=_;by_cases ed:e=d
   ·rw[ed,iE,ai ⟨ex,rfl⟩]
   ·rw[iC _ _ ed,af (λh=>ed h.2),ex]
  ·rw[af ex,af (λh=>ex h.1)]
 refine⟨λx e hx he=> ?_,λj s=> ?_⟩
 ·have Q:x<y.nc:=hx;rw[E];by_cases U:x=c/\e=d
  ·obtain⟨rfl,rfl⟩:=U;rw[ai ⟨rfl,rfl⟩];have hf:jW (y.jo x e k) x e=(kx (jW y x e) (((y.C x).on e).take k)).2.2:=by
    unfold jW;rw[Z,X,hi,Y,iE];exact r1
   obtain⟨T,M⟩:=h.q x e hc hd;have J:=rk (jW y x e) (((y.C x).on e).take k) (((y.C x).on e).drop k);rw[cK]at J;rw[J]at T M;rw[hf];refine⟨?_,λq S=>M q (aw.2 (.inr S))⟩;have ha:=congrArg ic T;have hb:=congrArg ig T;simp only at ha hb;exact aV (by show _=0;omega) hb
  ·rw[af U];have u:(y.C x).e (1-e)≠(i,p):=λe2=>U (by
    have:=H.ds x (1-e) c (1-d) Q eh hc eh (by rw[e2,<-hi,<-Y]);exact⟨this.1,eh⟩)
   have hf:jW (y.jo c d k) x e=jW y x e:=by
    unfold jW;rw[Z,X];by_cases V:((y.C x).e (1-e)).1=i
    ·rw[V,iE];exact r2 _ (λA=>u (by rw[cN];exact⟨V,A⟩))
    ·rw[iC _ _ V]
   rw[hf];exact h.q x e Q he
 ·rw[X];by_cases e:j=i
  ·subst e;rw[iE];obtain⟨ps,uF⟩:=h.o j s;obtain⟨qs,S⟩:=G s ps uF;exact⟨_,S⟩
  ·rw[iC _ _ e];exact h.o j s
theorem jA.jZ {y:iP} (h:jA y)(hG:GN y)(hE:Ends y)(c:Nat)(up:Bool)(hc:c<y.nc)(hu:(y.C c).iQ= !up):jA (y.jZ c up):=by
 obtain⟨Z,H⟩:=gg ((y.C c).e 0);obtain⟨Y,S⟩:=gg ((y.C c).e 1);have ju:Z≠Y:=λe=>by
  have:=(hE.ds c 0 c 1 hc eh hc eh (by rw[H,S,e])).2;omega
 have h0:=hG.ends c 0 hc eh;have A:=hG.ends c 1 hc eh;rw[H,hu]at h0;rw[S,hu]at A;obtain⟨X,uM⟩:∃X:qA,X={y.C c with iQ:=up,on:=λ_=>[] }:=⟨_,rfl⟩
 have U:X.e=(y.C c).e:=by rw[uM]
 have cbo:∀d,X.on d=[] :=λd=>by rw[uM]
 have hf:∀(z:iP) (d:Nat) (e:Nat×Nat),(z.C c).e d=e->z.mT c d up=z.jB e.1 ((z.R e.1).iL e.2 up).1:=by
  intro z d e he;unfold iP.mT;rw[he]
 have J:(y.lq c X).C c=X:=iE _ _ _;have hp:y.jZ c up=((y.lq c X).jB Z.1 ((y.R Z.1).iL Z.2 up).1).jB Y.1 ((jU y.R Z.1 ((y.R Z.1).iL Z.2 up).1 Y.1).iL Y.2 up).1:=by
  unfold iP.jZ;rw[<-uM,hf (y.lq c X) 0 Z (by rw[J,U,H]),hf _ 1 Y (by show((y.lq c X).C c).e 1=Y;rw[J,U,S])];rfl
 obtain⟨r1,G⟩:=gg (jU y.R Z.1 ((y.R Z.1).iL Z.2 up).1 Y.1);obtain⟨a1,a2,a3⟩:=Ia Z.2 h0;obtain⟨_,_,b0⟩:=xx Z.2 h0;have adb:pj (!up) (r1.P Y.2):=by
  rw[<-G];by_cases e:Y.1=Z.1
  ·rw[e,iE];have Q:Y.2≠Z.2:=λM=>ju (by rw[cN];exact⟨e.symm,M.symm⟩);rw[e]at A;exact A.congr (b0 _ Q).1 (b0 _ Q).2
  ·rw[iC _ _ e];exact A
 obtain⟨c1,c2,c3⟩:=Ia Y.2 adb;rw[hp,G];obtain⟨R2,E⟩:=gg (jU (jU y.R Z.1 ((y.R Z.1).iL Z.2 up).1) Y.1 (r1.iL Y.2 up).1);have hrd:∀i p,((R2 i).P p).rd=if(i,p)=Z \/(i,p)=Y then lH else((y.R i).P p).rd:=λi p=>by
  rw[<-E];by_cases x1:i=Y.1
  ·rw[x1,iE];by_cases u:p=Y.2
   ·rw[u,ai (.inr rfl)];exact c1
   ·rw[c2 p u,<-G];by_cases x0:Y.1=Z.1
    ·rw[x0,iE];by_cases T:p=Z.2
     ·rw[T,ai (.inl rfl)];exact a1
     ·rw[a2 p T,af];rintro(e|e)
      ·exact T (congrArg ig e)
      ·exact u (congrArg ig e)
    ·rw[iC _ _ x0,af];rintro(e|e)
     ·exact x0 (by have V:=congrArg ic e;exact V)
     ·exact u (congrArg ig e)
  ·rw[iC _ _ x1];by_cases x0:i=Z.1
   ·rw[x0,iE];by_cases T:p=Z.2
    ·rw[T,ai (.inl rfl)];exact a1
    ·rw[a2 p T,af];rintro(e|e)
     ·exact T (congrArg ig e)
     ·exact x1 (x0.trans (by have V:=congrArg ic e;exact V))
   ·rw[iC _ _ x0,af];rintro(e|e)
    ·exact x0 (by have V:=congrArg ic e;exact V)
    ·exact x1 (by have V:=congrArg ic e;exact V)
 have Ms:∀i p,∃ps,Frames ((R2 i).P p).out ps:=λi p=>by
  rw[<-E];have hA:∀j s,∃ps,Frames ((jU y.R Z.1 ((y.R Z.1).iL Z.2 up).1 j).P s).out ps:=λj s=>by
   by_cases x0:j=Z.1
   ·rw[x0,iE];obtain⟨ps,uF⟩:=h.o Z.1 s;obtain⟨qs,hq⟩:=a3 s ps uF;exact⟨_,hq⟩
   ·rw[iC _ _ x0];exact h.o j s
  by_cases x1:i=Y.1
  ·rw[x1,iE];obtain⟨ps,uF⟩:=hA Y.1 p;rw[G]at uF;obtain⟨qs,hq⟩:=c3 p ps uF;exact⟨_,hq⟩
  ·rw[iC _ _ x1];exact hA i p
 refine⟨λx d hx hd=> ?_,λi p=> ?_⟩
 ·have vC:x<y.nc:=hx;show(kx (((jU (jU y.R Z.1 ((y.R Z.1).iL Z.2 up).1) Y.1 (r1.iL Y.2 up).1 ((((if x=c then X else y.C x):qA).e (1-d)).1)).P (((if x=c then X else y.C x):qA).e (1-d)).2).rd) (((if x=c then X else y.C x):qA).on d)).2=(0,lH)/\∀p∈(kx (((jU (jU y.R Z.1 ((y.R Z.1).iL Z.2 up).1) Y.1 (r1.iL Y.2 up).1 ((((if x=c then X else y.C x):qA).e (1-d)).1)).P (((if x=c then X else y.C x):qA).e (1-d)).2).rd) (((if x=c then X else y.C x):qA).on d)).1,yb p;rw[E,hrd];by_cases e:x=c
  ·rw[ai e,U,cbo];have rL:(((y.C c).e (1-d)).1,((y.C c).e (1-d)).2)=Z \/(((y.C c).e (1-d)).1,((y.C c).e (1-d)).2)=Y:=by
    have:d=0 \/d=1:=eh;rcases this with rfl|rfl
    ·exact .inr S
    ·exact .inl H
   rw[ai rL];exact⟨rfl,λp hp=>by simp[kx]at hp⟩
  ·rw[af e];have n0:¬((((y.C x).e (1-d)).1,((y.C x).e (1-d)).2)=Z \/(((y.C x).e (1-d)).1,((y.C x).e (1-d)).2)=Y):=by
    rintro(M|M)
    ·exact e (hE.ds x (1-d) c 0 vC eh hc eh (by rw[H];exact M)).1
    ·exact e (hE.ds x (1-d) c 1 vC eh hc eh (by rw[S];exact M)).1
   rw[af n0];exact h.q x d vC hd
 ·show∃ps,Frames ((jU (jU y.R Z.1 ((y.R Z.1).iL Z.2 up).1) Y.1 (r1.iL Y.2 up).1 i).P p).out ps;rw[E];exact Ms i p
theorem jA.jL(up:Bool):∀(l:List Nat) {y:iP},jA y->GN y->Ends y->l.Nodup->(∀c∈l,c<y.nc/\(y.C c).iQ= !up)->jA (y.jL up l)
 |[],_,h,_,_,_,_=>h
 |c::l,y,h,hG,hE,xy,hl=>by
  obtain⟨g1,V,g3,g4,X⟩:=pD y c up;have hc:=hl c gY;have Z:=br.1 xy;exact jA.jL up l (h.jZ hG hE c up hc.1 hc.2) (hG.jZ hE c up hc.1 hc.2) (hE.jZ c up) Z.2 (λx hx=>by
   have Y:x≠c:=λe=>Z.1 (e▸hx);rw[V,(X x).2,af Y];exact hl x (by simp[hx]))
theorem jA.anew(h:jA y)(Y:GN y)(i:Nat)(id:Int)(m:Nat->Int)(hf:∀c d,c<y.nc->d<2->((y.C c).e d).1=i->(y.C c).iQ=false):jA (y.jB i (jN id 3 m)):=by
 refine⟨λc d hc hd=> ?_,λj p=> ?_⟩
 ·have Z:c<y.nc:=hc;show(kx (((jU y.R i (jN id 3 m) ((y.C c).e (1-d)).1).P ((y.C c).e (1-d)).2).rd) ((y.C c).on d)).2=(0,lH)/\∀p∈(kx (((jU y.R i (jN id 3 m) ((y.C c).e (1-d)).1).P ((y.C c).e (1-d)).2).rd) ((y.C c).on d)).1,yb p;by_cases e:((y.C c).e (1-d)).1=i
  ·rw[e,iE,Y.off c d Z hd (hf c (1-d) Z eh e)];exact⟨rfl,λp X=>by simp[kx]at X⟩
  ·rw[iC _ _ e];exact h.q c d Z hd
 ·show∃ps,Frames ((jU y.R i (jN id 3 m) j).P p).out ps;by_cases e:j=i
  ·rw[e,iE];exact⟨[],Frames.nil⟩
  ·rw[iC _ _ e];exact h.o j p
theorem jA.restart {y:iP} {D:Nat} (h:jA y)(G:GN y)(E:j3 y D 0)(i:Int):jA (y.restart i).1:=by
 unfold iP.restart;split
 ·exact h
 ·rename_i hi
  obtain⟨k,u⟩:=gg ((i-1).toNat);rw[u];obtain⟨l,hl⟩:=gg (y.lA k);rw[hl];have Y:∀c,c∈l↔c<y.nc/\(y.C c).iQ=true/\(((y.C c).e 0).1=k \/((y.C c).e 1).1=k):=λc=>by
   rw[<-hl];unfold iP.lA;simp[ia]
  have U:l.Nodup:=by
   rw[<-hl];exact dv dk bX
  have J:∀c∈l,c<y.nc/\(y.C c).iQ= !false:=λc hc=>⟨((Y c).1 hc).1,((Y c).1 hc).2.1⟩
  obtain⟨a,b,d⟩:=GN.jL false l G E.oI U J;have f1:=jA.jL false l h G E.oI U J;obtain⟨s1,V,A,s4,S⟩:=nj false l y;obtain⟨Z,Ca⟩:=gg (y.jL false l);rw[Ca]at a b d s1 V A s4 S f1⊢;have Q:∀c e,c<Z.nc->e<2->((Z.C c).e e).1=k->(Z.C c).iQ=false:=λc e hc H heq=>by
   have jX:c<y.nc:=by rw[V]at hc;exact hc
   rw[d c];by_cases X:c∈l
   ·rw[ai X]
   ·rw[af X];by_cases T:(y.C c).iQ=true
    ·exfalso;rw[S c]at heq;refine X ((Y c).2 ⟨jX,T,?_⟩);have:e=0 \/e=1:=eh;rcases this with rfl|rfl
     ·exact .inl heq
     ·exact .inr heq
    ·simpa using T
  have f2:=f1.anew a k i (y.ms k) Q;have a2:GN (Z.jB k (jN i 3 (y.ms k))):=by
   refine a.jB k _ (λc e hc H heq _=> ?_);rw[Q c e hc H heq];have M:=qL i (y.ms k) ((Z.C c).e e).2;exact⟨by simpa using M.st,λe=>absurd (by rw[M.pe];rfl) e⟩
  have b2:Ends (Z.jB k (jN i 3 (y.ms k))):=⟨b.ds,b.p3,λj=>by
   show(jU Z.R k _ j).n=3 \/Z.n<=j;by_cases e:j=k
   ·rw[e,iE];exact .inl rfl
   ·rw[iC _ _ e];exact b.rn j,b.en⟩
  exact(jA.jL true l f2 a2 b2 U (λc hc=>⟨by show c<Z.nc;rw[V];exact((Y c).1 hc).1,by show(Z.C c).iQ=_;rw[d c,ai hc];rfl⟩)).gather
theorem jA.iL {y:iP} {D:Nat} (h:jA y)(Y:GN y)(Z:j3 y D 0)(i:Int)(up:Bool):jA (y.iL i up).1:=by
 unfold iP.iL;split
 ·exact h
 ·split
  ·exact h
  ·rename_i kP
   exact(h.jZ Y Z.oI i.toNat up eh (by cases hv:(y.C i.toNat).iQ<;>cases up<;>simp_all)).gather
theorem jA.tick {y:iP} (h:jA y)(i:Int):jA (y.tick i).1:=by
 unfold iP.tick;split
 ·exact h
 ·exact(h.jB _ (nu.ja _ _)).gather
theorem jA.deliver {y:iP} {D:Nat} (h:jA y)(Z:j3 y D 0)(i d m:Int):jA (y.deliver i d m).1:=by
 unfold iP.deliver;split
 ·exact h
 ·exact(h.jo Z.oI _ _ _ eh eh).gather
theorem jA.send {y:iP} (h:jA y)(f t:Int)(tx:List UInt8):jA (y.send f t tx).1:=by
 unfold iP.send;split
 ·exact h
 ·split
  ·exact h
  ·exact(h.jB _ (nu.kd _ _ _)).gather
theorem jA.ja {y:iP} (h:jA y):∀q,jA (y.ja q)
 |0=>h
 |q+1=>(jA.ja h q).tick _
theorem jA.jO {y:iP} {D:Nat} (h:jA y)(Y:j3 y D 0)(X:D<=890000000):∀q,q<=9->jA (y.jO q)
 |0,_=>h
 |q+1,hq=>by
  have Z:=Y.jO X q eh;exact((jA.jO h Y X q eh).deliver Z (q:Int) 0 2000).deliver (Z.deliver eh (q:Int) 0 2000) (q:Int) 1 2000
theorem jA.turns {y:iP} {D:Nat} (h:jA y)(Z:j3 y D 0)(Y:D<=810000000):∀t,t<=12->jA (y.turns t)
 |0,_=>h
 |t+1,ht=>(jA.turns h Z Y t eh).jO (Z.turns Y t eh) eh y.nc Z.c9
theorem jA.round {y:iP} {D:Nat} (h:jA y)(Z:j3 y D 0)(Y:D<=800000000):jA y.round:=
 (h.ja y.n).turns (Z.ja Y y.n Z.n6) (by have:=Z.n6;omega) 12 (Nat.le_refl _)
theorem jA.act(h:jA y)(Y:GN y)(Z:j3 y D 0)(X:D<=800000000)(v:AV):jA (tg y v):=by
 unfold tg;split
 ·exact h.iL Y Z _ _
 ·split
  ·exact h.tick _
  ·split
   ·exact h.deliver Z _ _ _
   ·split
    ·exact h.restart Y Z _
    ·split
     ·exact h.send _ _ _
     ·split
      ·exact h.round Z X
      ·exact h
theorem Oh(many:Nat)(L:List oV):jA (jQ many L):=⟨λ_ _ _ _=>⟨rfl,λp Z=>by simp[kx,jQ,nG]at Z⟩,λ_ _=>⟨[],Frames.nil⟩⟩
def isM(k:Nat)(tx:List UInt8):List UInt8->Bool
 |77::a::_::s=>a.toNat==k&&s==tx
 |_=>false
def cP(k:Nat)(tx:List UInt8)(ps:List (List UInt8)):Nat:=ps.countP (isM k tx)
def isI(k:Nat)(tx:List UInt8)(m:za):Bool:=m.1==(k:Int)&&m.2.2==tx
def cI(k:Nat)(tx:List UInt8)(l:List za):Nat:=l.countP (isI k tx)
def jk(p:jw):List (List UInt8):=(kx lH p.out).1
theorem m8(h:Frames p.out ps):jk p=ps:=by
 unfold jk;rw[h.1,rA ps h.2]
def pc(k:Nat)(tx:List UInt8)(p:jw):Nat:=cP k tx (jk p)
theorem r7.fr(h:r7 p q)(X:∃ps,Frames p.out ps):∃ps,Frames q.out ps:=by
 obtain⟨ps,Z⟩:=X;obtain⟨qs,Y⟩:=h.out ps Z;exact⟨_,Y⟩
