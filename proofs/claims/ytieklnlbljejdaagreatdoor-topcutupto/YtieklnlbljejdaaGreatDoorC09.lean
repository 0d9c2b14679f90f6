import Derived.Test.YtieklnlbljejdaaGreatDoorC08
open Go.Value renaming int → ι, slice → σ, pointer → π, tuple → τ, nilIface → η, ownBlock → eh
open Go.IntKind renaming i64 → κ
open Go.Ending renaming returned → ρ
open Go.Obj renaming cells → γ
open Option renaming none → ν, some → μ
open Go renaming TypeId → eu, Value → dY, World → dX, Calls → eX
open Go.Region renaming wanted → eN
open Go.Oper renaming wp → eF
open Go.Result renaming andThen_ok → eG
open List renaming map_toArray → eH, map_cons → eI, map_nil → eM, length_take → gM, take → gN, range → fW, setIfInBounds_toArray → gA, set_cons_zero → gD, set_cons_succ → gE, append_nil → gQ, length_append → eP, length_cons → eQ, length_nil → eR
open Go.World renaming frozen? → gK
open Go.Addr renaming off → gL
open Go.Proofs.Tryz renaming prog → eY
open Go.Instr renaming index → gO
open Go.Builtin renaming append_ → fJ
open Go.RowKit renaming intOf → eZ
open Go.Act renaming put → gw
set_option maxRecDepth 100000
set_option maxHeartbeats 8000000
open Go.Proofs.Tryz
namespace Go.Proofs.YtieklnlbljejdaaGreatDoor
open Go.RowKit St
namespace Rt
variable {D b c d g i k k' l m n p:Nat} {E:Prop} {K:Act->World->Prop} {Q:Exit->Act->World->Prop} {a:Act} {id:Int} {o:Oper} {ops:Array Oper} {ov:Nat->Value} {r r':iN} {t u v:Value} {w w' x:World} {y:Yt}
section
variable {P:Program}
theorem C9 
 (Z:o.guard=ν) (sl x:Operand) (t u:eu) (S:o.op=.call {callee:=.builtin .append,args:= #[sl,x],argTypes:= #[t,u] })
 (e:eu) (i:TypeInfo) (z:dY) (J:P.underlying t=μ (.slice e)) (H:P.underlying u=μ .string) (hi:P.info? e=μ i) (A:i.zero=μ z) (rR:i.size=1) (vN:i.bytes=1) (Y:z.cells.size=1)
 (v:dY) (n:Nat) (xs:List dY) (hs:a.eval sl=v) (j:Row w 1 v n xs) (s:ByteArray) (hx:a.eval x=.string s) (hsl:s.size<=1000000) (T:n<=1000000000)
 (h:∀v' w',Row w' 1 v' (n+s.size) (xs++iP s.data.toList)->w.grownBy w' v.ownBlock->(v'.ownBlock=v.ownBlock \/ ∃k,v'.ownBlock=μ k/\w.heap.size<=k)->K (a.put o.dst v') w'):
 if eN o (yielded ops a.tmps)=true then eF P o a w K Q else E:=by
 have G:eN o (yielded ops a.tmps)=true:=by simp[eN,Z]
 rw[ai G];obtain⟨v',w',M,X,V,U⟩:=vV (P:=P) w t u o.type e i z J H hi A rR vN Y v n xs j s hsl T;unfold eF execOp;simp only[S,resolve,invoke,builtin,Sem.run_bind,Sem.run_pure,eG,eH,eI,eM,hs,hx,M];exact h v' w' X V U
end
theorem Row.shape {sz:Nat} {xs:List dY} (h:Row w sz v n xs):∃a c,v=σ a n c:=by
 rcases h.2 with⟨e,Z⟩|⟨g',c',e,_⟩
 {exact⟨ν,0,by rw[e,Z]⟩};{exact⟨_,_,e⟩}
structure TD(w w':dX)(g o d:Nat)(c:qC)(ov:Nat->dY)(v':dY):Prop where
 os:w'.os=w.os
 tape:w'.tape=w.tape
 output:w'.output=w.output
 size:w.heap.size<=w'.heap.size
 block:∀k,k<w.heap.size->k≠g->(ov d).ownBlock≠μ k->w'.heap[k]? =w.heap[k]?
 cell:∀j,j<o \/o+7<=j->w'.cell? ⟨g,j,ν⟩=w.cell? ⟨g,j,ν⟩
 fz:∀j,w'.frozen? ⟨g,j,ν⟩=w.frozen? ⟨g,j,ν⟩
 xw:qg w' g o 7 (C2 c (jU ov d v'))
 row:Row w' 1 v' (c.on d).length (iP (c.on d))
 own:∀k,v'.ownBlock=μ k->(ov d).ownBlock=μ k \/w.heap.size<=k
theorem acY(c:qC)(ov:Nat->dY)(d:Nat)(hd:d<2)(v:dY)(f:Nat->List UInt8):∀j,j<7->tg (C2 c ov) (5+d) v j=C2 {c with on:=f} (jU ov d v) j:=by
 intro j hj;have Y:d=0 \/d=1:=dZ;rcases Y with rfl|rfl
 {by_cases e:j=5;{subst e;rfl};{rw[jI _ _ dZ];unfold C2;simp only[e,if_false];rfl}};{by_cases e:j=6;{subst e;rfl};{rw[jI _ _ dZ];unfold C2;have e6:¬j=6:=e;by_cases Z:j=5;{subst Z;rfl};{have:j<5:=dZ;simp only[Z,if_false];by_cases T:j=4;{simp[T]};{have:j<4:=dZ;by_cases U:j=3;{simp[U]};{by_cases V:j=2;{simp[V]};{by_cases X:j=1;{simp[X]};{have:j=0:=dZ;simp[this]}}}}}}}
theorem VM(c:qC)(ov:Nat->dY)(d:Nat)(hd:d<2):C2 c ov (5+d)=ov d:=by
 have Z:d=0 \/d=1:=dZ;rcases Z with rfl|rfl<;>rfl
theorem TD.still {o:Nat} {c:qC} (hC:qg w g o 7 (C2 c ov))(Z:Row w 1 (ov d) (c.on d).length (iP (c.on d)))(hb:eB w w'):TD w w' g o d c ov (ov d):=by
 have hl:=hC.lt ew;refine⟨hb.os,hb.tape,hb.output,hb.size,λk Y _ _=>hb.block k Y,λj _=>aj (a:=⟨g,j,ν⟩) (hb.block g hl),λj=>by simp only[gK,hb.block g hl],?_,Z.below hb,λk e=>.inl e⟩;rw[wy];exact hC.below ew hb
theorem TD.turn {o:Nat} {c:qC} (hd:d<2)(hC:qg w g o 7 (C2 c ov))(V:(ov d).ownBlock≠μ g)(v:dY)(f:Nat->List UInt8)(os:x.os=w.os)(H:x.tape=w.tape)(ou:x.output=w.output)(hs:w.heap.size<=x.heap.size)
 (U:∀k,k<w.heap.size->(ov d).ownBlock≠μ k->x.heap[k]? =w.heap[k]?) (J:Row x 1 v (f d).length (iP (f d))) (T:∀k,v.ownBlock=μ k->(ov d).ownBlock=μ k \/w.heap.size<=k):
 TD w (x.setCell ⟨g,o+5+d,ν⟩ v) g o d {c with on:=f} ov v:=by
 rw[Nat.add_assoc];have hl:=hC.lt ew;have Z:=U g hl V;have X:v.ownBlock≠μ g:=λe=>by
  rcases T g e with Y|Y
  {exact V Y};{omega}
 refine⟨os,H,ou,by simpa using hs,λk G S M=>(ak _ _ _ k S).trans (U k G M),λj hj=> ?_,λj=> ?_,?_,?_,T⟩;{rw[aX _ _ _ _ (λe=>by have:=congrArg gL e;simp at this;omega)];exact aj (a:=⟨g,j,ν⟩) Z};{rw[mE];simp only[gK,Z]};{exact((hC.keep Z).set (5+d) dZ v).congr (acY c ov d hd v f)};{exact J.keep gU (λk e=>ak _ _ _ k (λY=>X (by rw[e,Y])))}
theorem VN(g o d:Nat)(c:qC)(ov:Nat->dY)(s:ByteArray)(w:dX)(hd:d<2)(hC:qg w g o 7 (C2 c ov))(U:Row w 1 (ov d) (c.on d).length (iP (c.on d)))(hg:(ov d).ownBlock≠μ g)(hl:(c.on d).length<=2000)(hs:s.size<=1000000000):
 eX eY 161 #[π (μ ⟨g,o,ν⟩),ι κ (d:Int),.string s] w λe w'=>e=ρ (τ #[])/\∃v',TD w w' g o d (c.put d s.data.toList) ov v':=by
 obtain⟨i0,hi,og,mZ,mc⟩:=aW Ve;have hsl:s.data.toList.length=s.size:=gU;have c4:w.cell? ⟨g,o+4,ν⟩=μ (.bool c.iQ):=hC.cell 4 ew;have c5:w.cell? ⟨g,o+5+d,ν⟩=μ (ov d):=by rw[Nat.add_assoc,hC.cell (5+d) dZ,VM c ov d hd]
 have f5:w.frozen? ⟨g,o+5+d,ν⟩=false:=by rw[Nat.add_assoc];exact hC.fz (5+d) dZ
 have gl:=hC.lt ew;have kg:(d:Int)<2:=dZ;have hd0:(0:Int)<=(d:Int):=dZ;have H:Hid _:=hC;have sX:κ.wrap (((c.on d).length:Int)+(s.size:Int))=((c.on d).length:Int)+(s.size:Int):=aS _ ⟨dZ,dZ⟩;clear hC;cases J:c.iQ with
 |false=>
  have X:c.put d s.data.toList=c:=by unfold qC.put;rw[af (by simp[J])]
  rw[X];rw[J]at c4;have A:Hid _:=U;clear U
  go_in
  go_wp2
  first|go_end0|refine iK rfl rfl ?_
  exact⟨rfl,_,TD.still H.out A.out (au _ _)⟩
 |true=>
  rw[J]at c4;obtain⟨v,hv⟩:=gg (ov d);obtain⟨n,T⟩:=gg ((c.on d).length);have j:Hid _:=hv;have HN:Hid _:=T;have S:=U;rw[hv]at c5;rw[T]at sX hl;rw[hv,T]at S;have A:Hid _:=U;have YG:∃a' c',v=σ a' n c':=by
   rcases S.2 with⟨e,e2⟩|⟨g',c',e,_⟩
   {exact⟨ν,0,by rw[e,e2]⟩};{exact⟨_,_,e⟩}
  obtain⟨a',c',Z⟩:=YG;rw[Z]at c5 S;by_cases XW:(n:Int)+(s.size:Int)<=2000
  ·have X:c.put d s.data.toList={c with on:=jU c.on d (c.on d++s.data.toList)}:=by
    unfold qC.put;rw[ai ⟨J,dZ⟩]
   have HE:Hid _:=X;have G:Hid (eh (σ a' n c')≠μ g):=by rw[<-Z,<-hv];exact hg
   have Y:Hid _:=Z;clear U X hv T Z hg
   go_in
   go_wp2
   go_region_law ((refine C9 (by rfl) (.tmp 30) (.tmp 31) 140 9 (by rfl) 5 i0 (.int .u8 0) underlying140 underlying9 hi og mZ mc (by rfl) (σ a' n c') n (iP (c.on d)) (by rfl) (by exact S.drew) s (by rfl) dZ dZ ?_;intro v1 x1 k8 V jE;obtain⟨h,c1,hv1⟩:=Row.shape k8;subst hv1;have y5:=(aj (a:=⟨g,o+5+d,ν⟩) (V.block g (by exact gl) (λe=>G.out e.symm))).trans c5;have z5:=(aL (a:=⟨g,o+5+d,ν⟩) (V.block g (by exact gl) (λe=>G.out e.symm))).trans f5))
   all_goals
    go_wp2
    first|go_end0|refine iK rfl rfl ?_
    have kV:∀k,eh (σ h (n+s.size) c1)=μ k->(ov d).ownBlock=μ k \/w.heap.size<=k:=by
     intro k M;rw[j.out,Y.out];rcases jE with e|⟨k',e,uI⟩
     {exact .inl (by rw[<-e];exact M)};{rw[M]at e;obtain rfl:=Option.some.inj e;exact .inr uI}
    refine⟨rfl,σ h (n+s.size) c1,?_⟩;rw[HE.out];refine TD.turn hd H.out (by rw[j.out,Y.out];exact G.out) (σ h (n+s.size) c1) _ V.os V.tape V.output V.size (λk M h1=>V.block k M (λe=>h1 (by rw[j.out,Y.out];exact e.symm))) ?_ kV;rw[iE,az,lI,HN.out,hsl];exact k8
  ·have X:c.put d s.data.toList=c:=by
    unfold qC.put;rw[af (λe=>XW (by have:=e.2;omega))]
   rw[X];clear U X hv T Z
   go_in
   go_wp2
   first|go_end0|refine iK rfl rfl ?_
   exact⟨rfl,_,TD.still H.out A.out (au _ _)⟩
theorem jF.k0 {n:iM} (h:jF w y n):w.cell? ⟨y.N,0,ν⟩=μ (σ (μ ⟨y.gR,0,ν⟩) n.n y.tR):=h.od.cell 0
theorem jF.k1 {n:iM} (h:jF w y n):w.cell? ⟨y.N,1,ν⟩=μ (σ (μ ⟨y.gI,0,ν⟩) n.n y.yJ):=h.od.cell 1
theorem jF.k2 {n:iM} (h:jF w y n):w.cell? ⟨y.N,2,ν⟩=μ (.map (μ y.bM)):=h.od.cell 2
theorem jF.k3 {n:iM} (h:jF w y n):w.cell? ⟨y.N,3,ν⟩=μ (y.cv n.nc):=h.od.cell 3
theorem jF.yc {n:iM} (h:jF w y n):y.N<w.heap.size:=h.od.lt
theorem jF.RX {n:iM} (h:jF w y n):y.gR<w.heap.size:=h.vt (l:=.R) rfl
theorem jF.ac0 {n:iM} (h:jF w y n):y.gI<w.heap.size:=h.vt (l:=.I) rfl
theorem jF.ptr {n:iM} (h:jF w y n)(hi:i<n.n):w.cell? ⟨y.gR,i,ν⟩=μ (π (μ ⟨(y.z i).R,0,ν⟩)):=by
 have:=h.rr.cell i hi
 rwa [Nat.zero_add]at this
theorem jF.Y4 {n:iM} (h:jF w y n)(hi:i<n.n):w.cell? ⟨y.gI,i,ν⟩=μ (y.iv i):=by
 have:=h.ri.cell i hi
 rwa [Nat.zero_add]at this
theorem jF.cvs {n:iM} (h:jF w y n):∃a cp,y.cv n.nc=σ a n.nc cp/\∀c,c<n.nc->∃g,y.gC=μ g/\a=μ ⟨g,0,ν⟩:=by
 unfold Yt.cv;cases X:y.gC with
 |none=>
  have Y:n.nc=0:=by
   rcases Nat.eq_zero_or_pos n.nc with e|e
   {exact e};{obtain⟨g,Z⟩:=h.gc 0 e;rw[X]at Z;simp at Z}
  exact⟨ν,0,by rw[Y],λc hc=>dZ⟩
 |some g=>exact⟨_,_,rfl,λc hc=>⟨g,rfl,rfl⟩⟩
section
variable {w w':World} {y:Yt} {n:iM} {m:Nat}
theorem iF.k0(h:iF w w' y n m):w'.cell? ⟨y.N,0,ν⟩=μ (σ (μ ⟨y.gR,0,ν⟩) n.n y.tR):=by
 obtain⟨⟨y',Z,hs,_⟩,_⟩:=h;have:=Z.k0
 rwa [hs.N,hs.gR,hs.tR]at this
theorem iF.k3(h:iF w w' y n m):w'.cell? ⟨y.N,3,ν⟩=μ (y.cv n.nc):=by
 obtain⟨⟨y',Z,hs,_⟩,_⟩:=h;have:=Z.k3;have e:y'.cv n.nc=y.cv n.nc:=by unfold Yt.cv;rw[hs.gC,hs.wz]
 rwa [hs.N,e]at this
theorem iF.lt(h:iF w w' y n m):y.N<w'.heap.size:=ag _ _ h.k0
theorem iF.ptr(h:iF w w' y n m) {i:Nat} (hi:i<n.n):∃R,w'.cell? ⟨y.gR,i,ν⟩=μ (π (μ ⟨R,0,ν⟩)):=by
 obtain⟨⟨y',Z,hs,_⟩,_⟩:=h;have:=Z.ptr hi;rw[hs.gR]at this;exact⟨_,this⟩
theorem iF.PX(h:iF w w' y n m)(hc:c<n.nc)(Y:y.gC=μ g):∃ov,qg w' g (c*7) 7 (C2 (n.C c) ov):=by
 obtain⟨⟨y',Z,hs,_⟩,_⟩:=h;exact⟨_,Z.rc g (by rw[hs.gC];exact Y) c hc⟩
theorem iF.tab {n0:iM} (h:iF w w' y n m)(V:jF w y n0)(J:n0.n=m)(U:jf w):jf w':=λe s S hs=>by
 subst J;refine(aj (a:=⟨0,e*10+s,ν⟩) (h.kept.block 0 U.lt (λM=> ?_))).trans (U e s S hs);rcases M with X|⟨j,T,X⟩
 ·exact V.z0 X
 ·have R:=V.rt j T;have h3:=(V.rn j T).1;rcases X with Y|Y|Y
  ·rcases Y with Z|Z|⟨i,hi,Z|Z⟩|Z
   {exact R.sR.2.1 Z.symm};{exact(R.pt 0 R.n1).nz.1 Z.symm};{exact(R.pt i dZ).nz.2.1 Z.symm};{exact(R.pt i dZ).nz.2.2 Z};{exact R.Rs.1 Z}
  {exact R.Rs.2 0 (.inl Y) rfl};{exact R.Rs.2 0 (.inr Y) rfl}
theorem iF.first {a b c:dX} {n':iM} (hb:eB a b)(k:iF b c y n' m):iF a c y n' m:=by
 obtain⟨⟨T,g1,Y,X,V⟩,Z⟩:=k;exact⟨⟨T,g1,Y,λx hx=>(X x hx).imp_right (λe=>Nat.le_trans hb.size e),V⟩,⟨Z.os.trans hb.os,Z.tape.trans hb.tape,Z.output.trans hb.output,Nat.le_trans hb.size Z.size,λx hx U=>(Z.block x (Nat.lt_of_lt_of_le hx hb.size) U).trans (hb.block x hx)⟩⟩
end
def Ob(i:Int)(n:Nat):Bool:=decide (1<=i)&&decide (i<=(n:Int))
theorem yP(i:Int)(n:Nat):(Ob i n=false/\(i<1 \/(n:Int)<i)) \/ ∃k:Nat,k<n/\i=(k:Int)+1:=by
 by_cases Z:1<=i
 ·by_cases Y:i<=(n:Int)
  {exact .inr ⟨(i-1).toNat,dZ,dZ⟩};{exact .inl ⟨by simp[Ob,Y],dZ⟩}
 ·exact .inl ⟨by simp[Ob,Z],dZ⟩
theorem zO(h:i<n):Ob ((i:Int)+1) n=true:=by simp[Ob];omega
def Jy(i d:Int)(n:Nat):Bool:=hasB i n&& (decide (0<=d)&&decide (d<2))
theorem Oc(i d:Int)(n:Nat):(Jy i d n=false/\(i<0 \/(n:Int)<=i \/d<0 \/2<=d)) \/ ∃c k:Nat,c<n/\k<2/\i=(c:Int)/\d=(k:Int):=by
 by_cases Z:0<=i;{by_cases Y:i<(n:Int);{by_cases X:0<=d;{by_cases V:d<2;{exact .inr ⟨i.toNat,d.toNat,dZ,dZ,dZ,dZ⟩};{exact .inl ⟨by simp[Jy,V],dZ⟩}};{exact .inl ⟨by simp[Jy,X],dZ⟩}};{exact .inl ⟨by simp[Jy,hasB,Y],dZ⟩}};{exact .inl ⟨by simp[Jy,hasB,Z],dZ⟩}
theorem VO(h:c<n)(hd:d<2):Jy (c:Int) (d:Int) n=true:=by simp[Jy,hasB];omega
theorem qV(y:Yt)(n:iM)(i:Int)(w:dX)(h:jF w y n):
 eX eY 107 #[π (μ ⟨y.N,0,ν⟩),ι κ i] w λe w'=>e=ρ (.bool (Ob i n.n))/\w=w':=by
 have hl:=h.yc;have c1:=h.k0;unfold Ob;by_cases Z:1<=i
 ·by_cases Y:i<=(n.n:Int)
  ·have hv:(decide (1<=i)&&decide (i<=(n.n:Int)))=true:=by simp[Z,Y]
   rw[hv];clear hv h
   go_in
   go_wp2
   go_ret;exact⟨by first|rfl|(simp;omega),rfl⟩
  ·have hv:(decide (1<=i)&&decide (i<=(n.n:Int)))=false:=by simp[Y]
   rw[hv];clear hv h
   go_in
   go_wp2
   go_ret;exact⟨by first|rfl|(simp;omega),rfl⟩
 ·have hv:(decide (1<=i)&&decide (i<=(n.n:Int)))=false:=by simp[Z]
  rw[hv];clear hv h
  go_in
  go_wp2
  go_ret;exact⟨by first|rfl|(simp;omega),rfl⟩
theorem zP(y:Yt)(n:iM)(i:Int)(w:dX)(h:jF w y n):
 eX eY 112 #[π (μ ⟨y.N,0,ν⟩),ι κ i] w λe w'=>e=ρ (.bool (hasB i n.nc))/\w=w':=by
 have hl:=h.yc;have c1:=h.k3;obtain⟨a,cp,Z,_⟩:=h.cvs;rw[Z]at c1;unfold hasB;by_cases Y:0<=i
 ·by_cases X:i<(n.nc:Int)
  ·have hv:(decide (0<=i)&&decide (i<(n.nc:Int)))=true:=by simp[Y,X]
   rw[hv];clear hv h Z
   go_in
   go_wp2
   go_ret;exact⟨by first|rfl|(simp;omega),rfl⟩
  ·have hv:(decide (0<=i)&&decide (i<(n.nc:Int)))=false:=by simp[X]
   rw[hv];clear hv h Z
   go_in
   go_wp2
   go_ret;exact⟨by first|rfl|(simp;omega),rfl⟩
 ·have hv:(decide (0<=i)&&decide (i<(n.nc:Int)))=false:=by simp[Y]
  rw[hv];clear hv h Z
  go_in
  go_wp2
  go_ret;exact⟨by first|rfl|(simp;omega),rfl⟩
theorem Od(y:Yt)(n:iM)(i d:Int)(w:dX)(h:jF w y n):
 eX eY 108 #[π (μ ⟨y.N,0,ν⟩),ι κ i,ι κ d] w λe w'=>e=ρ (.bool (Jy i d n.nc))/\w=w':=by
 have hh:=zP y n i w h;unfold Jy;cases hb:hasB i n.nc with
 |false=>
  rw[hb]at hh;have hv:(false&& (decide (0<=d)&&decide (d<2)))=false:=rfl;rw[hv];clear hv h hb
  go_in
  go_wp2_with(fail);refine hh.mono ?_;rintro e w0 ⟨rfl,rfl⟩;clear hh
  go_wp2
  go_ret;exact⟨rfl,rfl⟩
 |true=>
  rw[hb]at hh;clear h hb;by_cases Z:0<=d
  ·by_cases Y:d<2
   ·have hv:(true&& (decide (0<=d)&&decide (d<2)))=true:=by simp[Z,Y]
    rw[hv];clear hv
    go_in
    go_wp2_with(fail);refine hh.mono ?_;rintro e w0 ⟨rfl,rfl⟩;clear hh
    go_wp2
    go_ret;exact⟨by first|rfl|(simp;omega),rfl⟩
   ·have hv:(true&& (decide (0<=d)&&decide (d<2)))=false:=by simp[Y]
    rw[hv];clear hv
    go_in
    go_wp2_with(fail);refine hh.mono ?_;rintro e w0 ⟨rfl,rfl⟩;clear hh
    go_wp2
    go_ret;exact⟨by first|rfl|(simp;omega),rfl⟩
  ·have hv:(true&& (decide (0<=d)&&decide (d<2)))=false:=by simp[Z]
   rw[hv];clear hv
   go_in
   go_wp2_with(fail);refine hh.mono ?_;rintro e w0 ⟨rfl,rfl⟩;clear hh
   go_wp2
   go_ret;exact⟨by first|rfl|(simp;omega),rfl⟩
theorem RY(d:Nat)(hd:d<2)(w:dX):eX eY 156 #[ι κ (d:Int)] w λe w'=>e=ρ (ι κ ((1-d:Nat):Int))/\w=w':=by
 have Z:((1-d:Nat):Int)=1-(d:Int):=dZ;have hw:κ.wrap (1-(d:Int))=1-(d:Int):=aS _ ⟨dZ,dZ⟩;rw[Z]
 go_in
 go_wp2
 go_ret;exact⟨rfl,rfl⟩
theorem Oe(y:Yt)(n:iM)(i:Nat)(p:Int)(w:dX)(h:jF w y n)(hi:i<n.n):
 eX eY 157 #[π (μ ⟨y.N,0,ν⟩),.agg #[ι κ ((i:Int)+1),ι κ p]] w λe w'=>e=ρ (π (μ ⟨(y.z i).R,0,ν⟩))/\eB w w':=by
 have bm:=gT w (γ #[ι κ ((i:Int)+1),ι κ p] 192);have Y:iX (w.alloc (γ #[ι κ ((i:Int)+1),ι κ p] 192)) w.heap.size #[ι κ ((i:Int)+1),ι κ p] 192:=iX.new w _ _;have Z:=h.below bm;obtain⟨M,V⟩:=gg (w.alloc (γ #[ι κ ((i:Int)+1),ι κ p] 192));obtain⟨N,X⟩:=gg (w.heap.size);rw[V]at Y Z bm;rw[X]at Y;have e0:M.cell? ⟨N,0,ν⟩=μ (ι κ ((i:Int)+1)):=Y.cell 0;have el:=Y.lt;have c0:=Z.k0;have cl:=Z.yc;have d0:=Z.ptr hi;have dl:=Z.RX;have n6:=h.n6;have hw:κ.wrap ((i:Int)+1-1)=(i:Int):=by
  have:(i:Int)+1-1=i:=dZ;rw[this];exact aS _ ⟨dZ,dZ⟩
 have kT:(i:Int)<(n.n:Int):=dZ;have MC:(0:Int)<=(i:Int):=dZ;have T:Hid _:=bm;have U:Hid _:=V;have S:Hid _:=X;clear h Z Y V X bm
 go_in
 go_wp2_with(fail);rw[U.out]
 try rw[S.out]
 go_quiet(fail)
 go_wp2
 go_ret;exact⟨rfl,below_drewN T.out _⟩
theorem EV(y:Yt)(n:iM)(i:Nat)(w:dX)(h:jF w y n)(hi:i<n.n):
 eX eY 40 #[π (μ ⟨y.N,0,ν⟩),ι κ ((i:Int)+1)] w λe w'=>e=ρ (τ #[π (μ ⟨(y.z i).R,0,ν⟩),η])/\w=w':=by
 have hh:=qV y n ((i:Int)+1) w h;rw[zO hi]at hh;have c0:=h.k0;have cl:=h.yc;have d0:=h.ptr hi;have dl:=h.RX;have n6:=h.n6;have hw:κ.wrap ((i:Int)+1-1)=(i:Int):=by
  have:(i:Int)+1-1=i:=dZ;rw[this];exact aS _ ⟨dZ,dZ⟩
 have kT:(i:Int)<(n.n:Int):=dZ;have MC:(0:Int)<=(i:Int):=dZ;clear h
 go_in
 go_wp2_with(fail);refine hh.mono ?_;rintro e w1 ⟨rfl,rfl⟩;clear hh
 go_wp2
 go_ret2
 exact⟨rfl,rfl⟩
theorem Ly(a:Addr)(n cap:Nat)(w:dX):(binOp .eql 140 (σ (μ a) n cap) (σ ν 0 0)).run eY w=.ok (.bool false) w:=gS
theorem Y5(w:dX):(binOp .eql 140 (σ ν 0 0) (σ ν 0 0)).run eY w=.ok (.bool true) w:=gS
structure H9(w w':dX)(v:dY)(l:List UInt8):Prop where
 row:Row w' 1 v l.length (iP l)
 own:∀k,v.ownBlock=μ k->w.heap.size<=k
 below:eB w w'
theorem Ch(a:Addr)(cap:Nat)(w:dX):
 eX eY 201 #[σ (μ a) 0 cap] w λe w'=>∃(v:dY),e=ρ v/\H9 w w' v [] :=by
 have hq:=Ly
 go_in
 go_wp2
 go_ret;exact⟨_,rfl,⟨Row.made w 1 _ #[] (0,0) 0 0 [] rfl rfl (Nat.le_refl _) ew (.inl rfl) gU,λj Z=>kF (Nat.le_refl _) Z,gT _ _⟩⟩
theorem Og(w:dX):
 eX eY 201 #[σ ν 0 0] w λe w'=>∃(v:dY),e=ρ v/\H9 w w' v [] :=by
 have hq:=Y5
 go_in
 go_wp2
 go_ret;exact⟨_,rfl,⟨Row.nil w 1,λj Z=>mY Z,au _ _⟩⟩
theorem RZ(l:List UInt8):∀u∈iP l,u.oneCell'=true:=by
 intro u Z;unfold iP at Z;obtain⟨b,_,rfl⟩:=bH.1 Z;rfl
theorem Lz(b off n cap:Nat)(l:List UInt8)(w:dX)(hn:n<=1000000)(qu:0<n)(hl:l.length=n)(hc:∀j u,(iP l)[j]? =μ u->w.cell? ⟨b,off+j,ν⟩=μ u):
 eX eY 201 #[σ (μ ⟨b,off,ν⟩) n cap] w λe w'=>∃(v:dY),e=ρ v/\H9 w w' v l:=by
 obtain⟨i0,hi,og,A,h⟩:=aW Ve;have hq:=Ly;have T:eB w (w.alloc (γ #[] 5)):=gT _ _;have M:Row (w.alloc (γ #[] 5)) 1 (σ (μ ⟨w.heap.size,0,ν⟩) 0 0) 0 [] :=Row.made w 1 _ #[] (0,0) 0 0 [] rfl rfl (Nat.le_refl _) ew (.inl rfl) gU;have qS:∀j u,(iP l)[j]? =μ u->(w.alloc (γ #[] 5)).cell? ((⟨b,off,ν⟩:Addr).add j)=μ u:=λj u S=>by
  rw[ng];have X:=hc j u S;exact(aj (a:=⟨b,off+j,ν⟩) (T.block b (ag _ _ X))).trans X
 have Y:(iP l).length=n*1:=by rw[qR,hl,Nat.mul_one]
 go_in
 go_wp2_with(at_builtin;go_must(refine iG _ rfl (.tmp 5) (.tmp 6) 140 rfl 5 i0 (.int .u8 0) 1 1 underlying140 hi og A h rfl ew (σ (μ ⟨w.heap.size,0,ν⟩) 0 0) 0 [] rfl M _ n cap (iP l) rfl Y qu qS (RZ l) (by unfold maxLen;omega) dZ ?_));intro g1 CK w1 J U V;have H:=lW T U (λj Z=>kF (Nat.le_refl _) Z);have G:=nU (B:=w.heap.size) V dZ (λj Z=>kF (Nat.le_refl _) Z);clear U V
 go_wp2
 go_ret;refine⟨_,rfl,⟨?_,λj Z=>kF G Z,H⟩⟩;rw[hl];exact J
theorem Row.front {a:Option Addr} {cp:Nat} {l:List UInt8} (h:Row w 1 (σ a l.length cp) l.length (iP l))(k:Nat)(hk:k<=l.length):
 (convert 140 9 (σ a k cp)).run eY w=.ok (.string ⟨(l.take k).toArray⟩) w:=by
 have V:(l.take k).length=k:=by rw[gM];omega
 have Y:Row w 1 (σ a k cp) k (iP (l.take k)):=by
  refine⟨by rw[qR,V,Nat.mul_one],?_⟩;rcases h.2 with⟨e,e0⟩|⟨g,cap,e,M,Y,U,T,S⟩
  {obtain⟨rfl,_,rfl⟩:=bO e;exact .inl ⟨by rw[show k=0 by omega],dZ⟩};{obtain⟨rfl,_,rfl⟩:=bO e;refine .inr ⟨g,cp,rfl,M,dZ,U,λj u Z=>T j u ?_,S⟩;have X:j<(iP (l.take k)).length:=(aK.1 Z).1;rw[qR,V]at X;unfold iP at Z⊢;rw[cH,List.getElem?_take]at Z;rw[ai X]at Z;rw[cH];exact Z}
 exact Row.back Y 140 9 5 underlying140 underlying5 underlying9
theorem R6(g o d:Nat)(c:qC)(ov:Nat->dY)(many:Int)(w:dX)(hd:d<2)(hC:qg w g o 7 (C2 c ov))(hR:Row w 1 (ov d) (c.on d).length (iP (c.on d)))(hg:(ov d).ownBlock≠μ g)(hl:(c.on d).length<=2000):
 eX eY 158 #[π (μ ⟨g,o,ν⟩),ι κ (d:Int),ι κ many] w λe w'=>e=ρ (.string ⟨((c.on d).take (min many.toNat (c.on d).length)).toArray⟩)/\∃v',TD w w' g o d {c with on:=jU c.on d ((c.on d).drop (min many.toNat (c.on d).length))} ov v':=by
 have M:w.cell? ⟨g,o+5+d,ν⟩=μ (ov d):=by rw[Nat.add_assoc,hC.cell (5+d) dZ,VM c ov d hd]
 have f5:w.frozen? ⟨g,o+5+d,ν⟩=false:=by rw[Nat.add_assoc];exact hC.fz (5+d) dZ
 have gl:=hC.lt ew;have kg:(d:Int)<2:=dZ;have hd0:(0:Int)<=(d:Int):=dZ;have HC:Hid _:=hC;have HG:Hid _:=hg;obtain⟨k,hk⟩:=gg (min many.toNat (c.on d).length);obtain⟨a,cp,hv⟩:=Row.shape hR;have XB:k<=(c.on d).length:=dZ;have H:max (0:Int) (min many ((c.on d).length:Nat))=(k:Int):=dZ;have K6:=hR;rw[hv]at K6 M;have wi:=Row.front K6 k XB;have U:((c.on d).drop k).length=(c.on d).length-k:=dG;rw[hk];have HV:Hid _:=hv;have HR:Hid _:=K6;obtain⟨l,hle⟩:=gg (c.on d);rw[hle]at H wi XB hl U M HR⊢;have HL:Hid _:=hle;obtain⟨n,hn⟩:=gg (l.length);have HN:Hid _:=hn;rw[hn]at H XB hl U M;clear hC hR hg hv hle K6 hn;have kd:∀(W w1:dX) (v1:dY) (L:List UInt8),eB w W->H9 W w1 v1 L->∃S T,v1=σ S L.length T/\w1.cell? ⟨g,o+5+d,ν⟩=w.cell? ⟨g,o+5+d,ν⟩/\w1.frozen? ⟨g,o+5+d,ν⟩=false/\g<w1.heap.size:=by
  intro W w1 v1 L hb hf;obtain⟨S,T,e⟩:=Row.shape hf.row;have b2:=gh hb hf.below;exact⟨S,T,e,aj (a:=⟨g,o+5+d,ν⟩) (b2.block g gl),(aL (a:=⟨g,o+5+d,ν⟩) (b2.block g gl)).trans f5,Nat.lt_of_lt_of_le gl b2.size⟩
 have A:Hid _:=kd;have Pm:∀(W w1:dX) (v1:dY) (L:List UInt8),L=l.drop k->eB w W->H9 W w1 v1 L->TD w (w1.setCell ⟨g,o+5+d,ν⟩ v1) g o d {c with on:=jU c.on d (l.drop k)} ov v1:=by
  intro W w1 v1 L hL hb hf;have b2:=gh hb hf.below;refine TD.turn hd HC.out HG.out v1 (jU c.on d (l.drop k)) b2.os b2.tape b2.output b2.size (λx hx _=>b2.block x hx) ?_ (λx hx=>.inr (Nat.le_trans hb.size (hf.own x hx)));rw[iE,<-hL];exact hf.row
 have X:Hid _:=Pm;clear kd Pm;rcases HR.out.2 with⟨e,h⟩|⟨G,cap2,e,K0,tY,Gd,hcell,CI⟩
 ·obtain⟨rfl,_,rfl⟩:=bO e;have Rj:n=0:=by have:=HN.out;omega
  subst Rj;obtain rfl:k=0:=dZ;have Z:=Og w.drew;have vQ:l=[] :=aH HN.out;have hld:([] :List UInt8)=l.drop 0:=by rw[vQ];rfl
  have zc:gN 0 l=[] :=rfl;rw[zc]at wi⊢;have HLD:Hid _:=hld;clear e h H hld hk;by_cases hm:many<=0
  ·go_in
   go_wp2
   go_region_with(first|(go_at_call 201;refine Z.mono ?_;rintro e w1 ⟨v1,rfl,hf⟩;have V:Hid _:=X.out _ _ _ _ HLD.out (iZ w) hf;obtain⟨S,T,rfl,Y,z5,y6⟩:=A.out _ _ _ _ (iZ w) hf;rw[M]at Y))
   all_goals
    clear Z hf Y z5
    go_wp2
    go_ret;exact⟨rfl,_,V.out⟩
  ·have vP:(0:Int)<=many:=dZ
   go_in
   go_wp2
   go_region_with(first|(go_at_call 201;refine Z.mono ?_;rintro e w1 ⟨v1,rfl,hf⟩;have V:Hid _:=X.out _ _ _ _ HLD.out (iZ w) hf;obtain⟨S,T,rfl,Y,z5,y6⟩:=A.out _ _ _ _ (iZ w) hf;rw[M]at Y))
   all_goals
    clear Z hf Y z5
    go_wp2
    go_ret;exact⟨rfl,_,V.out⟩
 ·obtain⟨rfl,_,rfl⟩:=bO e;have hkc:(k:Int)<=(cp:Int):=by have:=HN.out;omega
  have aqs:(n:Int)<=(cp:Int):=by have:=HN.out;omega
  have Gi:(0:Int)<=(k:Int):=dZ;have AL:(k:Int)<=(n:Int):=dZ;have Z:eX eY 201 #[σ (if cp=k then μ ⟨G,0,ν⟩else μ ⟨G,k,ν⟩) (n-k) (cp-k)] w.drew λe w'=>∃(v:dY),e=ρ v/\H9 w.drew w' v (l.drop k):=by
   by_cases hz:k=n;{have e1:n-k=0:=dZ;have e2:l.drop k=[] :=a8 (by have:=HN.out;omega);rw[e1,e2];by_cases sC:cp=k;{rw[ai sC];exact Ch _ _ _};{rw[af sC];exact Ch _ _ _}};{rw[af dZ];refine Lz G k (n-k) (cp-k) (l.drop k) w.drew dZ dZ U (λj u hu=> ?_);refine hcell (k+j) u ?_;unfold iP at hu⊢;rw[cH,dr]at hu;rw[cH];exact hu}
  clear e tY Gd hcell CI hk;by_cases hm:many<=0
  ·obtain rfl:k=0:=dZ;have zc:gN 0 l=[] :=rfl;rw[zc]at wi⊢;have h:(if cp=0 then μ (⟨G,0,ν⟩:Addr)else μ ⟨G,0,ν⟩)=μ ⟨G,0,ν⟩:=by split<;>rfl
   rw[Nat.sub_zero,Nat.sub_zero,h]at Z;clear H hkc Gi AL h
   go_in
   go_wp2
   go_region_with(first|(go_at_call 201;refine Z.mono ?_;rintro e w1 ⟨v1,rfl,hf⟩;have V:Hid _:=X.out _ _ _ _ rfl (iZ w) hf;obtain⟨S,T,rfl,Y,z5,y6⟩:=A.out _ _ _ _ (iZ w) hf;rw[M]at Y))
   all_goals
    clear Z hf Y z5
    go_wp2
    go_ret;exact⟨rfl,_,V.out⟩
  ·by_cases Rj:n=0
   ·subst Rj;obtain rfl:k=0:=dZ;have zc:gN 0 l=[] :=rfl;rw[zc]at wi⊢;have h:(if cp=0 then μ (⟨G,0,ν⟩:Addr)else μ ⟨G,0,ν⟩)=μ ⟨G,0,ν⟩:=by split<;>rfl
    rw[Nat.sub_zero,Nat.sub_zero,h]at Z;have vP:(0:Int)<=many:=dZ;clear H hkc Gi AL h
    go_in
    go_wp2
    go_region_with(first|(go_at_call 201;refine Z.mono ?_;rintro e w1 ⟨v1,rfl,hf⟩;have V:Hid _:=X.out _ _ _ _ rfl (iZ w) hf;obtain⟨S,T,rfl,Y,z5,y6⟩:=A.out _ _ _ _ (iZ w) hf;rw[M]at Y))
    all_goals
     clear Z hf Y z5
     go_wp2
     go_ret;exact⟨rfl,_,V.out⟩
   by_cases sC:cp=k
   ·have zf:k=n:=dZ;subst zf;rw[ai sC,Nat.sub_self]at Z;subst sC;rw[Nat.sub_self]at Z;have hp0:¬(cp:Int)<=0:=dZ;by_cases hmn:many<=(cp:Int)
    ·obtain rfl:many=(cp:Int):=dZ;clear H
     go_in
     go_wp2
     go_region_with(first|(go_at_call 201;refine Z.mono ?_;rintro e w1 ⟨v1,rfl,hf⟩;have V:Hid _:=X.out _ _ _ _ rfl (iZ w) hf;obtain⟨S,T,rfl,Y,z5,y6⟩:=A.out _ _ _ _ (iZ w) hf;rw[M]at Y))
     all_goals
      clear Z hf Y z5
      go_wp2
      go_ret;have J:=V.out
     simp only[U,Nat.sub_self]at J;exact⟨rfl,_,J⟩
    ·clear H
     go_in
     go_wp2
     go_region_with(first|(go_at_call 201;refine Z.mono ?_;rintro e w1 ⟨v1,rfl,hf⟩;have V:Hid _:=X.out _ _ _ _ rfl (iZ w) hf;obtain⟨S,T,rfl,Y,z5,y6⟩:=A.out _ _ _ _ (iZ w) hf;rw[M]at Y))
     all_goals
      clear Z hf Y z5
      go_wp2
      go_ret;have J:=V.out
     simp only[U,Nat.sub_self]at J;exact⟨rfl,_,J⟩
   ·rw[af sC]at Z;have hp0:¬(n:Int)<=0:=dZ;by_cases hmn:many<=(n:Int)
    ·obtain rfl:many=(k:Int):=dZ;clear H
     go_in
     go_wp2
     go_region_with(first|(go_at_call 201;refine Z.mono ?_;rintro e w1 ⟨v1,rfl,hf⟩;have V:Hid _:=X.out _ _ _ _ rfl (iZ w) hf;obtain⟨S,T,rfl,Y,z5,y6⟩:=A.out _ _ _ _ (iZ w) hf;rw[M]at Y))
     all_goals
      clear Z hf Y z5
      go_wp2
      go_ret;have J:=V.out
     simp only[U]at J;exact⟨rfl,_,J⟩
    ·obtain rfl:k=n:=dZ;rw[Nat.sub_self]at Z;clear H
     go_in
     go_wp2
     go_region_with(first|(go_at_call 201;refine Z.mono ?_;rintro e w1 ⟨v1,rfl,hf⟩;have V:Hid _:=X.out _ _ _ _ rfl (iZ w) hf;obtain⟨S,T,rfl,Y,z5,y6⟩:=A.out _ _ _ _ (iZ w) hf;rw[M]at Y))
     all_goals
      clear Z hf Y z5
      go_wp2
      go_ret;have J:=V.out
     simp only[U,Nat.sub_self]at J;exact⟨rfl,_,J⟩
structure Idle(p:jv):Prop where
 st:p.L.st=1
 pe:p.pe=nobody
 out:p.out=[]
structure jG(r r':iN)(k:Nat):Prop where
 n:r'.n=r.n
 id:r'.id=r.id
 lo:r.drop<=r'.drop
 hi:r'.drop<=r.drop+k
theorem jG.refl(r:iN):jG r r 0:=⟨rfl,rfl,Int.le_refl _,dZ⟩
theorem jG.mono(h:jG r r' k)(hl:k<=l):jG r r' l:=⟨h.n,h.id,h.lo,by have:=h.hi;omega⟩
theorem jG.trans {a b c:iN} {k l:Nat} (h:jG a b k)(g:jG b c l):jG a c (k+l):=⟨g.n.trans h.n,g.id.trans h.id,Int.le_trans h.lo g.lo,by have:=h.hi;have:=g.hi;omega⟩
theorem jG.xB(Z:r'.n=r.n)(hi:r'.id=r.id)(hd:r'.drop=r.drop):jG r r' 0:=⟨Z,hi,dZ,dZ⟩
theorem jG.iU(r:iN)(i:Nat)(p:jv):jG r (r.iU i p) 0:=jG.xB rfl rfl rfl
theorem jG.meet(r:iN)(i:Nat)(q:lD):jG r (r.meet i q) 0:=by
 obtain⟨_,Z,Y,_⟩:=mV r i q;exact jG.xB Y (Du _ _ _) Z
theorem jG.behind(r:iN)(s:Int):jG r (r.behind s) 0:=by
 obtain⟨_,Z,Y,_⟩:=oG r s;exact jG.xB Y (Ba _ _) Z
theorem jG.send(r:iN)(t:zb):jG r (r.send t) 1:=by
 unfold iN.send;split;{exact jG.mono (k:=0) (jG.xB rfl rfl rfl) dZ};{split;{exact⟨rfl,rfl,by simp;omega,gU⟩};{exact(jG.iU _ _ _).mono dZ}}
theorem jG.state(r:iN)(i:Nat)(l:List UInt8):jG r (jj r i l) 0:=by
 unfold jj;simp only;split;{exact jG.refl r};{split;{exact jG.behind _ _};{split<;>exact jG.xB rfl rfl rfl}}
theorem jG.link(r:iN)(i:Nat)(c:UInt8)(s:List UInt8):jG r (j1 r i c s) 0:=by
 unfold j1;split;{exact jG.iU _ _ _};{exact jG.refl r}
theorem jG.rest(r:iN)(i:Nat)(c:UInt8)(s:List UInt8):jG r (mB r i c s) 1:=by
 unfold mB;split;{split;{exact(jG.meet _ _ _).mono dZ};{exact(jG.refl r).mono dZ}};{split;{exact(jG.state _ _ _).mono dZ};{split;{unfold kC;simp only;split<;>exact jG.mono (k:=0) (jG.xB rfl rfl rfl) dZ};{split;{unfold ry;split;{exact jG.send _ _};{exact(jG.refl r).mono dZ}};{exact(jG.refl r).mono dZ}}}}
theorem jG.take(r:iN)(i:Nat)(c:UInt8)(s:List UInt8):jG r (r.take i c s) 1:=by
 rw[lJ];have Z:=jG.link r i c s;split;{exact(Z.trans (jG.meet _ _ _)).mono dZ};{exact(Z.trans (jG.rest _ i c s)).mono dZ}
theorem jG.takes:∀(l:List (List UInt8)) (r:iN) (i:Nat),jG r (r.takes i l) l.length
 |[],r,_=>jG.refl r
 |t::l,r,i=>by
  show jG r ((jN r i t).takes i l) (l.length+1);have Y:=jG.takes l (jN r i t) i;have Z:jG r (jN r i t) 1:=by
   cases t with
   |nil=>exact jG.mono (jG.refl r) dZ
   |cons c s=>exact jG.take r i c s
  exact jG.mono (Z.trans Y) dZ
theorem jG.recv(r:iN)(i:Nat)(l:List UInt8):jG r (r.recv i l) l.length:=by
 unfold iN.recv;simp only;have h:=(jG.iU r i {r.P i with rd:=(kx (r.P i).rd l).2.2}).trans (jG.takes (kx (r.P i).rd l).1 _ i);refine h.mono ?_;have:=Dq (r.P i).rd l;omega
theorem jG.iH(r:iN)(i:Nat)(up:Bool):jG r (r.iH i up).1 0:=by
 unfold iN.iH;simp only;split;{exact jG.refl r};{exact((jG.iU r i _).trans (jG.meet _ _ _)).mono dZ}
theorem jG.iW(r:iN)(i:Nat):jG r (r.iW i) 0:=by
 rw[k7];have Z:jG r (jb r i) 0:=jG.iU _ _ _;split;{exact Z.trans (jG.meet _ _ _)};{exact(Z.trans (jG.meet _ i _)).trans (jG.iU _ _ _)}
theorem jG.ja(r:iN):∀q,jG r (r.ja q) 0
 |0=>jG.refl r
 |q+1=>(jG.ja r q).trans (jG.iW _ _)
theorem jG.kf(r:iN)(t:Int)(tx:List UInt8):jG r (kf r t tx).1 1:=by
 unfold Rt.kf;split;{exact jG.mono (k:=0) (jG.refl r) dZ};{show jG r (r.send (t,8,tx)) 1;exact jG.send r (t,8,tx)}
theorem Jz(h:ln r)(hf:Fit r k)(i:Nat)(A:List (List UInt8))(rd:kB)(hA:A.length<=m):ln ((r.iU i {r.P i with rd:=rd}).takes i A)/\Fit ((r.iU i {r.P i with rd:=rd}).takes i A) (k+2*m):=by
 have Y:ln (r.iU i {r.P i with rd:=rd}):=h.iU i _ rfl (λhi=>h.pe i hi);have f1:Fit (r.iU i {r.P i with rd:=rd}) k:=hf.iU i _ (λhi=>hf.out i hi);have Z:=Bh A Y f1 i;exact⟨Z.2.1,Z.2.2.mono dZ⟩
theorem VP(h:ln r)(hf:Fit r k)(i:Nat)(l:List UInt8):ln (r.recv i l)/\Fit (r.recv i l) (k+2*l.length):=
 Jz h hf i (kx (r.P i).rd l).1 (kx (r.P i).rd l).2.2 (Nat.le_trans (Nat.le_add_right _ _) (Dq (r.P i).rd l))
theorem VQ(h:ln r)(hf:Fit r k)(i:Nat)(up:Bool):ln (r.iH i up).1/\Fit (r.iH i up).1 (k+1):=by
 have Z:=(yN (r.P i) up).1;have hl:((r.P i).iH up).1.out.length<=(r.P i).out.length+6000:=by
  unfold jv.iH;have X:=zA (r.P i).L (if up=true then 0 else 1);generalize kY (r.P i).L (if up=true then 0 else 1)=e at X⊢;simp only;by_cases Y:e.2.2=0;{rw[af (by simp[Y])];have h2:=zF e.2.1 {r.P i with L:=e.1,rd:=([],false,false)};have h4:({r.P i with L:=e.1,rd:=([],false,false)}:jv).out.length=(r.P i).out.length:=rfl;show(({r.P i with L:=e.1,rd:=([],false,false)}:jv).say e.2.1).out.length<=_;omega};{rw[ai Y];show(r.P i).out.length<=_;omega}
 unfold iN.iH;generalize (r.P i).iH up=e at Z hl⊢;simp only;split;{exact⟨h,hf.mono (Nat.le_succ k)⟩};{exact⟨(h.iU i _ Z.1 (λhi=>by rw[Z.2];exact h.pe i hi)).meet i (oj.nobody h.id.1),(hf.grow i _ hl).meet i _⟩}
theorem Oh(h:ln r)(hf:Fit r k)(t:Int)(tx:List UInt8):ln (kf r t tx).1/\Fit (kf r t tx).1 (k+1):=by
 unfold Rt.kf;split;{exact⟨h,hf.mono (Nat.le_succ k)⟩};{exact⟨h.send _,hf.send _⟩}
def j5(r r':iN)(i:Nat):Prop:=∀p,p≠i->Idle (r.P p)->Idle (r'.P p)
theorem j5.refl(r:iN)(i:Nat):j5 r r i:=λ_ _ h=>h
theorem j5.trans {a b c:iN} (h:j5 a b i)(g:j5 b c i):j5 a c i:=λp Z hi=>g p Z (h p Z hi)
theorem j5.iU(r:iN)(i:Nat)(q:jv):j5 r (r.iU i q) i:=λp Z h=>by
 show Idle (k9 r.P i q p);rw[jr _ _ Z];exact h
theorem j5.xQ(h:r'.P=r.P)(i:Nat):j5 r r' i:=λp _ hi=>by rw[h];exact hi
theorem j5.meet(r:iN)(i:Nat)(q:lD):j5 r (r.meet i q) i:=λp Z h=>by
 rw[(mV r i q).2.2.2,jr _ _ Z];exact h
theorem Ia(t:zb)(h:Idle (r.P p)):Idle ((r.send t).P p):=by
 unfold iN.send;split;{exact h}
 ·split;{exact h}
  ·rename_i b hb
   show Idle (k9 r.P b _ p);by_cases e:p=b
   ·subst e;exfalso;split at hb
    ·cases Z:AO (mr r) t.1 with
     |none=>rw[Z]at hb;simp at hb
     |some x=>
      rw[Z]at hb;have Y:jQ r.P x.rJ r.n=μ p:=hb;have:=(oB Y).2.1;rw[h.pe]at this;exact absurd this ew
    ·simp at hb
   ·rw[jr _ _ e];exact h
theorem j5.send(r:iN)(t:zb)(i:Nat):j5 r (r.send t) i:=λ_ _ h=>Ia t h
theorem j5.state(r:iN)(i:Nat)(l:List UInt8):j5 r (jj r i l) i:=by
 unfold jj;simp only;split;{exact j5.refl r i};{split;{exact j5.xQ (oG _ _).2.2.2 i};{split;{exact(j5.xQ rfl i).trans (j5.iU _ _ _)};{exact j5.xQ rfl i}}}
theorem j5.take(r:iN)(i:Nat)(c:UInt8)(s:List UInt8):j5 r (r.take i c s) i:=by
 rw[lJ];have Z:j5 r (j1 r i c s) i:=by
  unfold j1;split;{exact j5.iU _ _ _};{exact j5.refl _ _}
 split;{exact Z.trans (j5.meet _ _ _)};{refine Z.trans ?_;unfold mB;split;{split;{exact j5.meet _ _ _};{exact j5.refl _ _}};{split;{exact j5.state _ _ _};{split;{unfold kC;simp only;split<;>exact j5.xQ rfl i};{split;{unfold ry;split;{exact j5.send _ _ _};{exact j5.refl _ _}};{exact j5.refl _ _}}}}}
theorem j5.takes:∀(l:List (List UInt8)) (r:iN) (i:Nat),j5 r (r.takes i l) i
 |[],r,i=>j5.refl r i
 |t::l,r,i=>by
  show j5 r ((match t with|[] =>r|c::s=>r.take i c s).takes i l) i;refine j5.trans ?_ (j5.takes l _ i);cases t with
  |nil=>exact j5.refl _ _
  |cons c s=>exact j5.take r i c s
theorem j5.recv(r:iN)(i:Nat)(l:List UInt8):j5 r (r.recv i l) i:=by
 unfold iN.recv;simp only;exact(j5.iU r i _).trans (j5.takes _ _ i)
theorem j5.iH(r:iN)(i:Nat)(up:Bool):j5 r (r.iH i up).1 i:=by
 unfold iN.iH;simp only;split;{exact j5.refl r i};{exact(j5.iU r i _).trans (j5.meet _ _ _)}
theorem LA {p:jv} (h:Idle p):p.tick=p:=by
 have X:jd p.L=(p.L,[]):=by
  have Z:kj p.L=p.L:=by unfold kj;simp[h.st]
  have Y:lO p.L=[] :=by unfold lO;simp[h.st]
  unfold jd;rw[Z,Y];simp[h.st]
 unfold jv.tick;rw[X];rfl
theorem Oi(i:Nat)(h:Idle (r.P p)):Idle ((r.iW i).P p):=by
 rw[k7];by_cases e:p=i
 ·subst e;have Z:(jb r p).P p=r.P p:=by
   show k9 r.P p (r.P p).tick p=_;rw[jy,LA h]
  rw[Z,ai (by rw[h.st];decide),(mV _ _ _).2.2.2,jy,Z];exact⟨h.st,rfl,h.out⟩
 ·have Z:Idle ((jb r i).P p):=by
   show Idle (k9 r.P i _ p);rw[jr _ _ e];exact h
  split;{exact j5.meet _ _ _ p e Z};{exact j5.iU _ i _ p e (j5.meet _ _ _ p e Z)}
theorem EW {r:iN} {p:Nat} (h:Idle (r.P p)):∀q,Idle ((r.ja q).P p)
 |0=>h
 |q+1=>Oi q (EW h q)
theorem LB(t:Int)(tx:List UInt8)(h:Idle (r.P p)):Idle ((kf r t tx).1.P p):=by
 unfold Rt.kf;split;{exact h};{show Idle ((r.send (t,8,tx)).P p);exact Ia (t,8,tx) h}
structure j3(y:iM)(D k:Nat):Prop where
 n1:1<=y.n
 n6:y.n<=6
 c9:y.nc<=9
 en:∀c d,c<y.nc->d<2->((y.C c).e d).1<y.n/\((y.C c).e d).2<3
 ds:∀c d c' d',c<y.nc->d<2->c'<y.nc->d'<2->(y.C c).e d=(y.C c').e d'->c=c'/\d=d'
 ms:∀i p,i<y.n->p<3->1<=y.ms i p/\y.ms i p<=20
 rn:∀i,i<y.n->(y.R i).n=3/\(y.R i).id=(i:Int)+1
 ok:∀i,i<y.n->ln (y.R i)
 drop:∀i,i<y.n->0<=(y.R i).drop/\(y.R i).drop<=D
 ol:∀c d,c<y.nc->d<2->((y.C c).on d).length<=2000
 ib:∀i,i<y.n->(y.j8 i).length<=D
 idle:∀i p,i<y.n->p<3->(∀c d,c<y.nc->d<2->(y.C c).e d≠(i,p))->Idle ((y.R i).P p)
 fit:∀i,i<y.n->(y.R i).j8.length<=k/\∀p,p<3->((y.R i).P p).out.length<=6000*k
theorem j3.mono {y:iM} {D':Nat} (h:j3 y D k)(hD:D<=D')(hk:k<=k'):j3 y D' k':=
 ⟨h.n1,h.n6,h.c9,h.en,h.ds,h.ms,h.rn,h.ok,λi hi=>by have:=h.drop i hi;omega,h.ol,λi hi=>by have:=h.ib i hi;omega,h.idle,λi hi=>⟨by have:=(h.fit i hi).1;omega,λp Z=>by have:=(h.fit i hi).2 p Z;omega⟩⟩
theorem j3.fits {y:iM} (h:j3 y D k)(hD:D<=1000000000000000)(hi:i<y.n):Fit (y.R i) k:=
 ⟨(h.fit i hi).1,by have:=h.drop i hi;omega,λp Z=>(h.fit i hi).2 p (by rw[(h.rn i hi).1]at Z;exact Z)⟩
theorem j3.jB {y:iM} {D k:Nat} (h:j3 y D k) {i:Nat} (hi:i<y.n) {r:iN} {D' k':Nat} (U:D<=D')(hk:k<=k')(V:r.n=3/\r.id=(i:Int)+1)(T:ln r)(hd:0<=r.drop/\r.drop<=D')(hf:Fit r k')
 (S:∀p,p<3->(∀c d,c<y.nc->d<2->(y.C c).e d≠(i,p))->Idle (r.P p)):j3 (y.jB i r) D' k':=by
 have X:∀j,(y.jB i r).R j=if j=i then r else y.R j:=λj=>rfl
 refine⟨h.n1,h.n6,h.c9,h.en,h.ds,h.ms,λj Z=> ?_,λj Z=> ?_,λj Z=> ?_,h.ol,λj Z=>Nat.le_trans (h.ib j Z) U,λj p Z Y hc=> ?_,λj Z=> ?_⟩;{rw[X];by_cases e:j=i;{rw[ai e];subst e;exact V};{rw[af e];exact h.rn j Z}};{rw[X];by_cases e:j=i;{rw[ai e];exact T};{rw[af e];exact h.ok j Z}};{rw[X];by_cases e:j=i;{rw[ai e];exact hd};{rw[af e];have:=h.drop j Z;omega}};{rw[X];by_cases e:j=i;{rw[ai e];subst e;exact S p Y hc};{rw[af e];exact h.idle j p Z Y hc}};{rw[X];by_cases e:j=i;{rw[ai e];exact⟨hf.j8,λp Y=>hf.out p (by rw[V.1];exact Y)⟩};{rw[af e];exact⟨by have:=(h.fit j Z).1;omega,λp Y=>by have:=(h.fit j Z).2 p Y;omega⟩}}
theorem j3.call {y:iM} (h:j3 y D k)(hi:i<y.n)(V:k<=k')(Z:jG (y.R i) r g)(U:ln r)(hf:Fit r k')
 (T:∀p,p<3->(∀c d,c<y.nc->d<2->(y.C c).e d≠(i,p))->Idle ((y.R i).P p)->Idle (r.P p)):j3 (y.jB i r) (D+g) k':=by
 have Y:=h.rn i hi;have h2:=h.drop i hi;have h3:=Z.lo;have h4:=Z.hi;exact h.jB hi dZ V ⟨Z.n.trans Y.1,Z.id.trans Y.2⟩ U dZ hf (λp X hc=>T p X hc (h.idle i p hi X hc))
theorem j3.lq {y:iM} {D k:Nat} (h:j3 y D k) {c:Nat} {cb:qC} (Y:c<y.nc->cb.e=(y.C c).e)(hl:c<y.nc->∀d,d<2->(cb.on d).length<=2000):j3 (y.lq c cb) D k:=by
 have hC:∀x,x<y.nc->((y.lq c cb).C x).e=(y.C x).e:=λx hx=>by
  show(if x=c then cb else y.C x).e=_;by_cases e:x=c;{rw[ai e];subst e;exact Y hx};{rw[af e]}
 refine⟨h.n1,h.n6,h.c9,λx d hx hd=>by rw[hC x hx];exact h.en x d hx hd,λx d x' d' hx hd Z V e=>by rw[hC x hx,hC x' Z]at e;exact h.ds x d x' d' hx hd Z V e,h.ms,h.rn,h.ok,h.drop,λx d hx hd=> ?_,h.ib,λi p hi X hc=>h.idle i p hi X (λx d hx hd=>by have:=hc x d hx hd;rwa [hC x hx]at this),h.fit⟩;show((if x=c then cb else y.C x).on d).length<=_;by_cases e:x=c;{rw[ai e];subst e;exact hl hx d hd};{rw[af e];exact h.ol x d hx hd}
theorem j3.jb {y:iM} (h:j3 y D k)(Y:D<=1000000000000000)(hi:i<y.n):j3 (y.jB i (y.R i).tick) D (k+6):=by
 have Z:=Bj (h.ok i hi) (h.fits Y hi) (y.R i).n (Nat.le_refl _);rw[(h.rn i hi).1]at Z;have e:(y.R i).tick=(y.R i).ja 3:=by unfold iN.tick;rw[(h.rn i hi).1]
 rw[e];exact h.call hi dZ (jG.ja _ 3) Z.2.1 Z.2.2 (λp _ _ X=>EW X 3)
theorem j3.agt {y:iM} (h:j3 y D k)(X:D<=1000000000000000)(hc:c<y.nc)(hd:d<2)(l:List UInt8)(hl:l.length<=2000):j3 (y.jB ((y.C c).e d).1 ((y.R ((y.C c).e d).1).recv ((y.C c).e d).2 l)) (D+2000) (k+4000):=by
 obtain⟨hi,Y⟩:=h.en c d hc hd;have Z:=VP (h.ok _ hi) (h.fits X hi) ((y.C c).e d).2 l;exact h.call hi dZ ((jG.recv _ _ l).mono hl) Z.1 (Z.2.mono dZ) (λp _ V Y=>j5.recv _ _ l p (λe=>V c d hc hd (by rw[e])) Y)
theorem j3.VR {y:iM} (h:j3 y D k)(X:D<=1000000000000000)(hc:c<y.nc)(hd:d<2)(up:Bool):j3 (y.mU c d up) D (k+1):=by
 obtain⟨hi,Y⟩:=h.en c d hc hd;have Z:=VQ (h.ok _ hi) (h.fits X hi) ((y.C c).e d).2 up;exact h.call hi dZ (jG.iH _ _ up) Z.1 Z.2 (λp _ V Y=>j5.iH _ _ up p (λe=>V c d hc hd (by rw[e])) Y)
theorem j3.VT {y:iM} (h:j3 y D k)(Y:D<=1000000000000000)(hi:i<y.n)(t:Int)(tx:List UInt8):j3 (y.jB i (kf (y.R i) t tx).1) (D+1) (k+1):=by
 have Z:=Oh (h.ok i hi) (h.fits Y hi) t tx;exact h.call hi dZ (jG.kf _ t tx) Z.1 Z.2 (λp _ _ X=>LB t tx X)
theorem zQ {m:Nat->Int} (Z:1<=id/\id<=6)(U:∀i,i<3->1<=m i/\m i<=20):ln (jO id 3 m):=by
 refine⟨Z,U,λi _=>oj.nobody Z.1,⟨(1,[]),?_,?_⟩,λx hx=> ?_⟩;{show(if id=id then μ ((1,[]):PS)else ν)=_;rw[ai rfl]};{show oA id 1 [] =0;unfold oA;have X:¬id<1:=dZ;have V:¬6<id:=dZ;simp[X,V,qv]};{have Y:(if x=id then μ ((1,[]):PS)else ν).isSome=true:=hx;by_cases e:x=id;{omega};{rw[af e]at Y;simp at Y}}
theorem R7 {m:Nat->Int} (k:Nat):Fit (jO id 3 m) k:=⟨Nat.zero_le _,⟨Int.le_refl _,by show(0:Int)<=_;omega⟩,λ_ _=>Nat.zero_le _⟩
theorem qM(id:Int)(m:Nat->Int)(p:Nat):Idle ((jO id 3 m).P p):=⟨rfl,rfl,rfl⟩
theorem j3.kZ {y:iM} {D k:Nat} (h:j3 y D k)(T:D<=1000000000000000) {c d:Nat} (hc:c<y.nc)(hd:d<2):j3 (y.kZ c d) D k:=by
 obtain⟨hi,X⟩:=h.en c d hc hd;unfold iM.kZ;have hf:=h.fits T hi;have Y:=h.ok _ hi;have U:j3 (y.jB ((y.C c).e d).1 ((y.R ((y.C c).e d).1).out ((y.C c).e d).2)) D k:=by
  refine h.jB hi (Nat.le_refl _) (Nat.le_refl _) (h.rn _ hi) (Y.iU _ _ rfl (λhi=>Y.pe _ hi)) (h.drop _ hi) (hf.iU _ _ (λ_=>Nat.zero_le _)) (λp X Z=> ?_);exact j5.iU _ _ _ p (λe=>Z c d hc hd (by rw[e])) (h.idle _ p hi X Z)
 refine U.lq (λ_=> ?_) (λ_ d' V=> ?_);{unfold qC.put;split<;>rfl}
 ·unfold qC.put;split
  ·rename_i hx
   show(jU (y.C c).on d _ d').length<=2000;by_cases e:d'=d;{subst e;rw[iE,az];exact hx.2};{rw[iC _ _ e];exact h.ol c d' hc V}
  ·exact h.ol c d' hc V
theorem mW(y:iM)(c d:Nat):(y.kZ c d).n=y.n/\(y.kZ c d).nc=y.nc/\(y.kZ c d).ms=y.ms/\(y.kZ c d).j8=y.j8/\∀x,((y.kZ c d).C x).e=(y.C x).e/\((y.kZ c d).C x).iQ=(y.C x).iQ:=by
 refine⟨rfl,rfl,rfl,rfl,λx=> ?_⟩;show(if x=c then(y.C c).put d _ else y.C x).e=_/\(if x=c then(y.C c).put d _ else y.C x).iQ=_;by_cases e:x=c;{rw[ai e];subst e;unfold qC.put;split<;>exact⟨rfl,rfl⟩};{rw[af e];exact⟨rfl,rfl⟩}
theorem j4(y:iM):∀k,(y.j2 k).n=y.n/\(y.j2 k).nc=y.nc/\(y.j2 k).ms=y.ms/\(y.j2 k).j8=y.j8/\∀x,((y.j2 k).C x).e=(y.C x).e/\((y.j2 k).C x).iQ=(y.C x).iQ
 |0=>⟨rfl,rfl,rfl,rfl,λ_=>⟨rfl,rfl⟩⟩
 |k+1=>by
  obtain⟨X,V,U,T,Z⟩:=j4 y k;obtain⟨b1,b2,b3,b4,b5⟩:=mW (y.j2 k) k 0;obtain⟨c1,c2,c3,c4,Y⟩:=mW ((y.j2 k).kZ k 0) k 1;exact⟨c1.trans (b1.trans X),c2.trans (b2.trans V),c3.trans (b3.trans U),c4.trans (b4.trans T),λx=>⟨(Y x).1.trans ((b5 x).1.trans (Z x).1),(Y x).2.trans ((b5 x).2.trans (Z x).2)⟩⟩
theorem j3.j2 {y:iM} {D k:Nat} (h:j3 y D k)(Z:D<=1000000000000000):∀q,q<=y.nc->j3 (y.j2 q) D k
 |0,_=>h
 |q+1,hq=>by
  have X:=j3.j2 h Z q dZ;have Y:(y.j2 q).nc=y.nc:=(j4 y q).2.1;have V:=X.kZ Z (c:=q) (d:=0) (by rw[Y];omega) dZ;exact V.kZ Z (c:=q) (d:=1) (by show q<(y.j2 q).nc;rw[Y];omega) dZ
theorem Bl(y:iM)(c d i p:Nat):((y.kZ c d).R i).P p=if(y.C c).e d=(i,p)then {(y.R i).P p with out:=[] }else(y.R i).P p:=by
 show((jU y.R ((y.C c).e d).1 ((y.R ((y.C c).e d).1).out ((y.C c).e d).2)) i).P p=_;by_cases e:i=((y.C c).e d).1;{rw[e,iE];show k9 _ ((y.C c).e d).2 _ p=_;by_cases Z:p=((y.C c).e d).2;{rw[Z,jy,ai rfl]};{rw[jr _ _ Z,af (λh=>Z (by rw[h]))]}};{rw[iC _ _ e,af (λh=>e (by rw[h]))]}
theorem wI {y:iM} (c d i p:Nat)(h:(y.C c).e d=(i,p) \/((y.R i).P p).out=[]):(((y.kZ c d).R i).P p).out=[] :=by
 rw[Bl];rcases h with h|h
 {rw[ai h]};{split;{rfl};{exact h}}
theorem EX {y:iM} (i p:Nat):∀q,((y.R i).P p).out=[] \/(∃c d,c<q/\d<2/\(y.C c).e d=(i,p))->(((y.j2 q).R i).P p).out=[]
 |0,h=>by
  rcases h with h|⟨c,_,hc,_⟩
  ·exact h
  ·omega
 |q+1,h=>by
  have hs:=j4 y q;have U:=mW (y.j2 q) q 0;by_cases Z:((y.R i).P p).out=[] \/(∃c d,c<q/\d<2/\(y.C c).e d=(i,p));{have ih:=EX i p q Z;exact wI _ _ _ _ (.inr (wI _ _ _ _ (.inr ih)))}
  ·rcases h with h|⟨c,d,hc,hd,X⟩
   ·exact absurd (.inl h) Z
   ·have Y:c=q:=by
     rcases Nat.lt_or_ge c q with V|V
     {exact absurd (.inr ⟨c,d,V,hd,X⟩) Z};{omega}
    subst Y;have T:d=0 \/d=1:=dZ;rcases T with rfl|rfl
    {exact wI _ _ _ _ (.inr (wI _ _ _ _ (.inl ((hs.2.2.2.2 c).1▸X))))};{refine wI _ _ _ _ (.inl ?_);rw[(U.2.2.2.2 c).1,(hs.2.2.2.2 c).1];exact X}
theorem j3.outs {y:iM} (h:j3 y D k)(hi:i<y.n)(Z:p<3):(((y.j2 y.nc).R i).P p).out=[] :=by
 by_cases hx:∃c d,c<y.nc/\d<2/\(y.C c).e d=(i,p)
 {exact EX i p _ (.inr hx)};{exact EX i p _ (.inl (h.idle i p hi Z (λc d hc hd e=>hx ⟨c,d,hc,hd,e⟩)).out)}
theorem nY(y:iM):∀k,(y.m7 k).n=y.n/\(y.m7 k).nc=y.nc/\(y.m7 k).ms=y.ms/\(y.m7 k).C=y.C
 |0=>⟨rfl,rfl,rfl,rfl⟩
 |k+1=>nY y k
theorem wJ(y:iM)(i:Nat):∀k,(y.m7 k).R i=(if i<k then {y.R i with j8:=[] }else y.R i)/\(y.m7 k).j8 i=if i<k then y.j8 i++(y.R i).j8 else y.j8 i
 |0=>by simp[iM.m7]
 |k+1=>by
  obtain⟨X,V⟩:=wJ y i k;show jU (y.m7 k).R k {(y.m7 k).R k with j8:=[] } i=_/\jU (y.m7 k).j8 k ((y.m7 k).j8 k++((y.m7 k).R k).j8) i=_;by_cases e:i=k;{subst e;rw[iE,iE,X,V,af (Nat.lt_irrefl i),af (Nat.lt_irrefl i),ai (Nat.lt_succ_self i),ai (Nat.lt_succ_self i)];exact⟨rfl,rfl⟩};{rw[iC _ _ e,iC _ _ e,X,V];by_cases Y:i<k;{have Z:i<k+1:=dZ;rw[ai Y,ai Z,ai Y,ai Z];exact⟨rfl,rfl⟩};{have Z:¬i<k+1:=dZ;rw[af Y,af Z,af Y,af Z];exact⟨rfl,rfl⟩}}
theorem j3.m7 {y:iM} {D k:Nat} (h:j3 y D k)(q:Nat):j3 (y.m7 q) (D+k) k:=by
 obtain⟨Z,V,J,U⟩:=nY y q;have Y:∀i,((y.m7 q).R i).n=(y.R i).n/\((y.m7 q).R i).id=(y.R i).id/\((y.m7 q).R i).P=(y.R i).P/\((y.m7 q).R i).drop=(y.R i).drop/\((y.m7 q).R i).K=(y.R i).K/\((y.m7 q).R i).j8.length<=(y.R i).j8.length:=λi=>by
  rw[(wJ y i q).1];split;{exact⟨rfl,rfl,rfl,rfl,rfl,Nat.zero_le _⟩};{exact⟨rfl,rfl,rfl,rfl,rfl,Nat.le_refl _⟩}
 refine⟨by rw[Z];exact h.n1,by rw[Z];exact h.n6,by rw[V];exact h.c9,λc d hc hd=> ?_,λc d c' d' hc hd M G=> ?_,λi p hi S=> ?_,λi hi=> ?_,λi hi=> ?_,λi hi=> ?_,λc d hc hd=> ?_,λi hi=> ?_,λi p hi S H=> ?_,λi hi=> ?_⟩;{rw[U,Z];rw[V]at hc;exact h.en c d hc hd};{rw[U];rw[V]at hc M;exact h.ds c d c' d' hc hd M G};{rw[J];rw[Z]at hi;exact h.ms i p hi S};{rw[Z]at hi;rw[(Y i).1,(Y i).2.1];exact h.rn i hi};{rw[Z]at hi;have X:=h.ok i hi;rw[(wJ y i q).1];split;{exact⟨X.id,X.m,X.pe,X.own,X.PE⟩};{exact X}}
 {rw[Z]at hi;rw[(Y i).2.2.2.1];have:=h.drop i hi;omega};{rw[U];rw[V]at hc;exact h.ol c d hc hd};{rw[Z]at hi;rw[(wJ y i q).2];have T:=h.ib i hi;have h2:=(h.fit i hi).1;split;{rw[az];omega};{omega}}
 {rw[Z]at hi;rw[(Y i).2.2.1];exact h.idle i p hi S (λc d hc hd=>by have:=H c d (by rw[V];exact hc) hd;rwa [U]at this)};{rw[Z]at hi;have T:=h.fit i hi;rw[(Y i).2.2.1];exact⟨Nat.le_trans (Y i).2.2.2.2.2 T.1,T.2⟩}
theorem j3.gather {y:iM} {D k:Nat} (h:j3 y D k)(U:D<=1000000000000000):j3 y.gather (D+k) 0:=by
 unfold iM.gather;obtain⟨s1,s2,s3,s4,s5⟩:=j4 y y.nc;have V:=h.j2 U y.nc (Nat.le_refl _);have Z:=V.m7 y.n;obtain⟨X,e2,e3,e4⟩:=nY (y.j2 y.nc) y.n;refine⟨Z.n1,Z.n6,Z.c9,Z.en,Z.ds,Z.ms,Z.rn,Z.ok,Z.drop,Z.ol,Z.ib,Z.idle,λi hi=> ?_⟩;have Y:i<y.n:=by rw[X,s1]at hi;exact hi
 rw[(wJ (y.j2 y.nc) i y.n).1,ai Y];refine⟨Nat.le_refl _,λp T=> ?_⟩;show(((y.j2 y.nc).R i).P p).out.length<=_;rw[h.outs Y T];exact Nat.zero_le _
theorem lQ(y:iM):y.gather.n=y.n/\y.gather.nc=y.nc/\y.gather.ms=y.ms/\∀x,(y.gather.C x).e=(y.C x).e/\(y.gather.C x).iQ=(y.C x).iQ:=by
 unfold iM.gather;obtain⟨s1,U,T,s4,S⟩:=j4 y y.nc;obtain⟨Z,Y,X,V⟩:=nY (y.j2 y.nc) y.n;exact⟨Z.trans s1,Y.trans U,X.trans T,λx=>by rw[V];exact S x⟩
theorem j3.jZ {y:iM} {D k:Nat} (h:j3 y D k)(Z:D<=1000000000000000) {c:Nat} (hc:c<y.nc)(up:Bool):j3 (y.jZ c up) D (k+2):=by
 unfold iM.jZ;have Y:j3 (y.lq c {y.C c with iQ:=up,on:=λ_=>[] }) D k:=h.lq (λ_=>rfl) (λ_ _ _=>Nat.zero_le _);exact(Y.VR Z (c:=c) (d:=0) hc dZ up).VR Z (c:=c) (d:=1) hc dZ up
theorem pD(y:iM)(c:Nat)(up:Bool):(y.jZ c up).n=y.n/\(y.jZ c up).nc=y.nc/\(y.jZ c up).ms=y.ms/\(y.jZ c up).j8=y.j8/\∀x,((y.jZ c up).C x).e=(y.C x).e/\((y.jZ c up).C x).iQ=if x=c then up else(y.C x).iQ:=by
 refine⟨rfl,rfl,rfl,rfl,λx=> ?_⟩;show(if x=c then({y.C c with iQ:=up,on:=λ_=>[] }:qC)else y.C x).e=_/\(if x=c then({y.C c with iQ:=up,on:=λ_=>[] }:qC)else y.C x).iQ=_;by_cases e:x=c;{rw[ai e,ai e];subst e;exact⟨rfl,rfl⟩};{rw[af e,af e];exact⟨rfl,rfl⟩}
theorem j3.jL {D:Nat} (Z:D<=1000000000000000)(up:Bool):∀(l:List Nat) {y:iM} {k:Nat},j3 y D k->(∀c∈l,c<y.nc)->j3 (y.jL up l) D (k+2*l.length)
 |[],_,_,h,_=>h
 |c::l,y,k,h,hl=>by
  have Y:=h.jZ Z (hl c gU) up;have:=j3.jL Z up l Y (λx hx=>hl x (by simp[hx]));exact this.mono (Nat.le_refl _) (by simp;omega)
theorem nj(up:Bool):∀(l:List Nat) (y:iM),(y.jL up l).n=y.n/\(y.jL up l).nc=y.nc/\(y.jL up l).ms=y.ms/\(y.jL up l).j8=y.j8/\∀x,((y.jL up l).C x).e=(y.C x).e
 |[],y=>⟨rfl,rfl,rfl,rfl,λ_=>rfl⟩
 |c::l,y=>by
  obtain⟨U,T,S,M,J⟩:=nj up l (y.jZ c up);obtain⟨g1,Z,Y,X,V⟩:=pD y c up;exact⟨U.trans g1,T.trans Z,S.trans Y,M.trans X,λx=>(J x).trans (V x).1⟩
theorem j3.iH {y:iM} {D:Nat} (h:j3 y D 0)(Z:D<=1000000000000000)(i:Int)(up:Bool):j3 (y.iH i up).1 (D+2) 0:=by
 unfold iM.iH;split;{exact h.mono dZ (Nat.le_refl _)};{split;{exact h.mono dZ (Nat.le_refl _)};{exact(h.jZ Z dZ up).gather Z}}
theorem j3.tick {y:iM} {D:Nat} (h:j3 y D 0)(Z:D<=1000000000000000)(i:Int):j3 (y.tick i).1 (D+6) 0:=by
 unfold iM.tick;split;{exact h.mono dZ (Nat.le_refl _)};{exact(h.jb Z dZ).gather Z}
theorem j3.jq {y:iM} {D k:Nat} (h:j3 y D k)(X:D<=1000000000000000) {c d q:Nat} (hc:c<y.nc)(hd:d<2):j3 (y.jq c d q) (D+2000) (k+4000):=by
 have hl:((y.C c).on d).length<=2000:=h.ol c d hc hd;unfold iM.jq;have Y:j3 (y.lq c {y.C c with on:=jU (y.C c).on d (((y.C c).on d).drop q)}) D k:=h.lq (λ_=>rfl) (λ_ d' V=>by
  show(jU (y.C c).on d _ d').length<=_;by_cases e:d'=d;{subst e;rw[iE,dG];omega}
  ·rw[iC _ _ e];exact h.ol c d' hc V)
 have Z:=Y.agt X (c:=c) (d:=1-d) hc dZ (((y.C c).on d).take q) (by rw[gM];omega);have e:((y.lq c {y.C c with on:=jU (y.C c).on d (((y.C c).on d).drop q)}).C c).e=(y.C c).e:=by
  show(if c=c then _ else y.C c).e=_;rw[ai rfl]
 rw[e]at Z;exact Z
theorem j3.deliver {y:iM} {D:Nat} (h:j3 y D 0)(hD:D<=100000000000000)(i d many:Int):j3 (y.deliver i d many).1 (D+6000) 0:=by
 unfold iM.deliver;split;{exact h.mono dZ (Nat.le_refl _)};{exact((h.jq dZ dZ dZ).gather dZ).mono dZ (Nat.le_refl _)}
theorem Bm {y:iM}:∀c∈y.lA k,c<y.nc:=λc hc=>by
 unfold iM.lA at hc;exact aP.1 (List.mem_filter.1 hc).1
theorem yQ(y:iM)(k:Nat):(y.lA k).length<=y.nc:=by
 unfold iM.lA;have:=cK (λc=>(y.C c).iQ&& (((y.C c).e 0).1==k||((y.C c).e 1).1==k)) (fW y.nc);simpa using this
theorem j3.anew {y:iM} (h:j3 y D k)(i:Nat)(hi:i<y.n):j3 (y.jB i (jO ((i:Int)+1) 3 (y.ms i))) D k:=
 h.jB hi (Nat.le_refl _) (Nat.le_refl _) ⟨rfl,rfl⟩ (zQ (by have:=h.n6;omega) (λp Z=>h.ms i p hi Z)) ⟨Int.le_refl _,by show(0:Int)<=_;omega⟩ (R7 k) (λp _ _=>qM _ _ p)
theorem j3.restart {y:iM} {D:Nat} (h:j3 y D 0)(Z:D<=1000000000000000)(i:Int):j3 (y.restart i).1 (D+36) 0:=by
 unfold iM.restart;split;{exact h.mono dZ (Nat.le_refl _)}
 ·have hl:=yQ y (i-1).toNat;have h9:=h.c9;have X:=j3.jL Z false (y.lA (i-1).toNat) h Bm;obtain⟨s1,U,T,s4,s5⟩:=nj false (y.lA (i-1).toNat) y;have Y:=X.anew (i-1).toNat (by rw[s1];omega);have e:(((i-1).toNat:Nat):Int)+1=i:=dZ;rw[e,T]at Y;have V:=j3.jL Z true (y.lA (i-1).toNat) Y (λc hc=>by
   show c<(y.jL false (y.lA (i-1).toNat)).nc;rw[U];exact Bm c hc)
  exact(V.gather Z).mono dZ (Nat.le_refl _)
theorem j3.send {y:iM} {D:Nat} (h:j3 y D 0)(hD:D<=100000000000000)(f t:Int)(tx:List UInt8):j3 (y.send f t tx).1 (D+2) 0:=by
 unfold iM.send;split;{exact h.mono dZ (Nat.le_refl _)};{split;{exact h.mono dZ (Nat.le_refl _)};{exact(h.VT dZ dZ t tx).gather dZ}}
theorem jF.Ci {n:iM} (h:jF w y n)(Y:y.all n.n k):k<w.heap.size:=by
 rcases Y with e|⟨j,Z,e⟩
 {exact h.lt (.inl e)};{exact h.yL Z e}
theorem jF.cbW {n:iM} {cb:qC} {v':dY} (h:jF w y n)(hc:c<n.nc)(hd:d<2)(T:y.gC=μ g)(Z:TD w w' g (c*7) d cb (y.ov c) v')(G:cb.e=(n.C c).e)(S:∀x,x≠d->cb.on x=(n.C c).on x)(hl:(cb.on d).length<=2000):iF w w' y (n.lq c cb) n.n:=by
 have M:∀x,x<2->x≠d->∀k,(y.ov c x).ownBlock=μ k->v'.ownBlock≠μ k:=by
  intro x hx U k e e';rcases Z.own k e' with Y|Y
  ·have:=h.inj (.on c x) (.on c d) k e Y;injection this with _ X
   exact U X
  ·have:=h.vt (l:=.on c x) e;omega
 refine h.PO hc T cb (jU (y.ov c) d v') Z.size Z.os Z.tape Z.output (λk V H X=>Z.block k V H (X d hd)) Z.cell Z.fz Z.xw (λx hx=> ?_) (λx hx=> ?_) G (λx k hx e=> ?_) (λk e=> ?_)
 ·by_cases e:x=d;{subst e;rw[iE];exact Z.row}
  ·rw[iC _ _ e,S x e];refine(h.ob c x hc hx).keep Z.size (λk V=>Z.block k ((h.ob c x hc hx).lt k V) (λY=> ?_) (λY=> ?_));{exact h.wD (l:=.on c x) (l':=.C) V T (by intro e;cases e) Y}
   ·have:=h.inj (.on c x) (.on c d) k V Y;injection this with _ X
    exact e X
 {by_cases e:x=d;{subst e;exact hl};{rw[S x e];exact h.ol c x hc hx}};{by_cases ex:x=d;{subst ex;rw[iE]at e;exact Z.own k e};{rw[iC _ _ ex]at e;exact .inl e}}
 ·have J:d=0 \/d=1:=dZ;rcases J with rfl|rfl
  {rw[iE]at e;rw[iC _ _ ew];exact λY=>M 1 dZ ew k Y e};{rw[iC _ _ ew]at e;rw[iE];exact M 0 dZ ew k e}
theorem jF.agu {n:iM} (h:jF w y n)(Z:y.gC=μ g):(y.ov c d).ownBlock≠μ g:=λe=>h.wD (l:=.on c d) (l':=.C) e Z (by intro e;cases e) rfl
theorem VU(y:Yt)(n:iM)(c d g:Nat)(s:ByteArray)(w:dX)(h:jF w y n)(hc:c<n.nc)(hd:d<2)(Z:y.gC=μ g)(hs:s.size<=1000000000):
 eX eY 161 #[π (μ ⟨g,c*7,ν⟩),ι κ (d:Int),.string s] w λe w'=>e=ρ (τ #[])/\iF w w' y (n.lq c ((n.C c).put d s.data.toList)) n.n:=by
 refine(VN g (c*7) d (n.C c) (y.ov c) s w hd (h.rc g Z c hc) (h.ob c d hc hd) (h.agu Z) (h.ol c d hc hd) hs).mono ?_;rintro e w1 ⟨rfl,v',Y⟩;refine⟨rfl,h.cbW hc hd Z Y ?_ (λx hx=> ?_) ?_⟩;{unfold qC.put;split<;>rfl};{unfold qC.put;split;{exact iC _ _ hx};{rfl}}
 ·unfold qC.put;split
  ·rename_i hx
   show(jU (n.C c).on d _ d).length<=2000;rw[iE,az];exact hx.2
  ·exact h.ol c d hc hd
theorem VW(y:Yt)(n:iM)(i p:Nat)(w:dX)(h:jF w y n)(hi:i<n.n)(hp:p<3):
 eX eY 29 #[π (μ ⟨(y.z i).R,0,ν⟩),ι κ (p:Int)] w λe w'=>e=ρ (τ #[.string ⟨((n.R i).P p).out.toArray⟩,η])/\iF w w' y (n.jB i ((n.R i).out p)) n.n:=by
 have Y:=(h.rn i hi).1;refine(VH (y.z i) (n.R i) p w (h.rt i hi) dZ).mono ?_;rintro e w1 ⟨rfl,Z⟩;rw[Y]at Z;exact⟨rfl,h.EH hi Z (h.rn i hi)⟩
def iM.oX(y:iM)(q d:Nat):iM:=if d=0 then y.j2 q else if d=1 then(y.j2 q).kZ q 0 else y.j2 (q+1)
theorem Cj(c:qC)(o:Nat->dY):C2 c o 0=ι κ (((c.e 0).1:Int)+1)/\C2 c o 1=ι κ ((c.e 0).2:Int)/\C2 c o 2=ι κ (((c.e 1).1:Int)+1)/\C2 c o 3=ι κ ((c.e 1).2:Int)/\C2 c o 4=.bool c.iQ:=⟨rfl,rfl,rfl,rfl,rfl⟩
theorem ac3(y:iM)(q d x:Nat):((y.oX q d).C x).e=(y.C x).e:=by
 unfold iM.oX;split;{exact((j4 y q).2.2.2.2 x).1};{split;{exact((mW _ q 0).2.2.2.2 x).1.trans ((j4 y q).2.2.2.2 x).1};{exact((j4 y (q+1)).2.2.2.2 x).1}}
theorem ac4(y:iM)(q d:Nat):(y.oX q d).n=y.n/\(y.oX q d).nc=y.nc:=by
 unfold iM.oX;split;{exact⟨(j4 y q).1,(j4 y q).2.1⟩};{split;{exact⟨(j4 y q).1,(j4 y q).2.1⟩};{exact⟨(j4 y (q+1)).1,(j4 y (q+1)).2.1⟩}}
theorem R8(y:iM)(q d:Nat)(hd:d<2):y.oX q (d+1)=(y.oX q d).kZ q d:=by
 have:d=0 \/d=1:=dZ;rcases this with rfl|rfl<;>rfl
theorem j3.oX {y:iM} {D k:Nat} (h:j3 y D k)(Z:D<=1000000000000000)(q d:Nat)(Y:q<y.nc):j3 (y.oX q d) D k:=by
 unfold iM.oX;split;{exact h.j2 Z q dZ};{split;{exact(h.j2 Z q dZ).kZ Z (by rw[(j4 y q).2.1];exact Y) dZ};{exact h.j2 Z (q+1) dZ}}
theorem Oj(w:dX)(y:Yt)(n:iM)(D k q d g m:Nat)(h:j3 n D k)(H:D<=1000000000000000)(hk:k<=100000)(U:q<n.nc)(hd:d<2)(hg:y.gC=μ g)(hm:n.n=m)(i p:Nat)(Aw:(n.C q).e d=(i,p))(J Z:dX)(hW:iF w J y (n.oX q d) m)(hb:eB J Z)(E:Nat)(u v:dY)(hE:J.heap.size<=E)(hc:Z.cell? ⟨E,0,ν⟩=μ u/\Z.cell? ⟨E,1,ν⟩=μ v):
 eX eY 157 #[π (μ ⟨y.N,0,ν⟩),.agg #[ι κ ((i:Int)+1),ι κ (p:Int)]] Z λe w1=>∃R,e=ρ (π (μ ⟨R,0,ν⟩))/\(w1.cell? ⟨E,0,ν⟩=μ u/\w1.cell? ⟨E,1,ν⟩=μ v)/\
  eX eY 29 #[π (μ ⟨R,0,ν⟩),ι κ (p:Int)] w1 λe T=>∃s:ByteArray,e=ρ (τ #[.string s,η])/\(T.cell? ⟨E,0,ν⟩=μ u/\T.cell? ⟨E,1,ν⟩=μ v)/\
   ∀V,eB T V->eX eY 161 #[π (μ ⟨g,q*7,ν⟩),ι κ (d:Int),.string s] V λe S=>e=ρ (τ #[])/\iF w S y (n.oX q (d+1)) m:=by
 subst hm;obtain⟨hi,j⟩:=h.en q d U hd;rw[Aw]at hi j;obtain⟨gn,gc⟩:=ac4 n q d;obtain⟨M,R0,s1,vP,zd⟩:=hW.ex;have R1:=R0.below hb;have Y:E<Z.heap.size:=ag _ _ hc.1;have A:¬M.all n.n E:=λe=>by
  have:=R0.Ci (k:=E) (by rw[gn];exact e);omega
 rw[<-s1.N];refine(Oe M _ i p Z R1 (by rw[gn];exact hi)).mono ?_;rintro e w1 ⟨rfl,b1⟩;refine⟨_,rfl,⟨(aj (a:=⟨E,0,ν⟩) (b1.block E Y)).trans hc.1,(aj (a:=⟨E,1,ν⟩) (b1.block E Y)).trans hc.2⟩,?_⟩;have G:E<w1.heap.size:=Nat.lt_of_lt_of_le Y b1.size;have R2:=R1.below b1;refine(VW M _ i p w1 R2 (by rw[gn];exact hi) j).mono ?_;rintro e T ⟨rfl,vK⟩;have rL:=vK.kept.block E G (by rw[gn];exact A);refine⟨_,rfl,⟨(aj (a:=⟨E,0,ν⟩) (rL.trans (b1.block E Y))).trans hc.1,(aj (a:=⟨E,1,ν⟩) (rL.trans (b1.block E Y))).trans hc.2⟩,λV b3=> ?_⟩;have X:=vK.below rfl b3;rw[gn]at X;have hF:=(h.oX H q d U).fits H (i:=i) (by rw[gn];exact hi);have rS:((((n.oX q d).R i).P p).out).length<=6000*k:=hF.out p (by rw[((h.oX H q d U).rn i (by rw[gn];exact hi)).1];exact j);have h4:eX eY 161 #[π (μ ⟨g,q*7,ν⟩),ι κ (d:Int),.string ⟨(((n.oX q d).R i).P p).out.toArray⟩] V λe S=>e=ρ (τ #[])/\iF w1 S M (n.oX q (d+1)) n.n:=by
  refine X.call λy2 R3 s2=> ?_;have BL:y2.gC=μ g:=by rw[s2.gC,s1.gC];exact hg
  have hcc:q<(n.oX q d).nc:=by rw[gc];exact U
  have oh:=VU y2 _ q d g ⟨(((n.oX q d).R i).P p).out.toArray⟩ V R3 hcc hd BL (by show Array.size _<=_;simp;omega);have e1:n.oX q (d+1)=((n.oX q d).jB i (((n.oX q d).R i).out p)).lq q (((n.oX q d).C q).put d ((((n.oX q d).R i).P p).out)):=by
   rw[R8 n q d hd];unfold iM.kZ;rw[ac3,Aw]
  rw[e1];have e2:((n.oX q d).jB i (((n.oX q d).R i).out p)).n=n.n:=gn;rw[e2]at oh;have e3:(⟨(((n.oX q d).R i).P p).out.toArray⟩:ByteArray).data.toList=(((n.oX q d).R i).P p).out:=gU;rw[e3]at oh;exact oh
 refine h4.mono ?_;rintro e S ⟨rfl,PY⟩;exact⟨rfl,iF.qL hW.kept s1 vP zd (iF.first (gh hb b1) PY)⟩
theorem ac5(a b c d:Int)(w:dX):(gO 193 (.agg #[ι κ a,ι κ b,ι κ c,ι κ d]) (ι κ 0)).run eY w=.ok (.agg #[ι κ a,ι κ b]) w:=gS
theorem ac6(a b c d:Int)(w:dX):(gO 193 (.agg #[ι κ a,ι κ b,ι κ c,ι κ d]) (ι κ 1)).run eY w=.ok (.agg #[ι κ c,ι κ d]) w:=gS
section
variable {P:Program}
theorem py(w:dX)(t ty e:eu)(i:TypeInfo)(Y:P.underlying t=μ (.slice e))(hi:P.info? e=μ i)(base ao:Option Addr)(n cap c:Nat)(Z:n<=cap):
 (fJ #[t,t] ty #[σ base n cap,σ ao 0 c]).run P w=.ok (σ base n cap) w:=by
 cases base<;>cases ao<;>simp[fJ,run_underlying Y,sizeOf,typeInfo,hi,Builtin.lenOf,Z,Builtin.firstCells,loadCells,loadCellsFrom,storeCells]
theorem uv 
 (H:o.guard=ν) (s x:Operand) (t:eu) (ho:o.op=.call {callee:=.builtin .append,args:= #[s,x],argTypes:= #[t,t] })
 (e:eu) (i:TypeInfo) (z:dY) (size bytes:Nat) (X:P.underlying t=μ (.slice e)) (hi:P.info? e=μ i) (hz:i.zero=μ z)
 (rR:i.size=size) (vN:i.bytes=bytes) (G:z.cells.size=size) (rS:0<size)
 (v:dY) (n:Nat) (xs:List dY) (hs:a.eval s=v) (Y:Row w size v n xs)
 (v2:dY) (m:Nat) (news:List dY) (hx:a.eval x=v2) (V:Row w size v2 m news) (A:∀u∈news,u.oneCell'=true)
 (U:n+m<=maxLen) (vO:(n+m)*bytes<=140737488355328)
 (h:∀v' w',Row w' size v' (n+m) (xs++news)->w.grownBy w' v.ownBlock->(v'.ownBlock=v.ownBlock \/ ∃k,v'.ownBlock=μ k/\w.heap.size<=k)->K (a.put o.dst v') w'):
 if eN o (yielded ops a.tmps)=true then eF P o a w K Q else E:=by
 have hw:eN o (yielded ops a.tmps)=true:=by simp[eN,H]
 rw[ai hw];have key:∃v' w',(fJ #[t,t] o.type #[v,v2]).run P w=.ok v' w'/\Row w' size v' (n+m) (xs++news)/\w.grownBy w' v.ownBlock/\(v'.ownBlock=v.ownBlock \/ ∃k,v'.ownBlock=μ k/\w.heap.size<=k):=by
  by_cases hm:0<m
  ·rcases V.2 with⟨_,e2⟩|⟨g,cap,rfl,M,Z,S,hcell,_⟩
   {omega};{exact su (P:=P) w t o.type e i z size bytes X hi hz rR vN G rS v n xs Y ⟨g,0,ν⟩ m cap news V.1 hm (λj u hu=>by rw[add_plain];exact hcell j u hu) A U vO}
  ·have T:m=0:=dZ;subst T;have ki:news=[] :=aH (by rw[V.1];simp);subst ki;have g0:w.grownBy w v.ownBlock:=⟨rfl,rfl,rfl,Nat.le_refl _,λ_ _ _=>rfl⟩
   rcases V.2 with⟨rfl,_⟩|⟨g2,cap2,rfl,_⟩
   ·rcases Y.2 with⟨rfl,rfl⟩|⟨g,cap,rfl,M,Z,S,hcell,J⟩
    {exact⟨_,w,py w t o.type e i X hi ν ν 0 0 0 (Nat.le_refl _),by simpa using Y,g0,.inl rfl⟩};{exact⟨_,w,py w t o.type e i X hi _ ν n cap 0 Z,by simpa using Y,g0,.inl rfl⟩}
   ·rcases Y.2 with⟨rfl,rfl⟩|⟨g,cap,rfl,M,Z,S,hcell,J⟩
    {exact⟨_,w,py w t o.type e i X hi ν _ 0 0 cap2 (Nat.le_refl _),by simpa using Y,g0,.inl rfl⟩};{exact⟨_,w,py w t o.type e i X hi _ _ n cap cap2 Z,by simpa using Y,g0,.inl rfl⟩}
 obtain⟨v',w',hr,h2,h3,h4⟩:=key;unfold eF execOp;simp only[ho,resolve,invoke,builtin,Sem.run_bind,Sem.run_pure,eG,eH,eI,eM,hs,hx,hr];exact h v' w' h2 h3 h4
end
theorem VX(a b:List zb):rO (a++b)=rO a++rO b:=by simp[rO]
theorem LC(l:List zb):∀u∈rO l,u.oneCell'=true:=by
 intro u Z;unfold rO at Z;obtain⟨t,_,Y⟩:=aT.1 Z;exact PT _ _ _ u Y
theorem Sb(w:dX)(y:Yt)(M:iM)(m j:Nat)(W:dX)(hW:iF w W y M m)(hn:M.n=m)(U:j<m):∃R iv,W.cell? ⟨y.gR,j,ν⟩=μ (π (μ ⟨R,0,ν⟩))/\(∀V,eB W V->V.cell? ⟨y.gI,j,ν⟩=μ iv/\V.cell? ⟨y.N,1,ν⟩=μ (σ (μ ⟨y.gI,0,ν⟩) m y.yJ)/\y.gI<V.heap.size)/\iv.ownBlock≠μ y.gI/\iv.ownBlock≠μ y.N/\y.N≠y.gI/\
 ∀V,eB W V->eX eY 32 #[π (μ ⟨R,0,ν⟩)] V λe w'=>∃v,e=ρ v/\Row w' 3 v (M.R j).j8.length (rO (M.R j).j8)/\Row w' 3 iv (M.j8 j).length (rO (M.j8 j))/\w'.cell? ⟨y.gI,j,ν⟩=μ iv/\w'.frozen? ⟨y.gI,j,ν⟩=false/\w'.cell? ⟨y.N,1,ν⟩=μ (σ (μ ⟨y.gI,0,ν⟩) m y.yJ)/\
  ∀x1 v',Row x1 3 v' ((M.j8 j).length+(M.R j).j8.length) (rO (M.j8 j)++rO (M.R j).j8)->w'.grownBy x1 iv.ownBlock->(v'.ownBlock=iv.ownBlock \/ ∃k,v'.ownBlock=μ k/\w'.heap.size<=k)->iF w (x1.setCell ⟨y.gI,j,ν⟩ v') y (M.x6 j) m:=by
 subst hn;obtain⟨Z,J,s1,vP,zd⟩:=hW.ex;refine⟨(Z.z j).R,Z.iv j,?_,λV hb=> ?_,λe=> ?_,λe=> ?_,λe=> ?_,λV hb=> ?_⟩;{rw[<-s1.gR];exact J.ptr U};{have X:=J.below hb;rw[<-s1.gI,<-s1.N,<-s1.yJ];exact⟨X.Y4 U,X.k1,X.ac0⟩};{rw[<-s1.gI]at e;exact J.wD (l:=.ib j) (l':=.I) e rfl (by intro e;cases e) rfl};{rw[<-s1.N]at e;exact J.wD (l:=.ib j) (l':=.N) e rfl (by intro e;cases e) rfl};{rw[<-s1.gI,<-s1.N]at e;exact J.wD (l:=.N) (l':=.I) rfl rfl (by intro e;cases e) e}
 have X:=J.below hb;have h3:=(X.rn j U).1;refine(RV (Z.z j) (M.R j) V (X.rt j U)).mono ?_;rintro e w1 ⟨rfl,hr,qy⟩;have hw:iD V w1 (Z.z j) {M.R j with j8:=[] } 3:=(congrArg (λt=>iD V w1 (Z.z j) ({M.R j with j8:=[] }:iN) t) h3).mp qy;have jm:∀k,Z.own k->w1.heap[k]? =V.heap[k]? :=λk T=>by
  have hf:=X.PJ U T;exact hw.kept.block k (X.lt (.inl T)) (λe=>hf (.inl e)) (λe=>hf (.inr (.inl e))) (λe=>hf (.inr (.inr e)))
 have hN:=X.EH U hw (X.rn j U);have S:=jm Z.gI ⟨.I,rfl⟩;refine⟨_,rfl,hr,(X.ib j U).keep hw.kept.size (λk T=>jm k ⟨.ib j,T⟩),?_,?_,?_,λx1 v' iV G hov=> ?_⟩;{rw[<-s1.gI];exact(aj (a:=⟨Z.gI,j,ν⟩) S).trans (X.Y4 U)};{rw[<-s1.gI];have:=X.ri.fz j U;rw[Nat.zero_add]at this;exact(aL (a:=⟨Z.gI,j,ν⟩) S).trans this};{rw[<-s1.N,<-s1.gI,<-s1.yJ];exact(aj (a:=⟨Z.N,1,ν⟩) (jm Z.N ⟨.N,rfl⟩)).trans X.k1}
 have ui:iF V (x1.setCell ⟨Z.gI,j,ν⟩ v') Z (M.x6 j) M.n:=by
  refine hN.step λy2 h A=> ?_;have Ty:y2.iv j=Z.iv j:=by
   have Y:=h.Y4 (i:=j) U;rw[A.gI,(aj (a:=⟨Z.gI,j,ν⟩) S).trans (X.Y4 U)]at Y;exact(Option.some.inj Y).symm
  have jt:(Z.iv j).ownBlock≠μ Z.gI:=λe=>X.wD (l:=.ib j) (l':=.I) e rfl (by intro e;cases e) rfl;have hvg:v'.ownBlock≠μ Z.gI:=λe=>by
   rcases hov with Y|⟨k,Y,H⟩
   ·exact jt (by rw[<-Y];exact e)
   ·rw[e]at Y;have yy:=Option.some.inj Y;have h4:Z.gI<w1.heap.size:=by rw[<-A.gI];exact h.ac0
    omega
  have hx:x1.heap[Z.gI]? =w1.heap[Z.gI]? :=G.block Z.gI (by rw[<-A.gI];exact h.ac0) (λe=>jt e.symm);have qH:=h.box (i:=j) (w':=x1.setCell ⟨Z.gI,j,ν⟩ v') U v' (M.j8 j++(M.R j).j8) (by simpa using G.size) G.os G.tape G.output (λk T Y H=> ?_) ?_ ?_ (λk T=> ?_);{exact qH};{rw[A.gI]at Y;rw[Ty]at H;rw[ak _ _ _ k Y];exact G.block k T (λe=>H e.symm)};{rw[A.gI];have Y:=h.ri;rw[A.gI]at Y;have H:=Y.keep hx;have h3:=H.set j U v';rw[Nat.zero_add]at h3;refine h3.congr λx hx=> ?_;by_cases e:x=j;{subst e;rw[iE];unfold tg;simp};{rw[iC _ _ e];unfold tg;simp[e]}};{rw[VX,az];exact iV.keep gU (λk T=>ak _ _ _ k (λe=>hvg (by rw[T,e])))}
  ·rcases hov with Y|⟨k',Y,H⟩
   {left;rw[Ty,<-Y];exact T};{right;rw[T]at Y;have:=Option.some.inj Y;omega}
 rw[s1.gI]at ui;exact iF.qL hW.kept s1 vP zd (iF.first hb ui)
theorem oH {j:Nat} (h:x.cell? ⟨b,k,ν⟩=μ u)(Z:b≠g):(x.setCell ⟨g,j,ν⟩ v).cell? ⟨b,k,ν⟩=μ u:=by
 rw[aX _ _ _ _ (λe=>Z (congrArg Addr.block e).symm)];exact h
theorem sO(y:Yt)(n:iM)(D k:Nat)(w:dX)(h:jF w y n)(iO:j3 n D k)(hD:D<=1000000000)(hk:k<=100000):
 eX eY 111 #[π (μ ⟨y.N,0,ν⟩)] w λe w'=>e=ρ (τ #[])/\iF w w' y n.gather n.n:=by
 have c3:=h.k3;obtain⟨a,cp,wi,LD⟩:=h.cvs;rw[wi]at c3;have cl:=h.yc;have c9:=h.c9;have n6:=h.n6;obtain⟨nc,tY⟩:=gg (n.nc);obtain⟨m,hm⟩:=gg (n.n);have H0:Hid (iF w w y (n.j2 0) m):=by
  show iF _ _ _ _ _;rw[<-hm];exact iF.refl h
 have HK3:Hid (∀q W,iF w W y (n.j2 q) m->W.cell? ⟨y.N,3,ν⟩=μ (σ a nc cp)/\y.N<W.heap.size):=by
  intro q W hw;have h1:=hw.k3;rw[(j4 n q).2.1,wi,tY]at h1;exact⟨h1,hw.lt⟩
 have HGC:Hid (∀c,c<nc->∃g,y.gC=μ g/\a=μ ⟨g,0,ν⟩):=by
  show∀c,_->_;rw[<-tY];exact LD
 have agv:Hid (∀q W g,q<nc->y.gC=μ g->iF w W y (n.j2 q) m->W.cell? ⟨g,q*7,ν⟩=μ (ι κ ((((n.C q).e 0).1:Int)+1))/\W.cell? ⟨g,q*7+1,ν⟩=μ (ι κ (((n.C q).e 0).2:Int))/\W.cell? ⟨g,q*7+2,ν⟩=μ (ι κ ((((n.C q).e 1).1:Int)+1))/\W.cell? ⟨g,q*7+2+1,ν⟩=μ (ι κ (((n.C q).e 1).2:Int))/\g<W.heap.size):=by
  intro q W g hq hg hw;obtain⟨ov,hC⟩:=hw.PX (c:=q) (by rw[(j4 n q).2.1,tY];exact hq) hg;have e1:=((j4 n q).2.2.2.2 q).1;have h0:=hC.cell 0 ew;have h1:=hC.cell 1 ew;have h2:=hC.cell 2 ew;have h3:=hC.cell 3 ew;rw[(Cj _ _).1,e1]at h0;rw[(Cj _ _).2.1,e1]at h1;rw[(Cj _ _).2.2.1,e1]at h2;rw[(Cj _ _).2.2.2.1,e1]at h3;exact⟨h0,h1,h2,h3,hC.lt ew⟩
 have Jw:Hid (∀(q d g i p:Nat) (G:dX),q<nc->d<2->y.gC=μ g->(n.C q).e d=(i,p)->iF w G y (n.oX q d) m->
  eX eY 157 #[π (μ ⟨y.N,0,ν⟩),.agg #[ι κ ((i:Int)+1),ι κ (p:Int)]] (G.alloc (γ #[ι κ ((i:Int)+1),ι κ (p:Int)] 192)).drew λe w1=>∃R,e=ρ (π (μ ⟨R,0,ν⟩))/\(w1.cell? ⟨G.heap.size,0,ν⟩=μ (ι κ ((i:Int)+1))/\w1.cell? ⟨G.heap.size,1,ν⟩=μ (ι κ (p:Int)))/\
  eX eY 29 #[π (μ ⟨R,0,ν⟩),ι κ (p:Int)] w1 λe w2=>∃s:ByteArray,e=ρ (τ #[.string s,η])/\(w2.cell? ⟨G.heap.size,0,ν⟩=μ (ι κ ((i:Int)+1))/\w2.cell? ⟨G.heap.size,1,ν⟩=μ (ι κ (p:Int)))/\
   ∀w3,eB w2 w3->eX eY 161 #[π (μ ⟨g,q*7,ν⟩),ι κ (d:Int),.string s] w3 λe w4=>e=ρ (τ #[])/\iF w w4 y (n.oX q (d+1)) m):=by
  intro q d g i p G hq hd hg Aw hw;have hb:=jD (gT G (γ #[ι κ ((i:Int)+1),ι κ (p:Int)] 192));have hB:iX (G.alloc (γ #[ι κ ((i:Int)+1),ι κ (p:Int)] 192)).drew G.heap.size #[ι κ ((i:Int)+1),ι κ (p:Int)] 192:=(iX.new G _ _).drew;exact Oj w y n D k q d g m iO dZ hk (by rw[tY];exact hq) hd hg hm i p Aw G _ hw hb G.heap.size _ _ (Nat.le_refl _) ⟨hB.cell 0,hB.cell 1⟩
 rw[tY]at c3 c9;rw[hm]at n6⊢;have QS:Hid _:=iO;have HNC:Hid _:=tY;have HM:Hid _:=hm;clear h iO LD wi tY hm
 go_in
 go_wp2
 go_loopw [15] (λx wr=>∃q:Nat,q<=nc/\x=ι κ q/\iF w wr y (n.j2 q) m) (λx _=>nc-(eZ x).toNat)
 case atStart=>exact⟨0,Nat.zero_le _,rfl,H0.out⟩
 case round=>
  obtain⟨q,hq,rfl,rV⟩:=hrel;obtain⟨V,rfl⟩:∃V,V=wr:=⟨_,rfl⟩
  by_cases kA:q<nc
  ·have nL:(q:Int)<(nc:Int):=dZ;have hq0:(0:Int)<=(q:Int):=dZ;obtain⟨g,hg,rfl⟩:=HGC.out q kA;obtain⟨d3,dl⟩:=HK3.out q V rV;obtain⟨e0,e1,e2,e3,gl⟩:=agv.out q V g kA hg rV;obtain⟨i0,p0,LG⟩:∃i0 p0,(n.C q).e 0=(i0,p0):=⟨_,_,rfl⟩
   obtain⟨i1,p1,LH⟩:∃i1 p1,(n.C q).e 1=(i1,p1):=⟨_,_,rfl⟩
   rw[LG]at e0 e1;rw[LH]at e2 e3;have HD0:Hid _:=rV;have alw:Hid _:=LG;have alx:Hid _:=LH;have HG:Hid _:=hg;clear rV LG LH hg
   go_wp2
   go_loopw [28] (λx wr=>(x=ι κ 0/\iF w wr y (n.oX q 0) m) \/(x=ι κ 1/\iF w wr y (n.oX q 1) m) \/(x=ι κ 2/\iF w wr y (n.oX q 2) m)) (λx _=>2-(eZ x).toNat)
   case atStart=>exact .inl ⟨rfl,HD0.out⟩
   case round=>
    rcases hrel with⟨rfl,Dv⟩|⟨rfl,Dv⟩|⟨rfl,Dv⟩
    ·have hix:=ac5 ((i0:Int)+1) (p0:Int) ((i1:Int)+1) (p1:Int);have hE:=Jw.out q 0 g i0 p0 wr kA ew HG.out alw.out Dv;obtain⟨W1,j6⟩:=gg (wr.alloc (γ #[ι κ ((i0:Int)+1),ι κ (p0:Int)] 192));obtain⟨E,uf⟩:=gg (wr.heap.size);have J:W1.drew.cell? ⟨E,0,ν⟩=μ (ι κ ((i0:Int)+1))/\W1.drew.cell? ⟨E,1,ν⟩=μ (ι κ (p0:Int)):=by
      have hB:iX (wr.alloc (γ #[ι κ ((i0:Int)+1),ι κ (p0:Int)] 192)).drew wr.heap.size #[ι κ ((i0:Int)+1),ι κ (p0:Int)] 192:=(iX.new wr _ _).drew;rw[j6,uf]at hB;exact⟨hB.cell 0,hB.cell 1⟩
     have El:E<W1.drew.heap.size:=ag _ _ J.1;rw[j6,uf]at hE;have Kd:Hid _:=j6;have Vy:Hid _:=uf;clear Dv j6 uf;go_wp2_with(fail)
     try rw[Kd.out]
     try rw[Vy.out]
     go_region_held3(λx=>x.cell? ⟨E,0,ν⟩=μ (ι κ ((i0:Int)+1))/\x.cell? ⟨E,1,ν⟩=μ (ι κ (p0:Int)))
      (first|assumption|exact J|exact X|exact H)
      (first
       |(go_at_call 157;refine hE.mono ?_;rintro e w1 ⟨R,rfl,X,hO⟩)
       |(go_at_call 29;refine hO.mono ?_;rintro e w2 ⟨sx,rfl,H,hP⟩))
     all_goals
      have hp:=hP _ (au _ _);clear hE hO hP J X H El;go_wp2_with(fail);refine hp.mono ?_;rintro e w4 ⟨rfl,PY⟩;have Lv:Hid _:=PY;clear hp PY
      go_wp2
      go_roundw
      case rel=>exact .inr (.inl ⟨by go_num,Lv.out⟩)
      case measure=>simp[eZ]
    ·have hix:=ac6 ((i0:Int)+1) (p0:Int) ((i1:Int)+1) (p1:Int);have hE:=Jw.out q 1 g i1 p1 wr kA ew HG.out alx.out Dv;obtain⟨W1,j6⟩:=gg (wr.alloc (γ #[ι κ ((i1:Int)+1),ι κ (p1:Int)] 192));obtain⟨E,uf⟩:=gg (wr.heap.size);have J:W1.drew.cell? ⟨E,0,ν⟩=μ (ι κ ((i1:Int)+1))/\W1.drew.cell? ⟨E,1,ν⟩=μ (ι κ (p1:Int)):=by
      have hB:iX (wr.alloc (γ #[ι κ ((i1:Int)+1),ι κ (p1:Int)] 192)).drew wr.heap.size #[ι κ ((i1:Int)+1),ι κ (p1:Int)] 192:=(iX.new wr _ _).drew;rw[j6,uf]at hB;exact⟨hB.cell 0,hB.cell 1⟩
     have El:E<W1.drew.heap.size:=ag _ _ J.1;rw[j6,uf]at hE;have Kd:Hid _:=j6;have Vy:Hid _:=uf;clear Dv j6 uf;go_wp2_with(fail)
     try rw[Kd.out]
     try rw[Vy.out]
     go_region_held3(λx=>x.cell? ⟨E,0,ν⟩=μ (ι κ ((i1:Int)+1))/\x.cell? ⟨E,1,ν⟩=μ (ι κ (p1:Int)))
      (first|assumption|exact J|exact X|exact H)
      (first
       |(go_at_call 157;refine hE.mono ?_;rintro e w1 ⟨R,rfl,X,hO⟩)
       |(go_at_call 29;refine hO.mono ?_;rintro e w2 ⟨sx,rfl,H,hP⟩))
     all_goals
      have hp:=hP _ (au _ _);clear hE hO hP J X H El;go_wp2_with(fail);refine hp.mono ?_;rintro e w4 ⟨rfl,PY⟩;have Lv:Hid _:=PY;clear hp PY
      go_wp2
      go_roundw
      case rel=>exact .inr (.inr ⟨by go_num,Lv.out⟩)
      case measure=>simp[eZ]
    ·have HQ:Hid _:=Dv;clear Dv
     go_wp2
     go_roundw
     case rel=>exact⟨q+1,dZ,by go_num,HQ.out⟩
     case measure=>simp[eZ];omega
  ·have xL:¬(q:Int)<(nc:Int):=dZ;obtain rfl:q=nc:=dZ;have HI0:Hid _:=rV;have k0:=rV.k0;have kl:=rV.lt;rw[(j4 n q).1]at k0;have k0':V.cell? ⟨y.N,0,ν⟩=μ (σ (μ ⟨y.gR,0,ν⟩) m y.tR):=by rw[<-HM.out];exact k0
   obtain⟨i0,hi,og,mZ,mc⟩:=aW PR;have HE:Hid (n.gather=(n.j2 q).m7 m):=by
    show _=_;unfold iM.gather;rw[HNC.out,HM.out]
   have Y6:Hid ((n.j2 q).n=m):=by show _=_;rw[(j4 n q).1,HM.out]
   have HK:Hid (∀j,j<m->(((n.j2 q).m7 j).j8 j).length<=2000000000/\((((n.j2 q).m7 j).R j).j8).length<=2000000000):=by
    intro j hj;have h1:=(QS.out.j2 dZ q (by rw[HNC.out];exact Nat.le_refl _)).m7 j;have h2:=h1.ib j (by rw[(nY (n.j2 q) j).1,Y6.out];exact hj);have h3:=(h1.fit j (by rw[(nY (n.j2 q) j).1,Y6.out];exact hj)).1;omega
   clear rV k0 QS HNC agv Jw HK3 HGC
   go_wp2
   go_loopw [54] (λx wr=>∃j:Nat,j<=m/\x=ι κ j/\iF w wr y ((n.j2 q).m7 j) m) (λx _=>m-(eZ x).toNat)
   case atStart=>exact⟨0,Nat.zero_le _,rfl,HI0.out⟩
   case round=>
    obtain⟨j,hj,rfl,hwj⟩:=hrel;by_cases hjl:j<m
    ·have alz:(j:Int)<(m:Int):=dZ;have yG:(0:Int)<=(j:Int):=dZ;have hnM:((n.j2 q).m7 j).n=m:=by rw[(nY (n.j2 q) j).1,Y6.out]
     obtain⟨l1,l2⟩:=HK.out j hjl;have HS:Hid ((n.j2 q).m7 (j+1)=((n.j2 q).m7 j).x6 j):=rfl;obtain⟨R,iv,r0,qH,agy,agz,hNI,Y7⟩:=Sb w y _ m j wr hwj hnM hjl;have zk:Hid ((n.j2 q).m7 (j+1)=((n.j2 q).m7 j).x6 j):=rfl;have HSS:∀x,iF w x y (((n.j2 q).m7 j).x6 j) m=iF w x y ((n.j2 q).m7 (j+1)) m:=λx=>rfl;obtain⟨M,hM⟩:=gg ((n.j2 q).m7 j);rw[hM]at l1 l2 Y7 HSS;simp only[HSS]at Y7;have hIn:=Y7 wr.drew (iZ wr);obtain⟨c1,J,gIl⟩:=qH wr.drew (iZ wr);have rl:=ag _ _ r0;have Y8:Hid _:=agy;have agA:Hid _:=agz;have HNI:Hid _:=hNI;have Nl:=ag _ _ J;generalize y.N=YN at*;generalize y.gI=U at*;generalize y.yJ=cI at*;clear hwj hM qH Y7 HSS HS zk agy agz hNI;go_wp2_with(fail);refine cA (S:=λx=>x.cell? ⟨YN,1,ν⟩=μ (σ (μ ⟨U,0,ν⟩) m cI)) gS J (λlF=> ?_);refine jo 0 (μ 59) rfl rfl gS gS gS (λ_ _ _ h=>h) (by rfl) (v:= ?_) ?_ je ?_
     rotate_left
     ·intro A Z
      (try dsimp only at Z)
      go_simp
      try with_reducible rfl
     simp only[gw,gA,gD,gE];refine jo 1 (μ 60) rfl rfl gS gS gS (λ_ _ _ h=>h) (by rfl) (v:= ?_) ?_ je ?_
     rotate_left
     ·intro A Z
      (try dsimp only at Z)
      go_simp
      try with_reducible rfl
     simp only[gw,gA,gD,gE];refine jo 2 (μ 61) rfl rfl gS gS gS (λ_ _ _ h=>h) (by rfl) (v:= ?_) ?_ je ?_
     rotate_left
     ·intro A Z
      (try dsimp only at Z)
      go_simp
      try with_reducible rfl
     simp only[gw,gA,gD,gE];refine jo 3 (μ 62) rfl rfl gS gS gS (λ_ _ _ h=>h) (by rfl) (v:= ?_) ?_ je ?_
     rotate_left
     ·intro A Z
      (try dsimp only at Z)
      go_simp
      try with_reducible rfl
     simp only[gw,gA,gD,gE];refine jo 4 (μ 63) rfl rfl gS gS gS (λ_ _ _ h=>h) (by rfl) (v:= ?_) ?_ je ?_
     rotate_left
     ·intro A Z
      (try dsimp only at Z)
      go_simp
      try with_reducible rfl
     simp only[gw,gA,gD,gE];refine jo 5 (μ 64) rfl rfl gS gS gS (λ_ _ _ h=>h) (by rfl) (v:= ?_) ?_ je ?_
     rotate_left
     ·intro A Z
      (try dsimp only at Z)
      go_simp
      try with_reducible rfl
     simp only[gw,gA,gD,gE];refine jo 6 (μ 65) rfl rfl gS gS gS (λ_ _ _ h=>h) (by rfl) (v:= ?_) ?_ je ?_
     rotate_left
     ·intro A Z
      (try dsimp only at Z)
      go_simp
      try with_reducible rfl
     simp only[gw,gA,gD,gE];refine jo 7 (μ 66) rfl rfl gS gS gS (λ_ _ _ h=>h) (by rfl) (v:= ?_) ?_ je ?_
     rotate_left
     ·intro A Z
      (try dsimp only at Z)
      go_simp
      try with_reducible rfl
     simp only[gw,gA,gD,gE];refine jo 8 (μ 67) rfl rfl gS gS gS (λ_ _ _ h=>h) (by rfl) (v:= ?_) ?_ je ?_
     rotate_left
     ·intro A Z
      (try dsimp only at Z)
      go_simp
      try with_reducible rfl
     simp only[gw,gA,gD,gE];refine jo 9 (μ 68) rfl rfl gS gS gS (λ_ _ _ h=>h) (by rfl) (v:= ?_) ?_ je ?_
     rotate_left
     ·intro A Z
      (try dsimp only at Z)
      go_simp
      try with_reducible rfl
     simp only[gw,gA,gD,gE];refine jo 10 (μ 69) rfl rfl gS gS gS (λ_ _ _ h=>h) (by rfl) (v:= ?_) ?_ je ?_
     rotate_left
     ·intro A Z
      (try dsimp only at Z)
      go_simp
      try with_reducible rfl
     simp only[gw,gA,gD,gE];refine jo 12 (μ 71) rfl rfl gS gS gS (λ_ _ _ h=>h) (by rfl) (v:= ?_) ?_ je ?_
     rotate_left
     ·intro A Z
      (try dsimp only at Z)
      go_simp
      try with_reducible rfl
     simp only[gw,gA,gD,gE];refine aQ (rs:=[11,13]) gS gU ?_;refine aG (o:=_) rfl (λK Y=> ?_) (aG (o:=_) rfl (λK Y=> ?_) aN)
     ·go_simp
      (try go_wp2_with(fail))
      refine Y.out _ _ (by exact J) (λlF=> ?_);clear Y K;refine aQ (rs:=[13]) gS gU ?_;refine aG (o:=_) rfl (λK Y=> ?_) aN
      go_simp
      refine hIn.mono ?_;rintro e w1 ⟨v1,rfl,iV,Ty,b1,z1,X,ui⟩
      (try go_wp2_with(fail))
      refine Y.out _ _ (by exact X) (λlF=> ?_);clear Y K;have T:=ag _ _ b1;refine aQ (rs:=[14]) gS gU ?_;refine aG (o:=_) rfl (λK Y=> ?_) aN;refine uv (by rfl) (.tmp 70) (.tmp 72) 53 (by rfl) 106 i0 (.agg #[ι κ 0,ι κ 0,.string ⟨#[]⟩]) 3 32 underlying53 hi og mZ mc (by rfl) ew iv (M.j8 j).length (rO (M.j8 j)) (by rfl) Ty v1 (M.R j).j8.length (rO (M.R j).j8) (by rfl) iV (LC _) (by unfold maxLen;omega) dZ ?_;intro v2 x1 k8 kD jE;have H:x1.cell? ⟨YN,1,ν⟩=μ (σ (μ ⟨U,0,ν⟩) m cI):=(aj (a:=⟨YN,1,ν⟩) (kD.block YN (ag _ _ X) (λe=>agA.out e.symm))).trans X;have b2:x1.cell? ⟨U,j,ν⟩=μ iv:=(aj (a:=⟨U,j,ν⟩) (kD.block U T (λe=>Y8.out e.symm))).trans b1;have z2:x1.frozen? ⟨U,j,ν⟩=false:=(aL (a:=⟨U,j,ν⟩) (kD.block U T (λe=>Y8.out e.symm))).trans z1;have gl2:=ag _ _ b2;obtain⟨a2,cp2,rfl⟩:=Row.shape k8;refine Y.out _ _ (by exact H) (λlF=> ?_);clear Y K;refine jo 15 (μ 74) rfl rfl gS gS gS (λ_ _ _ h=>h) (by rfl) (v:= ?_) ?_ je ?_
      rotate_left
      ·intro A Z
       (try dsimp only at Z)
       go_simp
       try with_reducible rfl
      simp only[gw,gA];refine aQ (rs:=[16]) gS gU ?_;refine aG (o:=_) rfl (λK Y=> ?_) aN
      go_simp
      (try go_wp2_with(fail))
      refine Y.out _ _ (by exact oH H HNI.out) (λlF=> ?_);clear Y K;refine cS gS ?_ _;have HF:Hid _:=ui x1 _ k8 kD jE;clear hIn iV Ty b1 z1 J X H b2 z2 ui k8 kD jE T gl2
      go_wp2
      go_roundw
      case rel=>exact⟨j+1,dZ,by go_num,HF.out⟩
      case measure=>simp[eZ];omega
     ·go_simp
      refine hIn.mono ?_;rintro e w1 ⟨v1,rfl,iV,Ty,b1,z1,X,ui⟩
      (try go_wp2_with(fail))
      refine Y.out _ _ (by exact X) (λlF=> ?_);clear Y K;have T:=ag _ _ b1;refine aQ (rs:=[11]) gS gU ?_;refine aG (o:=_) rfl (λK Y=> ?_) aN
      go_simp
      (try go_wp2_with(fail))
      refine Y.out _ _ (by exact X) (λlF=> ?_);clear Y K;refine aQ (rs:=[14]) gS gU ?_;refine aG (o:=_) rfl (λK Y=> ?_) aN;refine uv (by rfl) (.tmp 70) (.tmp 72) 53 (by rfl) 106 i0 (.agg #[ι κ 0,ι κ 0,.string ⟨#[]⟩]) 3 32 underlying53 hi og mZ mc (by rfl) ew iv (M.j8 j).length (rO (M.j8 j)) (by rfl) Ty v1 (M.R j).j8.length (rO (M.R j).j8) (by rfl) iV (LC _) (by unfold maxLen;omega) dZ ?_;intro v2 x1 k8 kD jE;have H:x1.cell? ⟨YN,1,ν⟩=μ (σ (μ ⟨U,0,ν⟩) m cI):=(aj (a:=⟨YN,1,ν⟩) (kD.block YN (ag _ _ X) (λe=>agA.out e.symm))).trans X;have b2:x1.cell? ⟨U,j,ν⟩=μ iv:=(aj (a:=⟨U,j,ν⟩) (kD.block U T (λe=>Y8.out e.symm))).trans b1;have z2:x1.frozen? ⟨U,j,ν⟩=false:=(aL (a:=⟨U,j,ν⟩) (kD.block U T (λe=>Y8.out e.symm))).trans z1;have gl2:=ag _ _ b2;obtain⟨a2,cp2,rfl⟩:=Row.shape k8;refine Y.out _ _ (by exact H) (λlF=> ?_);clear Y K;refine jo 15 (μ 74) rfl rfl gS gS gS (λ_ _ _ h=>h) (by rfl) (v:= ?_) ?_ je ?_
      rotate_left
      ·intro A Z
       (try dsimp only at Z)
       go_simp
       try with_reducible rfl
      simp only[gw,gA];refine aQ (rs:=[16]) gS gU ?_;refine aG (o:=_) rfl (λK Y=> ?_) aN
      go_simp
      (try go_wp2_with(fail))
      refine Y.out _ _ (by exact oH H HNI.out) (λlF=> ?_);clear Y K;refine cS gS ?_ _;have HF:Hid _:=ui x1 _ k8 kD jE;clear hIn iV Ty b1 z1 J X H b2 z2 ui k8 kD jE T gl2
      go_wp2
      go_roundw
      case rel=>exact⟨j+1,dZ,by go_num,HF.out⟩
      case measure=>simp[eZ];omega
    ·have hjm:¬(j:Int)<(m:Int):=dZ;obtain rfl:j=m:=dZ;have HW:Hid (iF w wr y n.gather j):=by
      show iF _ _ _ _ _;rw[HE.out];exact hwj
     clear hwj
     go_wp2
     first|go_end0|refine iK rfl rfl ?_
     exact⟨rfl,HW.out⟩
theorem jF.Dw {n:iM} (h:jF w y n)(hi:i<n.n)(Y:iD w w' (y.z i) r (n.R i).n)(X:r.n=(n.R i).n/\r.id=(n.R i).id):iF w w' y (n.jB i r) n.n:=by
 obtain⟨Z,V⟩:=h.rn i hi;rw[Z]at Y;exact h.EH hi Y ⟨X.1.trans Z,X.2.trans V⟩
theorem Sc(y:Yt)(n:iM)(D k i:Nat)(w:dX)(h:jF w y n)(X:jf w)(Y:j3 n D k)(hD:D<=1000000000)(V:k<=90000)(hi:i<n.n):
 eX eY 25 #[π (μ ⟨(y.z i).R,0,ν⟩)] w λe w'=>e=ρ (τ #[])/\iF w w' y (n.jB i (n.R i).tick) n.n:=by
 refine(RP (y.z i) (n.R i) k w (h.rt i hi) X (Y.ok i hi) (Y.fits dZ hi) V).mono ?_;rintro e w1 ⟨rfl,U⟩;have Z:=jG.ja (n.R i) (n.R i).n;exact⟨rfl,h.Dw hi U ⟨Z.n,Z.id⟩⟩
theorem Sd(y:Yt)(n:iM)(D k i:Nat)(t:Int)(tx:ByteArray)(w:dX)(h:jF w y n)(Y:j3 n D k)(hD:D<=1000000000)(hk:k<=90000)(hi:i<n.n):
 eX eY 27 #[π (μ ⟨(y.z i).R,0,ν⟩),ι κ t,.string tx] w λe w'=>e=ρ (ji (kf (n.R i) t tx.data.toList).2)/\iF w w' y (n.jB i (kf (n.R i) t tx.data.toList).1) n.n:=by
 refine(RT (y.z i) (n.R i) k t tx w (h.rt i hi) (Y.ok i hi) (Y.fits dZ hi) dZ).mono ?_;rintro e w1 ⟨rfl,X⟩;have Z:=jG.kf (n.R i) t tx.data.toList;exact⟨rfl,h.Dw hi X ⟨Z.n,Z.id⟩⟩
theorem Bn(h:k<m)(hm:m<=6):κ.wrap ((k:Int)+1-1)=(k:Int):=by
 have:(k:Int)+1-1=k:=dZ;rw[this];exact aS _ ⟨dZ,dZ⟩
theorem LJ(y:Yt)(n:iM)(D:Nat)(i:Int)(w:dX)(h:jF w y n)(U:jf w)(Y:j3 n D 0)(hD:D<=900000000):
 eX eY 56 #[π (μ ⟨y.N,0,ν⟩),ι κ i] w λe w'=>e=ρ (ji (n.tick i).2)/\iF w w' y (n.tick i).1 n.n:=by
 have hh:=qV y n i w h;rcases yP i n.n with⟨hn,hi⟩|⟨k,Z,rfl⟩
 ·have V:n.tick i=(n,6):=by unfold iM.tick;rw[ai hi]
  rw[V];rw[hn]at hh;have X:Hid _:=iF.refl h;clear h Y U
  go_in
  go_wp2_with(fail);refine hh.mono ?_;rintro e w1 ⟨rfl,rfl⟩;clear hh
  go_wp2
  go_ret;exact⟨rfl,X.out⟩
 ·rw[zO Z]at hh;have V:n.tick ((k:Int)+1)=((n.jB k (n.R k).tick).gather,0):=by
   unfold iM.tick;have j:((k:Int)+1-1).toNat=k:=dZ;rw[af dZ,j]
  rw[V];have c0:=h.k0;have cl:=h.yc;have d0:=h.ptr Z;have dl:=h.RX;have n6:=h.n6;have hw:=Bn Z n6;have kT:(k:Int)<(n.n:Int):=dZ;have MC:(0:Int)<=(k:Int):=dZ;have T:=Sc y n D 0 k w h U Y dZ dZ Z;have M:=Y.jb dZ Z;have hg:Hid (∀W,iF w W y (n.jB k (n.R k).tick) n.n->eX eY 111 #[π (μ ⟨y.N,0,ν⟩)] W λe w'=>e=ρ (τ #[])/\iF w w' y (n.jB k (n.R k).tick).gather n.n):=by
   intro W hW;refine hW.call λy1 G s1=> ?_;rw[<-s1.N];exact sO y1 _ D _ W G M dZ dZ
  have A:ji 0=η:=rfl;rw[A];clear h Y U M
  go_in
  go_wp2_with(fail);refine hh.mono ?_;rintro e w1 ⟨rfl,rfl⟩;clear hh;go_wp2_with(fail);refine T.mono ?_;rintro e w1 ⟨rfl,J⟩;have S:=hg.out _ J;clear T J;go_wp2_with(fail);refine S.mono ?_;rintro e w2 ⟨rfl,H⟩;have X:Hid _:=H;clear S H
  go_wp2
  go_ret;exact⟨rfl,X.out⟩
theorem VY(y:Yt)(n:iM)(D:Nat)(i t:Int)(tx:ByteArray)(w:dX)(h:jF w y n)(S:j3 n D 0)(hD:D<=900000000):
 eX eY 53 #[π (μ ⟨y.N,0,ν⟩),ι κ i,ι κ t,.string tx] w λe w'=>e=ρ (ji (n.send i t tx.data.toList).2)/\iF w w' y (n.send i t tx.data.toList).1 n.n:=by
 have hh:=qV y n i w h;rcases yP i n.n with⟨hn,hi⟩|⟨k,U,rfl⟩
 ·have V:n.send i t tx.data.toList=(n,6):=by unfold iM.send;rw[ai hi]
  rw[V];rw[hn]at hh;have X:Hid _:=iF.refl h;clear h S
  go_in
  go_wp2_with(fail);refine hh.mono ?_;rintro e w1 ⟨rfl,rfl⟩;clear hh
  go_wp2
  go_ret;exact⟨rfl,X.out⟩
 ·rw[zO U]at hh;have e1:((k:Int)+1-1).toNat=k:=dZ;have c0:=h.k0;have cl:=h.yc;have d0:=h.ptr U;have dl:=h.RX;have n6:=h.n6;have hw:=Bn U n6;have kT:(k:Int)<(n.n:Int):=dZ;have MC:(0:Int)<=(k:Int):=dZ;have Z:=Sd y n D 0 k t tx w h S dZ dZ U;have H:=S.VT dZ U t tx.data.toList;obtain⟨q,T⟩:=gg (kf (n.R k) t tx.data.toList);have V:n.send ((k:Int)+1) t tx.data.toList=if q.2≠0 then(n,q.2)else((n.jB k q.1).gather,0):=by
   unfold iM.send;rw[af dZ,e1,T]
  rw[V];rw[T]at Z H;have A:Hid (∀W,iF w W y (n.jB k q.1) n.n->eX eY 111 #[π (μ ⟨y.N,0,ν⟩)] W λe w'=>e=ρ (τ #[])/\iF w w' y (n.jB k q.1).gather n.n):=by
   intro W hW;refine hW.call λy1 R1 s1=> ?_;rw[<-s1.N];exact sO y1 _ _ _ W R1 H dZ dZ
  have G:q.2≠0->q.1=n.R k:=λJ=>by
   rw[<-T]at J⊢;unfold Rt.kf at J⊢;split at J;{rename_i hc;rw[ai hc]};{exact absurd rfl J}
  have vp:n.jB k (n.R k)=n:=by
   unfold iM.jB;rw[wy]
  by_cases Y:q.2=0
  ·rw[af (by simp[Y])];rw[Y]at Z;have e0:ji 0=η:=rfl;rw[e0]at Z⊢;clear h S H G V T Y
   go_in
   go_wp2_with(fail);refine hh.mono ?_;rintro e w1 ⟨rfl,rfl⟩;clear hh;go_wp2_with(fail);refine Z.mono ?_;rintro e w1 ⟨rfl,M⟩;have j:=A.out _ M;clear Z M;go_wp2_with(fail);refine j.mono ?_;rintro e w2 ⟨rfl,vK⟩;have X:Hid _:=vK;clear j vK
   go_wp2
   go_ret;exact⟨rfl,X.out⟩
  ·rw[ai Y];rw[G Y,vp]at Z;have ee:ji q.2=.iface 128 (ι κ (q.2:Int)):=by simp only[ji];rw[af Y]
   rw[ee]at Z⊢;clear h S H G V T A Y
   go_in
   go_wp2_with(fail);refine hh.mono ?_;rintro e w1 ⟨rfl,rfl⟩;clear hh;go_wp2_with(fail);refine Z.mono ?_;rintro e w1 ⟨rfl,M⟩;have X:Hid _:=M;clear Z M
   go_wp2
   go_ret;exact⟨rfl,X.out⟩
theorem iF.aaW {W:dX} {y1:Yt} {n:iM} {R:Nat} (Y:jF W y1 n)(s1:y.same y1)(hi:i<n.n)(hc:W.cell? ⟨y.gR,i,ν⟩=μ (π (μ ⟨R,0,ν⟩))):(y1.z i).R=R:=by
 have Z:=Y.ptr hi;rw[s1.gR,hc]at Z;have X:=Option.some.inj Z;injection X with V
 injection V with U
 injection U with T
 exact T.symm
def zR(W3:dX)(y:Yt)(n n1:iM)(i R:Nat)(b:Bool)(W:dX):Prop:=iF W3 W y (if b=true then n1 else n) n.n/\W.cell? ⟨y.gR,i,ν⟩=μ (π (μ ⟨R,0,ν⟩))
theorem zR.below {W3:dX} {y:Yt} {n n1:iM} {i R:Nat} {b:Bool} {W W':dX} (h:zR W3 y n n1 i R b W)(Z:n1.n=n.n)(hb:eB W W'):zR W3 y n n1 i R b W':=by
 refine⟨h.1.below (by cases b<;>simp[Z]) hb,?_⟩;exact(aj (a:=⟨y.gR,i,ν⟩) (hb.block y.gR (ag _ _ h.2))).trans h.2
theorem Se(V:dX)(y:Yt)(n n1:iM)(i p R:Nat)(b:Bool)(W:dX)(U:n1.n=n.n)(hi:i<n.n)(Z:zR V y n n1 i R b W):
 eX eY 157 #[π (μ ⟨y.N,0,ν⟩),.agg #[ι κ ((i:Int)+1),ι κ (p:Int)]] W λe w'=>e=ρ (π (μ ⟨R,0,ν⟩))/\zR V y n n1 i R b w':=by
 obtain⟨S,X,s1,vP,zd⟩:=Z.1.ex;have Y:(if b=true then n1 else n).n=n.n:=by cases b<;>simp[U]
 have T:=iF.aaW X s1 (by rw[Y];exact hi) Z.2;rw[<-s1.N];refine(Oe S _ i p W X (by rw[Y];exact hi)).mono ?_;rintro e w1 ⟨rfl,b1⟩;exact⟨by rw[T],Z.below U b1⟩
theorem LK(U:dX)(y:Yt)(n:iM)(D c d g i R:Nat)(many:Int)(W:dX)(G:j3 n D 0)(hc:c<n.nc)(hd:d<2)(H:y.gC=μ g)(n1:iM)(A:n.lq c {n.C c with on:=jU (n.C c).on d (((n.C c).on d).drop (min many.toNat ((n.C c).on d).length))}=n1)(J:zR U y n n1 i R false W):
 eX eY 158 #[π (μ ⟨g,c*7,ν⟩),ι κ (d:Int),ι κ many] W λe w'=>e=ρ (.string ⟨(((n.C c).on d).take (min many.toNat ((n.C c).on d).length)).toArray⟩)/\zR U y n n1 i R true w':=by
 obtain⟨Y,T⟩:=J;have Y:iF U W y n n.n:=Y;obtain⟨V,Z,s1,j,h⟩:=Y.ex;have X:V.gC=μ g:=by rw[s1.gC];exact H
 refine(R6 g (c*7) d (n.C c) (V.ov c) many W hd (Z.rc g X c hc) (Z.ob c d hc hd) (Z.agu X) (Z.ol c d hc hd)).mono ?_;rintro e w1 ⟨rfl,v',M⟩;have S:=Z.cbW hc hd X M rfl (λx hx=>iC _ _ hx) (by
  show(jU (n.C c).on d _ d).length<=2000;rw[iE,dG];have:=G.ol c d hc hd;omega)
 rw[A]at S;refine⟨rfl,iF.qL Y.kept s1 j h S,?_⟩;rw[<-s1.gR]at T⊢;refine(aj (a:=⟨V.gR,i,ν⟩) (M.block V.gR Z.RX (λe=> ?_) (λe=> ?_))).trans T;{exact Z.wD (l:=.R) (l':=.C) rfl X (by intro e;cases e) e};{exact Z.wD (l:=.on c d) (l':=.R) e rfl (by intro e;cases e) rfl}
theorem LL(Z:dX)(y:Yt)(n:iM)(D c d i p R q:Nat)(W:dX)(T:j3 n D 0)(hD:D<=900000000)(h3:jF Z y n)(hT:jf Z)(hc:c<n.nc)(hd:d<2)(G:(n.C c).e (1-d)=(i,p))(n1:iM)(H:n.lq c {n.C c with on:=jU (n.C c).on d (((n.C c).on d).drop q)}=n1)(hW:zR Z y n n1 i R true W):
 eX eY 23 #[π (μ ⟨R,0,ν⟩),ι κ (p:Int),.string ⟨(((n.C c).on d).take q).toArray⟩] W λe w'=>e=ρ η/\iF Z w' y (n.jq c d q) n.n:=by
 obtain⟨Y,h2⟩:=hW;have Y:iF Z W y n1 n.n:=Y;have hi:=(T.en c (1-d) hc dZ)
 rw[G]at hi;have S:n1.n=n.n:=by rw[<-H];rfl
 have X:n1.R=n.R:=by rw[<-H];rfl
 have J:=Y.tab h3 rfl hT;obtain⟨y1,M,s1,vP,zd⟩:=Y.ex;have hR:=iF.aaW M s1 (by rw[S];exact hi.1) h2;rw[<-hR];have hl:=T.ol c d hc hd;have rS:(⟨(((n.C c).on d).take q).toArray⟩:ByteArray).size<=2000:=by
  show Array.size _<=_;simp;omega
 have V:=M.rt i (by rw[S];exact hi.1);have XW:=T.fits dZ (i:=i) hi.1;rw[X]at V;refine(VF _ (y1.z i) (n.R i) p 0 W V J (T.ok i hi.1) XW dZ (by rw[(T.rn i hi.1).1];exact hi.2)).mono ?_;rintro e w1 ⟨rfl,j⟩;have e1:(⟨(((n.C c).on d).take q).toArray⟩:ByteArray).data.toList=((n.C c).on d).take q:=gU;rw[e1]at j;have h:=jG.recv (n.R i) p (((n.C c).on d).take q);have vm:i<n1.n:=by rw[S];exact hi.1
 have U:iF W w1 y1 (n1.jB i ((n.R i).recv p (((n.C c).on d).take q))) n1.n:=by
  have A:(n.R i)=n1.R i:=by rw[X]
  refine M.Dw vm ?_ ?_;{rw[<-A];exact j};{rw[<-A];exact⟨h.n,h.id⟩}
 rw[S]at U;refine⟨rfl,iF.qL Y.kept s1 vP zd ?_⟩;have e3:n.jq c d q=n1.jB i ((n.R i).recv p (((n.C c).on d).take q)):=by
  unfold iM.jq;rw[G,H]
 rw[e3];exact U
theorem Ck {p q r:Addr} {o:Obj} (h:w.cell? p=μ u/\w.cell? q=μ v/\w.cell? r=μ t):(w.alloc o).cell? p=μ u/\(w.alloc o).cell? q=μ v/\(w.alloc o).cell? r=μ t:=⟨mI h.1,mI h.2.1,mI h.2.2⟩
theorem Ok {a1 a2:dY} (h:x.cell? ⟨b,k,ν⟩=μ u/\x.cell? ⟨c,l,ν⟩=μ v/\x.cell? ⟨d,m,ν⟩=μ t)(hb:b≠g)(hc:c≠g)(hd:d≠g):
 ((x.setCell ⟨g,0,ν⟩ a1).setCell ⟨g,1,ν⟩ a2).cell? ⟨b,k,ν⟩=μ u/\((x.setCell ⟨g,0,ν⟩ a1).setCell ⟨g,1,ν⟩ a2).cell? ⟨c,l,ν⟩=μ v/\((x.setCell ⟨g,0,ν⟩ a1).setCell ⟨g,1,ν⟩ a2).cell? ⟨d,m,ν⟩=μ t:=
 ⟨oH (oH h.1 hb) hb,oH (oH h.2.1 hc) hc,oH (oH h.2.2 hd) hd⟩
theorem Y9(c:qC)(o:Nat->dY)(x:Nat)(hx:x<2):C2 c o (x*2)=ι κ (((c.e x).1:Int)+1)/\C2 c o (x*2+1)=ι κ ((c.e x).2:Int):=by
 have:x=0 \/x=1:=dZ;rcases this with rfl|rfl<;>exact⟨rfl,rfl⟩
theorem Cm(y:Yt)(n:iM)(D:Nat)(i d many:Int)(w:dX)(h:jF w y n)(hT:jf w)(iO:j3 n D 0)(hD:D<=900000000):
 eX eY 101 #[π (μ ⟨y.N,0,ν⟩),ι κ i,ι κ d,ι κ many] w λe w'=>e=ρ (ji (n.deliver i d many).2)/\iF w w' y (n.deliver i d many).1 n.n:=by
 have hh:=Od y n i d w h;rcases Oc i d n.nc with⟨hn,hi⟩|⟨c,k,hc,hk,rfl,rfl⟩
 ·have hE:n.deliver i d many=(n,6):=by unfold iM.deliver;rw[ai hi]
  rw[hE];rw[hn]at hh;have HW:Hid _:=iF.refl h;clear h iO hT
  go_in
  go_wp2_with(fail);refine hh.mono ?_;rintro e w1 ⟨rfl,rfl⟩;clear hh
  go_wp2
  go_ret;exact⟨rfl,HW.out⟩
 ·rw[VO hc hk]at hh;obtain⟨q,hq⟩:=gg (min many.toNat ((n.C c).on k).length);have hE:n.deliver (c:Int) (k:Int) many=((n.jq c k q).gather,0):=by
   unfold iM.deliver;rw[af dZ,Int.toNat_natCast,Int.toNat_natCast,hq]
  rw[hE];have e0:ji 0=η:=rfl;rw[e0];obtain⟨a,cp,wi,LD⟩:=h.cvs;obtain⟨g,hg,rfl⟩:=LD c hc;have kX:=iO.jq (D:=D) (k:=0) (c:=c) (d:=k) (q:=q) dZ hc hk;have hG:Hid (∀W,iF w W y (n.jq c k q) n.n->eX eY 111 #[π (μ ⟨y.N,0,ν⟩)] W λe w'=>e=ρ (τ #[])/\iF w w' y (n.jq c k q).gather n.n):=by
   intro W V;refine V.call λy1 R1 s1=> ?_;rw[<-s1.N];exact sO y1 _ _ _ W R1 kX dZ dZ
  obtain⟨x,hx⟩:=gg (1-k);have Da:x<2:=dZ;have hot:=λW=>RY k hk W;rw[hx]at hot;obtain⟨j,p,M⟩:∃j p,(n.C c).e x=(j,p):=⟨_,_,rfl⟩
  have HF:Hid (∀W,eB w W->W.cell? ⟨y.N,3,ν⟩=μ (σ (μ ⟨g,0,ν⟩) n.nc cp)/\W.cell? ⟨g,c*7+x*2,ν⟩=μ (ι κ ((j:Int)+1))/\W.cell? ⟨g,c*7+x*2+1,ν⟩=μ (ι κ (p:Int))):=by
   intro W hb;have R1:=h.below hb;have h3:=R1.k3;rw[wi]at h3;have h4:=(R1.rc g hg c hc).cell (x*2) dZ;have h5:=(R1.rc g hg c hc).cell (x*2+1) dZ;obtain⟨g1,g2⟩:=Y9 (n.C c) (y.ov c) x Da;rw[g1,M]at h4;rw[g2,M]at h5;exact⟨h3,h4,h5⟩
  have HH:Hid _:=h;have HT:Hid _:=hT;have QS:Hid _:=iO;have HG:Hid _:=hg;have HJP:Hid _:=M;have HX:Hid _:=hx;have HQ:Hid _:=hq;have c9:=h.c9;have jX:(c:Int)<(n.nc:Int):=dZ;have rI:(0:Int)<=(c:Int):=dZ;have vE:(x:Int)<2:=dZ;have hx0:(0:Int)<=(x:Int):=dZ;obtain⟨nc,tY⟩:=gg (n.nc);rw[tY]at HF jX c9;obtain⟨J,A⟩:=gg (y.N);rw[A]at HF hh⊢;have S:Hid _:=A;have HC:Hid _:=hc;clear h iO hT wi LD kX hE M tY hq A hc hg;have U:=HF.out w.drew (iZ w);have gl:g<w.drew.heap.size:=ag _ _ U.2.1;have Nl:J<w.drew.heap.size:=ag _ _ U.1;have gne:g≠w.heap.size:=by have:g<w.heap.size:=gl;omega
  have Nne:J≠w.heap.size:=by have:J<w.heap.size:=Nl;omega
  go_in
  go_wp2_with(fail);refine hh.mono ?_;rintro e w1 ⟨rfl,rfl⟩;clear hh
  go_wp2
  go_cut [9] (λv Z=>∃Y:Nat,v=π (μ ⟨Y,0,ν⟩)/\Z.cell? ⟨Y,0,ν⟩=μ (ι κ ((j:Int)+1))/\Z.cell? ⟨Y,1,ν⟩=μ (ι κ (p:Int))/\eB w Z/\w.heap.size<=Y)
  case first=>
   go_region_held3(λx'=>x'.cell? ⟨J,3,ν⟩=μ (σ (μ ⟨g,0,ν⟩) nc cp)/\x'.cell? ⟨g,c*7+x*2,ν⟩=μ (ι κ ((j:Int)+1))/\x'.cell? ⟨g,c*7+x*2+1,ν⟩=μ (ι κ (p:Int)))
    (first|assumption|exact U|exact Ck U|exact Ok (Ck U) Nne gne gne)
    (first|(go_at_call 156;refine(hot _).mono ?_;rintro e w1 ⟨rfl,rfl⟩))
   all_goals
    go_wp2_with(fail)
    go_meet
    have hB:iX (w.alloc (γ #[ι κ ((j:Int)+1),ι κ (p:Int)] 192)).drew w.heap.size #[ι κ ((j:Int)+1),ι κ (p:Int)] 192:=(iX.new w _ _).drew;exact⟨_,rfl,hB.cell 0,hB.cell 1,jD (gT _ _),Nat.le_refl _⟩
  case rest=>
   obtain⟨Y,rfl,y0,y1,sg,hY⟩:=hcut
   rename dX=>Z
   have R3:=HH.out.below sg;have hT3:jf Z:=jf.below (w:=w) HT.out sg;have Yl:=ag _ _ y0;have hYn:¬y.all n.n Y:=λe=>by
    have:=HH.out.Ci e;omega
   obtain⟨n1,mO⟩:=gg (n.lq c {n.C c with on:=jU (n.C c).on k (((n.C c).on k).drop q)});have Aq:n1.n=n.n:=by rw[<-mO];rfl
   have agB:n1.nc=n.nc:=by rw[<-mO];rfl
   have OY:j<n.n:=by have:=(QS.out.en c x HC.out Da).1;rw[HJP.out]at this;exact this
   have agC:(n.C c).e (1-k)=(j,p):=by rw[HX.out];exact HJP.out
   have hF3:=HF.out;have FW:∀(W:dX) (n':iM),n'.nc=n.nc->iF Z W y n' n.n->W.cell? ⟨Y,0,ν⟩=μ (ι κ ((j:Int)+1))/\W.cell? ⟨Y,1,ν⟩=μ (ι κ (p:Int))/\W.cell? ⟨J,3,ν⟩=μ (σ (μ ⟨g,0,ν⟩) nc cp):=by
    intro W n' hn' V;have uI:=V.kept.block Y Yl hYn;refine⟨(aj (a:=⟨Y,0,ν⟩) uI).trans y0,(aj (a:=⟨Y,1,ν⟩) uI).trans y1,?_⟩;have h3:=(hF3 Z sg).1;have k3:=R3.k3;rw[S.out,h3]at k3;have k4:=V.k3;rw[hn',<-Option.some.inj k3,S.out]at k4;exact k4
   have H:∀(b:Bool) (W:dX),zR Z y n n1 j (y.z j).R b W->W.cell? ⟨Y,0,ν⟩=μ (ι κ ((j:Int)+1))/\W.cell? ⟨Y,1,ν⟩=μ (ι κ (p:Int))/\W.cell? ⟨J,3,ν⟩=μ (σ (μ ⟨g,0,ν⟩) nc cp):=by
    intro b W V;refine FW W _ ?_ V.1;cases b;{rfl};{exact agB}
   have hat:=λ(b:Bool) (W:dX) (V:zR Z y n n1 j (y.z j).R b W)=>Se Z y n n1 j p (y.z j).R b W Aq OY V;have zc:=λ(W:dX) (V:zR Z y n n1 j (y.z j).R false W)=>LK Z y n D c k g j (y.z j).R many W QS.out HC.out hk HG.out n1 (by rw[HQ.out];exact mO) V;have X:∀(W:dX),zR Z y n n1 j (y.z j).R true W->eX eY 23 #[π (μ ⟨(y.z j).R,0,ν⟩),ι κ (p:Int),.string ⟨(((n.C c).on k).take q).toArray⟩] W λe w'=>e=ρ η/\iF Z w' y (n.jq c k q) n.n/\(w'.cell? ⟨Y,0,ν⟩=μ (ι κ ((j:Int)+1))/\w'.cell? ⟨Y,1,ν⟩=μ (ι κ (p:Int))/\w'.cell? ⟨J,3,ν⟩=μ (σ (μ ⟨g,0,ν⟩) nc cp)):=by
    intro W V;refine(LL Z y n D c k j p (y.z j).R q W QS.out hD R3 hT3 HC.out hk agC n1 mO V).mono ?_;rintro e w' ⟨rfl,hw⟩;exact⟨rfl,hw,FW w' (n.jq c k q) rfl hw⟩
   rw[HQ.out]at zc;have t0:zR Z y n n1 j (y.z j).R false Z.drew:=⟨iF.still R3 (iZ Z),(aj (a:=⟨y.gR,j,ν⟩) rfl).trans (R3.ptr OY)⟩
   have U:=H _ _ t0;have J9:Hid _:=sg;generalize (y.z j).R=RR at hat zc X t0 H;generalize (⟨(((n.C c).on k).take q).toArray⟩:ByteArray)=sx at zc X;obtain⟨T,hTe⟩:=gg (zR Z y n n1 j RR);obtain⟨T2,agD⟩:∃T2:dX->Prop,(λw'=>iF Z w' y (n.jq c k q) n.n)=T2:=⟨_,rfl⟩
   have G:∀x,iF Z x y (n.jq c k q) n.n=T2 x:=λx=>cu agD x;have HT2:Hid _:=G;simp only[G]at X;rw[hTe]at hat zc X t0 H;rw[S.out]at hat;have Yl2:Y<Z.drew.heap.size:=Yl;have cl2:=ag _ _ U.2.2;clear FW mO Aq agB hF3 R3 hT3 hYn hTe agD G agC y0 y1 sg U hot;have U:=H _ _ t0
   go_wp2
   go_region_held3(λx'=>x'.cell? ⟨Y,0,ν⟩=μ (ι κ ((j:Int)+1))/\x'.cell? ⟨Y,1,ν⟩=μ (ι κ (p:Int))/\x'.cell? ⟨J,3,ν⟩=μ (σ (μ ⟨g,0,ν⟩) nc cp))
    (first|assumption|exact U|exact F1|exact F2|exact F3)
    (first
     |(go_at_call 157;refine(hat _ _ je).mono ?_;rintro e w1 ⟨rfl,t1⟩;have F1:=H _ _ t1)
     |(go_at_call 158;refine(zc _ je).mono ?_;rintro e w2 ⟨rfl,t2⟩;have F2:=H _ _ t2)
     |(go_at_call 23;refine(X _ je).mono ?_;rintro e w3 ⟨rfl,t3,F3⟩))
   all_goals
    have xN:=t3;rw[<-HT2.out]at xN;have kD:=hG.out _ (iF.first J9.out xN);rw[S.out]at kD;clear xN hat zc X t0 t1 t2 t3 H U F1 F2 F3;go_wp2_with(fail);refine kD.mono ?_;rintro e w4 ⟨rfl,PY⟩;have HW:Hid _:=PY;clear kD PY
    go_wp2
    go_ret;exact⟨rfl,HW.out⟩
theorem adb(w:dX):(zeroValue 195).run eY w=.ok (.agg #[σ ν 0 0,σ ν 0 0]) w:=gS
theorem Cn(w:dX)(y:Yt)(M:iM)(D k c d m:Nat)(up:Bool)(U:j3 M D k)(hD:D<=900000000)(hk:k<=90000)(hc:c<M.nc)(hd:d<2)(hm:M.n=m)(i p:Nat)(G:(M.C c).e d=(i,p))(V Z:dX)(hW:iF w V y M m)(hT:jf V)(hb:eB V Z)(E:Nat)(u v:dY)(hE:V.heap.size<=E)(Y:Z.cell? ⟨E,0,ν⟩=μ u/\Z.cell? ⟨E,1,ν⟩=μ v):
 eX eY 157 #[π (μ ⟨y.N,0,ν⟩),.agg #[ι κ ((i:Int)+1),ι κ (p:Int)]] Z λe w1=>∃R,e=ρ (π (μ ⟨R,0,ν⟩))/\(w1.cell? ⟨E,0,ν⟩=μ u/\w1.cell? ⟨E,1,ν⟩=μ v)/\
  eX eY 20 #[π (μ ⟨R,0,ν⟩),ι κ (p:Int),.bool up] w1 λe T=>∃f:Nat,e=ρ (ji f)/\(T.cell? ⟨E,0,ν⟩=μ u/\T.cell? ⟨E,1,ν⟩=μ v)/\iF w T y (M.mU c d up) m:=by
 subst hm;obtain⟨hi,hp⟩:=U.en c d hc hd;rw[G]at hi hp;obtain⟨H,A,s1,vP,zd⟩:=hW.ex;have j:=A.below hb;have X:E<Z.heap.size:=ag _ _ Y.1;have J:¬H.all M.n E:=λe=>by
  have:=A.Ci (k:=E) e;omega
 rw[<-s1.N];refine(Oe H _ i p Z j hi).mono ?_;rintro e w1 ⟨rfl,b1⟩;refine⟨_,rfl,⟨(aj (a:=⟨E,0,ν⟩) (b1.block E X)).trans Y.1,(aj (a:=⟨E,1,ν⟩) (b1.block E X)).trans Y.2⟩,?_⟩;have S:E<w1.heap.size:=Nat.lt_of_lt_of_le X b1.size;have h:=j.below b1;have XE:jf w1:=jf.below (w:=V) hT (gh hb b1);refine(RU up (H.z i) (M.R i) p k w1 (h.rt i hi) XE (U.ok i hi) (U.fits dZ hi) dZ (by rw[(U.rn i hi).1];exact hp)).mono ?_;rintro e T ⟨rfl,hw⟩;have hg:=jG.iH (M.R i) p up;have vK:=h.Dw hi hw ⟨hg.n,hg.id⟩;have rL:=vK.kept.block E S J;refine⟨_,rfl,⟨(aj (a:=⟨E,0,ν⟩) (rL.trans (b1.block E X))).trans Y.1,(aj (a:=⟨E,1,ν⟩) (rL.trans (b1.block E X))).trans Y.2⟩,?_⟩;have e1:M.mU c d up=M.jB i ((M.R i).iH p up).1:=by
  unfold iM.mU;rw[G]
 rw[e1];exact iF.qL hW.kept s1 vP zd (iF.first (gh hb b1) vK)
theorem jF.turn {n:iM} (h:jF w y n)(hc:c<n.nc)(Y:y.gC=μ g)(up:Bool)(hx:x=((w.setCell ⟨g,c*7+4,ν⟩ (.bool up)).setCell ⟨g,c*7+5,ν⟩ (σ ν 0 0)).setCell ⟨g,c*7+6,ν⟩ (σ ν 0 0)):
 iF w x y (n.lq c {n.C c with iQ:=up,on:=λ_=>[] }) n.n:=by
 have hC:=h.rc g Y c hc;have V:=((hC.set 4 ew (.bool up)).set 5 ew (σ ν 0 0)).set 6 ew (σ ν 0 0);have rS:x.heap.size=w.heap.size:=by rw[hx];simp
 have T:∀k,k≠g->x.heap[k]? =w.heap[k]? :=λk Z=>by
  rw[hx,ak _ _ _ k Z,ak _ _ _ k Z,ak _ _ _ k Z]
 have b1:Below 0 w x:=by rw[hx];exact(((au 0 w).setCell (Nat.zero_le _) _).setCell (Nat.zero_le _) _).setCell (Nat.zero_le _) _
 refine h.PO hc Y _ (λ_=>σ ν 0 0) dZ b1.os b1.tape b1.output (λk _ X _=>T k X) (λj U=> ?_) (λj=> ?_) ?_ (λd _=>Row.nil _ 1) (λd _=>Nat.zero_le _) rfl (λd k _ e=>by simp[eh]at e) (λk e=>by simp[eh]at e);{rw[hx];rw[aX _ _ _ _ (λe=>by have:=congrArg gL e;simp at this;omega),aX _ _ _ _ (λe=>by have:=congrArg gL e;simp at this;omega),aX _ _ _ _ (λe=>by have:=congrArg gL e;simp at this;omega)]};{rw[hx,mE,mE,mE]};{rw[hx];refine V.congr λj U=> ?_;have:j=0 \/j=1 \/j=2 \/j=3 \/j=4 \/j=5 \/j=6:=dZ;rcases this with rfl|rfl|rfl|rfl|rfl|rfl|rfl<;>rfl}
theorem Ib(y:Yt)(n:iM)(D k c:Nat)(up:Bool)(w:dX)(h:jF w y n)(hT:jf w)(iO:j3 n D k)(hD:D<=900000000)(hk:k<=80000)(hc:c<n.nc):
 eX eY 113 #[π (μ ⟨y.N,0,ν⟩),ι κ (c:Int),.bool up] w λe w'=>e=ρ (τ #[])/\iF w w' y (n.jZ c up) n.n:=by
 have c3:=h.k3;obtain⟨a,cp,wi,LD⟩:=h.cvs;obtain⟨g,hg,rfl⟩:=LD c hc;rw[wi]at c3;have cl:=h.yc;have c9:=h.c9;have jX:(c:Int)<(n.nc:Int):=dZ;have rI:(0:Int)<=(c:Int):=dZ;have hC:=h.rc g hg c hc;have gl:=hC.lt ew;have k4:=hC.cell 4 ew;have f4:=hC.fz 4 ew;have k5:=hC.cell 5 ew;have f5:=hC.fz 5 ew;have k6:w.cell? ⟨g,c*7+5+1,ν⟩=_:=hC.cell 6 ew;have f6:w.frozen? ⟨g,c*7+5+1,ν⟩=false:=hC.fz 6 ew;have hzo:=adb;obtain⟨i0,Y,LG⟩:∃i0 Y,(n.C c).e 0=(i0,Y):=⟨_,_,rfl⟩
 obtain⟨i1,X,LH⟩:∃i1 X,(n.C c).e 1=(i1,X):=⟨_,_,rfl⟩
 have k0:w.cell? ⟨g,c*7,ν⟩=μ (ι κ ((i0:Int)+1)):=by
  have:=hC.cell 0 ew;rw[(Cj _ _).1,LG]at this;exact this
 have k1:w.cell? ⟨g,c*7+1,ν⟩=μ (ι κ (Y:Int)):=by
  have:=hC.cell 1 ew;rw[(Cj _ _).2.1,LG]at this;exact this
 have k2:w.cell? ⟨g,c*7+2,ν⟩=μ (ι κ ((i1:Int)+1)):=by
  have:=hC.cell 2 ew;rw[(Cj _ _).2.2.1,LH]at this;exact this
 have k3:w.cell? ⟨g,c*7+3,ν⟩=μ (ι κ (X:Int)):=by
  have:=hC.cell 3 ew;rw[(Cj _ _).2.2.2.1,LH]at this;exact this
 have H0:Hid (iF w (((w.setCell ⟨g,c*7+4,ν⟩ (.bool up)).setCell ⟨g,c*7+5,ν⟩ (σ ν 0 0)).setCell ⟨g,c*7+5+1,ν⟩ (σ ν 0 0)) y (n.lq c {n.C c with iQ:=up,on:=λ_=>[] }) n.n):=h.turn hc hg up rfl;have Za:j3 (n.lq c {n.C c with iQ:=up,on:=λ_=>[] }) D k:=iO.lq (λ_=>rfl) (λ_ _ _=>Nat.zero_le _);obtain⟨V,Lu⟩:=gg (n.lq c {n.C c with iQ:=up,on:=λ_=>[] });have hMC:(V.C c).e=(n.C c).e:=by
  rw[<-Lu];show(if c=c then _ else n.C c).e=_;rw[ai rfl]
 have hMn:V.n=n.n:=by rw[<-Lu];rfl
 have S:V.nc=n.nc:=by rw[<-Lu];rfl
 have HE1:Hid (n.jZ c up=(V.mU c 0 up).mU c 1 up):=by
  show _=_;unfold iM.jZ;rw[Lu]
 rw[Lu]at H0 Za;have kX:j3 (V.mU c 0 up) D (k+1):=Za.VR dZ (by rw[S];exact hc) ew up;have j:Hid (∀Z,iF w Z y V n.n->
  eX eY 157 #[π (μ ⟨y.N,0,ν⟩),.agg #[ι κ ((i0:Int)+1),ι κ (Y:Int)]] (Z.alloc (γ #[ι κ ((i0:Int)+1),ι κ (Y:Int)] 192)).drew λe w1=>∃R,e=ρ (π (μ ⟨R,0,ν⟩))/\(w1.cell? ⟨Z.heap.size,0,ν⟩=μ (ι κ ((i0:Int)+1))/\w1.cell? ⟨Z.heap.size,1,ν⟩=μ (ι κ (Y:Int)))/\
  eX eY 20 #[π (μ ⟨R,0,ν⟩),ι κ (Y:Int),.bool up] w1 λe H=>∃f:Nat,e=ρ (ji f)/\(H.cell? ⟨Z.heap.size,0,ν⟩=μ (ι κ ((i0:Int)+1))/\H.cell? ⟨Z.heap.size,1,ν⟩=μ (ι κ (Y:Int)))/\iF w H y (V.mU c 0 up) n.n):=by
  intro Z hw;have hb:=jD (gT Z (γ #[ι κ ((i0:Int)+1),ι κ (Y:Int)] 192));have U:iX (Z.alloc (γ #[ι κ ((i0:Int)+1),ι κ (Y:Int)] 192)).drew Z.heap.size #[ι κ ((i0:Int)+1),ι κ (Y:Int)] 192:=(iX.new Z _ _).drew;exact Cn w y V D k c 0 n.n up Za hD dZ (by rw[S];exact hc) ew hMn i0 Y (by rw[hMC];exact LG) Z _ hw (hw.tab h rfl hT) hb Z.heap.size _ _ (Nat.le_refl _) ⟨U.cell 0,U.cell 1⟩
 have T:Hid (∀Z,iF w Z y (V.mU c 0 up) n.n->
  eX eY 157 #[π (μ ⟨y.N,0,ν⟩),.agg #[ι κ ((i1:Int)+1),ι κ (X:Int)]] (Z.alloc (γ #[ι κ ((i1:Int)+1),ι κ (X:Int)] 192)).drew λe w1=>∃R,e=ρ (π (μ ⟨R,0,ν⟩))/\(w1.cell? ⟨Z.heap.size,0,ν⟩=μ (ι κ ((i1:Int)+1))/\w1.cell? ⟨Z.heap.size,1,ν⟩=μ (ι κ (X:Int)))/\
  eX eY 20 #[π (μ ⟨R,0,ν⟩),ι κ (X:Int),.bool up] w1 λe H=>∃f:Nat,e=ρ (ji f)/\(H.cell? ⟨Z.heap.size,0,ν⟩=μ (ι κ ((i1:Int)+1))/\H.cell? ⟨Z.heap.size,1,ν⟩=μ (ι κ (X:Int)))/\iF w H y (n.jZ c up) n.n):=by
  intro Z hw;have hb:=jD (gT Z (γ #[ι κ ((i1:Int)+1),ι κ (X:Int)] 192));have U:iX (Z.alloc (γ #[ι κ ((i1:Int)+1),ι κ (X:Int)] 192)).drew Z.heap.size #[ι κ ((i1:Int)+1),ι κ (X:Int)] 192:=(iX.new Z _ _).drew;rw[HE1.out];exact Cn w y (V.mU c 0 up) D (k+1) c 1 n.n up kX hD dZ (by show c<V.nc;rw[S];exact hc) ew hMn i1 X (by show(V.C c).e 1=_;rw[hMC];exact LH) Z _ hw (hw.tab h rfl hT) hb Z.heap.size _ _ (Nat.le_refl _) ⟨U.cell 0,U.cell 1⟩
 obtain⟨nc,tY⟩:=gg (n.nc);rw[tY]at c3 c9 jX;obtain⟨m,hm⟩:=gg (n.n);rw[hm]at H0 j T⊢;obtain⟨M1,qU⟩:=gg (V.mU c 0 up);rw[qU]at j T;obtain⟨M2,tZ⟩:=gg (n.jZ c up);rw[tZ]at T⊢;clear h hT iO wi LD hC hg hc tY hm qU tZ HE1 Za kX Lu hMC hMn S LG LH
 go_in
 go_wp2
 go_loopw [27] (λx wr=>(x=ι κ 0/\iF w wr y V m) \/(x=ι κ 1/\iF w wr y M1 m) \/(x=ι κ 2/\iF w wr y M2 m)) (λx _=>2-(eZ x).toNat)
 case atStart=>exact .inl ⟨rfl,H0.out⟩
 case round=>
  rcases hrel with⟨rfl,G⟩|⟨rfl,G⟩|⟨rfl,G⟩
  ·have hix:=ac5 ((i0:Int)+1) (Y:Int) ((i1:Int)+1) (X:Int);have hE:=j.out wr G;obtain⟨W1,M⟩:=gg (wr.alloc (γ #[ι κ ((i0:Int)+1),ι κ (Y:Int)] 192));obtain⟨E,J⟩:=gg (wr.heap.size);have A:W1.drew.cell? ⟨E,0,ν⟩=μ (ι κ ((i0:Int)+1))/\W1.drew.cell? ⟨E,1,ν⟩=μ (ι κ (Y:Int)):=by
    have U:iX (wr.alloc (γ #[ι κ ((i0:Int)+1),ι κ (Y:Int)] 192)).drew wr.heap.size #[ι κ ((i0:Int)+1),ι κ (Y:Int)] 192:=(iX.new wr _ _).drew;rw[M,J]at U;exact⟨U.cell 0,U.cell 1⟩
   have El:E<W1.drew.heap.size:=ag _ _ A.1;rw[M,J]at hE;have Kd:Hid _:=M;have Vy:Hid _:=J;clear G M J;go_wp2_with(fail)
   try rw[Kd.out]
   try rw[Vy.out]
   go_region_held3(λx=>x.cell? ⟨E,0,ν⟩=μ (ι κ ((i0:Int)+1))/\x.cell? ⟨E,1,ν⟩=μ (ι κ (Y:Int)))
    (first|assumption|exact A|exact F1|exact F2)
    (first
     |(go_at_call 157;refine hE.mono ?_;rintro e w1 ⟨R,rfl,F1,hO⟩)
     |(go_at_call 20;refine hO.mono ?_;rintro e H ⟨f,rfl,F2,hP⟩))
   all_goals
    have Lv:Hid _:=hP;clear hE hO hP A F1 F2 El
    go_wp2
    go_roundw
    case rel=>exact .inr (.inl ⟨by go_num,Lv.out⟩)
    case measure=>simp[eZ]
  ·have hix:=ac6 ((i0:Int)+1) (Y:Int) ((i1:Int)+1) (X:Int);have hE:=T.out wr G;obtain⟨W1,M⟩:=gg (wr.alloc (γ #[ι κ ((i1:Int)+1),ι κ (X:Int)] 192));obtain⟨E,J⟩:=gg (wr.heap.size);have A:W1.drew.cell? ⟨E,0,ν⟩=μ (ι κ ((i1:Int)+1))/\W1.drew.cell? ⟨E,1,ν⟩=μ (ι κ (X:Int)):=by
    have U:iX (wr.alloc (γ #[ι κ ((i1:Int)+1),ι κ (X:Int)] 192)).drew wr.heap.size #[ι κ ((i1:Int)+1),ι κ (X:Int)] 192:=(iX.new wr _ _).drew;rw[M,J]at U;exact⟨U.cell 0,U.cell 1⟩
   have El:E<W1.drew.heap.size:=ag _ _ A.1;rw[M,J]at hE;have Kd:Hid _:=M;have Vy:Hid _:=J;clear G M J;go_wp2_with(fail)
   try rw[Kd.out]
   try rw[Vy.out]
   go_region_held3(λx=>x.cell? ⟨E,0,ν⟩=μ (ι κ ((i1:Int)+1))/\x.cell? ⟨E,1,ν⟩=μ (ι κ (X:Int)))
    (first|assumption|exact A|exact F1|exact F2)
    (first
     |(go_at_call 157;refine hE.mono ?_;rintro e w1 ⟨R,rfl,F1,hO⟩)
     |(go_at_call 20;refine hO.mono ?_;rintro e H ⟨f,rfl,F2,hP⟩))
   all_goals
    have Lv:Hid _:=hP;clear hE hO hP A F1 F2 El
    go_wp2
    go_roundw
    case rel=>exact .inr (.inr ⟨by go_num,Lv.out⟩)
    case measure=>simp[eZ]
  ·have HQ:Hid _:=G;clear G
   go_wp2
   first|go_end0|refine iK rfl rfl ?_
   exact⟨rfl,HQ.out⟩
theorem EY(y:Yt)(n:iM)(D:Nat)(i:Int)(up:Bool)(w:dX)(h:jF w y n)(U:jf w)(V:j3 n D 0)(hD:D<=900000000):
 eX eY 57 #[π (μ ⟨y.N,0,ν⟩),ι κ i,.bool up] w λe w'=>e=ρ (ji (n.iH i up).2)/\iF w w' y (n.iH i up).1 n.n:=by
 have hh:=zP y n i w h;rcases NR i n.nc with S|⟨c,hc,rfl⟩
 ·have hi:i<0 \/(n.nc:Int)<=i:=by
   unfold hasB at S;by_cases h0:0<=i;{by_cases h1:i<(n.nc:Int);{simp[h0,h1]at S};{omega}};{omega}
  have X:n.iH i up=(n,6):=by unfold iM.iH;rw[ai hi]
  rw[X];rw[S]at hh;have Y:Hid _:=iF.refl h;clear h V U
  go_in
  go_wp2_with(fail);refine hh.mono ?_;rintro e w1 ⟨rfl,rfl⟩;clear hh
  go_wp2
  go_ret;exact⟨rfl,Y.out⟩
 ·rw[zI hc]at hh;have c3:=h.k3;obtain⟨a,cp,M,T⟩:=h.cvs;obtain⟨g,H,rfl⟩:=T c hc;rw[M]at c3;have cl:=h.yc;have c9:=h.c9;have jX:(c:Int)<(n.nc:Int):=dZ;have rI:(0:Int)<=(c:Int):=dZ;have A:w.cell? ⟨g,c*7+4,ν⟩=μ (.bool (n.C c).iQ):=(h.rc g H c hc).cell 4 ew;have gl:=(h.rc g H c hc).lt ew;have X:n.iH (c:Int) up=if(n.C c).iQ=up then(n,7)else((n.jZ c up).gather,0):=by
   unfold iM.iH;rw[af dZ,Int.toNat_natCast]
  rw[X];by_cases Z:(n.C c).iQ=up
  ·rw[ai Z];rw[Z]at A;have Y:Hid _:=iF.refl h;have J:(up==up)=true:=gU;clear h V U X Z M T
   go_in
   go_wp2_with(fail);refine hh.mono ?_;rintro e w1 ⟨rfl,rfl⟩;clear hh
   go_wp2
   go_ret;exact⟨rfl,Y.out⟩
  ·rw[af Z];have J:((n.C c).iQ==up)=false:=by simpa using Z
   have G:=Ib y n D 0 c up w h U V hD dZ hc;have kX:=V.jZ dZ hc up;have hG:Hid (∀W,iF w W y (n.jZ c up) n.n->eX eY 111 #[π (μ ⟨y.N,0,ν⟩)] W λe w'=>e=ρ (τ #[])/\iF w w' y (n.jZ c up).gather n.n):=by
    intro W hW;refine hW.call λy1 R1 s1=> ?_;rw[<-s1.N];exact sO y1 _ _ _ W R1 kX dZ dZ
   have e0:ji 0=η:=rfl;rw[e0];generalize (n.C c).iQ=b at A J;clear h V U X Z M T kX
   go_in
   go_wp2_with(fail);refine hh.mono ?_;rintro e w1 ⟨rfl,rfl⟩;clear hh;go_wp2_with(fail);refine G.mono ?_;rintro e w1 ⟨rfl,mQ⟩;have j:=hG.out _ mQ;clear G mQ;go_wp2_with(fail);refine j.mono ?_;rintro e w2 ⟨rfl,vK⟩;have Y:Hid _:=vK;clear j vK
   go_wp2
   go_ret;exact⟨rfl,Y.out⟩
theorem Ic(y:iM)(i:Int):(y.tick i).1.n=y.n/\(y.tick i).1.nc=y.nc/\(y.tick i).1.ms=y.ms/\∀x,((y.tick i).1.C x).e=(y.C x).e/\((y.tick i).1.C x).iQ=(y.C x).iQ:=by
 unfold iM.tick;split;{exact⟨rfl,rfl,rfl,λ_=>⟨rfl,rfl⟩⟩};{exact lQ _}
theorem rz(y:iM)(c d q:Nat):(y.jq c d q).n=y.n/\(y.jq c d q).nc=y.nc/\(y.jq c d q).ms=y.ms/\∀x,((y.jq c d q).C x).e=(y.C x).e/\((y.jq c d q).C x).iQ=(y.C x).iQ:=by
 refine⟨rfl,rfl,rfl,λx=> ?_⟩;show(if x=c then({y.C c with on:=jU (y.C c).on d (((y.C c).on d).drop q)}:qC)else y.C x).e=_/\(if x=c then({y.C c with on:=jU (y.C c).on d (((y.C c).on d).drop q)}:qC)else y.C x).iQ=_;by_cases e:x=c;{rw[ai e];subst e;exact⟨rfl,rfl⟩};{rw[af e];exact⟨rfl,rfl⟩}
theorem m8(y:iM)(i d many:Int):(y.deliver i d many).1.n=y.n/\(y.deliver i d many).1.nc=y.nc/\(y.deliver i d many).1.ms=y.ms/\∀x,((y.deliver i d many).1.C x).e=(y.C x).e/\((y.deliver i d many).1.C x).iQ=(y.C x).iQ:=by
 unfold iM.deliver;split;{exact⟨rfl,rfl,rfl,λ_=>⟨rfl,rfl⟩⟩};{obtain⟨g1,X,V,Z⟩:=lQ (y.jq i.toNat d.toNat (min many.toNat ((y.C i.toNat).on d.toNat).length));obtain⟨r1,U,T,Y⟩:=rz y i.toNat d.toNat (min many.toNat ((y.C i.toNat).on d.toNat).length);exact⟨g1.trans r1,X.trans U,V.trans T,λx=>⟨(Z x).1.trans (Y x).1,(Z x).2.trans (Y x).2⟩⟩}
theorem oI(y:iM):∀q,(y.ja q).n=y.n/\(y.ja q).nc=y.nc/\(y.ja q).ms=y.ms/\∀x,((y.ja q).C x).e=(y.C x).e/\((y.ja q).C x).iQ=(y.C x).iQ
 |0=>⟨rfl,rfl,rfl,λ_=>⟨rfl,rfl⟩⟩
 |q+1=>by
  obtain⟨g1,X,V,Z⟩:=Ic (y.ja q) ((q:Int)+1);obtain⟨r1,U,T,Y⟩:=oI y q;exact⟨g1.trans r1,X.trans U,V.trans T,λx=>⟨(Z x).1.trans (Y x).1,(Z x).2.trans (Y x).2⟩⟩
def iM.qN(y:iM)(c d:Nat):iM:=if d=0 then y.jP c else if d=1 then((y.jP c).deliver (c:Int) 0 2000).1 else y.jP (c+1)
theorem LM(y:iM)(c d:Nat)(hd:d<2):y.qN c (d+1)=((y.qN c d).deliver (c:Int) (d:Int) 2000).1:=by
 have:d=0 \/d=1:=dZ;rcases this with rfl|rfl<;>rfl
theorem lR(y:iM):∀q,(y.jP q).n=y.n/\(y.jP q).nc=y.nc/\(y.jP q).ms=y.ms/\∀x,((y.jP q).C x).e=(y.C x).e/\((y.jP q).C x).iQ=(y.C x).iQ
 |0=>⟨rfl,rfl,rfl,λ_=>⟨rfl,rfl⟩⟩
 |q+1=>by
  obtain⟨T,S,M,Y⟩:=m8 ((y.jP q).deliver (q:Int) 0 2000).1 (q:Int) 1 2000;obtain⟨g1,V,U,Z⟩:=m8 (y.jP q) (q:Int) 0 2000;obtain⟨r1,J,H,X⟩:=lR y q;exact⟨T.trans (g1.trans r1),S.trans (V.trans J),M.trans (U.trans H),λx=>⟨(Y x).1.trans ((Z x).1.trans (X x).1),(Y x).2.trans ((Z x).2.trans (X x).2)⟩⟩
theorem LN(y:iM)(q d:Nat):(y.qN q d).n=y.n/\(y.qN q d).nc=y.nc:=by
 unfold iM.qN;split;{exact⟨(lR y q).1,(lR y q).2.1⟩};{split;{exact⟨(m8 _ _ _ _).1.trans (lR y q).1,(m8 _ _ _ _).2.1.trans (lR y q).2.1⟩};{exact⟨(lR y (q+1)).1,(lR y (q+1)).2.1⟩}}
theorem qO(y:iM):∀t,(y.turns t).n=y.n/\(y.turns t).nc=y.nc/\(y.turns t).ms=y.ms/\∀x,((y.turns t).C x).e=(y.C x).e/\((y.turns t).C x).iQ=(y.C x).iQ
 |0=>⟨rfl,rfl,rfl,λ_=>⟨rfl,rfl⟩⟩
 |t+1=>by
  obtain⟨g1,X,V,Z⟩:=lR (y.turns t) y.nc;obtain⟨r1,U,T,Y⟩:=qO y t;exact⟨g1.trans r1,X.trans U,V.trans T,λx=>⟨(Z x).1.trans (Y x).1,(Z x).2.trans (Y x).2⟩⟩
theorem kI(y:iM):y.round.n=y.n/\y.round.nc=y.nc/\y.round.ms=y.ms/\∀x,(y.round.C x).e=(y.C x).e/\(y.round.C x).iQ=(y.C x).iQ:=by
 obtain⟨g1,X,V,Z⟩:=qO (y.ja y.n) 12;obtain⟨r1,U,T,Y⟩:=oI y y.n;exact⟨g1.trans r1,X.trans U,V.trans T,λx=>⟨(Z x).1.trans (Y x).1,(Z x).2.trans (Y x).2⟩⟩
theorem j3.ja {y:iM} {D:Nat} (h:j3 y D 0)(Z:D<=800000000):∀q,q<=6->j3 (y.ja q) (D+6*q) 0
 |0,_=>h
 |q+1,hq=>((j3.ja h Z q dZ).tick dZ ((q:Int)+1)).mono dZ (Nat.le_refl _)
theorem j3.jP {y:iM} {D:Nat} (h:j3 y D 0)(Z:D<=890000000):∀q,q<=9->j3 (y.jP q) (D+12000*q) 0
 |0,_=>h
 |q+1,hq=>(((j3.jP h Z q dZ).deliver dZ (q:Int) 0 2000).deliver dZ (q:Int) 1 2000).mono dZ (Nat.le_refl _)
theorem j3.qN {y:iM} {D:Nat} (h:j3 y D 0)(Z:D<=890000000)(q d:Nat)(hq:q<9)(hd:d<=2):j3 (y.qN q d) (D+12000*q+6000*d) 0:=by
 unfold iM.qN;split;{exact(h.jP Z q dZ).mono dZ (Nat.le_refl _)};{split;{exact((h.jP Z q dZ).deliver dZ _ _ _).mono dZ (Nat.le_refl _)};{exact(h.jP Z (q+1) dZ).mono dZ (Nat.le_refl _)}}
theorem j3.turns {y:iM} {D:Nat} (h:j3 y D 0)(X:D<=810000000):∀t,t<=12->j3 (y.turns t) (D+108000*t) 0
 |0,_=>h
 |t+1,ht=>by
  have Z:=j3.turns h X t dZ;have Y:=h.c9;exact(Z.jP dZ y.nc Y).mono dZ (Nat.le_refl _)
theorem j3.round {y:iM} {D:Nat} (h:j3 y D 0)(Y:D<=800000000):j3 y.round (D+1300000) 0:=by
 have n6:=h.n6;have Z:=h.ja Y y.n n6;exact(Z.turns dZ 12 (Nat.le_refl _)).mono dZ (Nat.le_refl _)
theorem Bp(y:Yt)(n:iM)(D:Nat)(w:dX)(h:jF w y n)(hT:jf w)(iO:j3 n D 0)(hD:D<=800000000):
 eX eY 54 #[π (μ ⟨y.N,0,ν⟩)] w λe w'=>e=ρ (τ #[])/\iF w w' y n.round n.n:=by
 have c0:=h.k0;have cl:=h.yc;have n6:=h.n6;have c9:=h.c9;obtain⟨a,cp,wi,LD⟩:=h.cvs;obtain⟨m,S⟩:=gg (n.n);obtain⟨nc,tY⟩:=gg (n.nc);have H0:Hid (iF w w y (n.ja 0) m):=by
  show iF _ _ _ _ _;rw[<-S];exact iF.refl h
 have aaZ:Hid (∀q W,q<m->iF w W y (n.ja q) m->eX eY 56 #[π (μ ⟨y.N,0,ν⟩),ι κ ((q:Int)+1)] W λe w'=>(∃v,e=ρ v)/\iF w w' y (n.ja (q+1)) m):=by
  intro q W hq Z;have H:=Z.tab h S hT;refine(Z.call (E:=λe=>∃v,e=ρ v) λy1 R1 s1=> ?_);rw[<-s1.N];refine(LJ y1 (n.ja q) (D+6*q) ((q:Int)+1) W R1 H (iO.ja hD q dZ) dZ).mono ?_;rintro e w' ⟨rfl,hw⟩;rw[(oI n q).1,S]at hw;exact⟨⟨_,rfl⟩,hw⟩
 have J:=iO.ja hD m dZ;have HK3:Hid (∀M W,M.nc=nc->iF w W y M m->W.cell? ⟨y.N,3,ν⟩=μ (σ a nc cp)/\y.N<W.heap.size):=by
  intro M W hM Z;have h1:=Z.k3;rw[hM,<-tY,wi]at h1;rw[<-tY];exact⟨h1,Z.lt⟩
 have Jw:Hid (n.round=(n.ja m).turns 12):=by
  show _=_;unfold iM.round;rw[S]
 obtain⟨T,Y⟩:=gg (n.ja m);have hTn:T.n=m:=by rw[<-Y,(oI n m).1,S]
 have G:T.nc=nc:=by rw[<-Y,(oI n m).2.1,tY]
 have A:Hid (∀W,iF w W y (n.ja m) m->iF w W y (T.turns 0) m):=by
  intro W Z;rw[Y]at Z;exact Z
 rw[Y]at J Jw;have alH:Hid (∀t c d W,t<12->c<nc->d<2->iF w W y ((T.turns t).qN c d) m->eX eY 101 #[π (μ ⟨y.N,0,ν⟩),ι κ (c:Int),ι κ (d:Int),ι κ 2000] W λe w'=>(∃v,e=ρ v)/\iF w w' y ((T.turns t).qN c (d+1)) m):=by
  intro t c d W ht hc hd Z;have H:=Z.tab h S hT;refine(Z.call (E:=λe=>∃v,e=ρ v) λy1 R1 s1=> ?_);rw[<-s1.N];have h1:=J.turns dZ t dZ;have h2:=h1.qN dZ c d dZ dZ;refine(Cm y1 _ _ (c:Int) (d:Int) 2000 W R1 H h2 dZ).mono ?_;rintro e w' ⟨rfl,hw⟩;rw[<-LM _ _ _ hd,(LN _ _ _).1,(qO T t).1,hTn]at hw;exact⟨⟨_,rfl⟩,hw⟩
 have HNC:Hid (∀t,(T.turns t).nc=nc):=λt=>by rw[(qO T t).2.1,G]
 have agF:Hid (∀t W,iF w W y ((T.turns t).jP nc) m->iF w W y (T.turns (t+1)) m):=by
  intro t W Z;show iF w W y ((T.turns t).jP T.nc) m;rw[G];exact Z
 rw[S]at c0 n6⊢;rw[tY]at c9;clear h hT iO J wi LD S tY Y hTn G
 go_in
 go_wp2
 go_loopw [10] (λx wr=>∃q:Nat,q<=m/\x=ι κ q/\iF w wr y (n.ja q) m) (λx _=>m-(eZ x).toNat)
 case atStart=>exact⟨0,Nat.zero_le _,rfl,H0.out⟩
 case round=>
  obtain⟨q,hq,rfl,rV⟩:=hrel;obtain⟨V,rfl⟩:∃V,V=wr:=⟨_,rfl⟩
  by_cases kA:q<m
  ·have nL:(q:Int)<(m:Int):=dZ;have Uy:κ.wrap ((q:Int)+1)=(q:Int)+1:=aS _ ⟨dZ,dZ⟩;have ht:=aaZ.out q V kA rV;clear rV;go_wp2_with(fail);refine ht.mono ?_;rintro e w1 ⟨⟨v,rfl⟩,mQ⟩;have X:Hid _:=mQ;clear ht mQ
   go_wp2
   go_roundw
   case rel=>exact⟨q+1,dZ,by go_num,X.out⟩
   case measure=>simp[eZ];omega
  ·have xL:¬(q:Int)<(m:Int):=dZ;obtain rfl:q=m:=dZ;have HT0:Hid (iF w V y (T.turns 0) q):=A.out V rV;clear rV A H0 aaZ
   go_wp2
   go_loopw [18] (λx wr=>∃t:Nat,t<=12/\x=ι κ t/\iF w wr y (T.turns t) q) (λx _=>12-(eZ x).toNat)
   case atStart=>exact⟨0,Nat.zero_le _,rfl,HT0.out⟩
   case round=>
    obtain⟨t,ht,rfl,j⟩:=hrel;obtain⟨V2,rfl⟩:∃V2,V2=wr:=⟨_,rfl⟩
    by_cases adf:t<12
    ·have agG:(t:Int)<12:=dZ;obtain⟨d3,dl⟩:=HK3.out _ V2 (HNC.out t) j;have HD0:Hid _:=j;clear j
     go_wp2
     go_loopw [25] (λx wr=>∃c:Nat,c<=nc/\x=ι κ c/\iF w wr y ((T.turns t).qN c 0) q) (λx _=>nc-(eZ x).toNat)
     case atStart=>exact⟨0,Nat.zero_le _,rfl,HD0.out⟩
     case round=>
      obtain⟨c,hc,rfl,U⟩:=hrel;obtain⟨V3,rfl⟩:∃V3,V3=wr:=⟨_,rfl⟩
      by_cases alI:c<nc
      ·have aol:(c:Int)<(nc:Int):=dZ;have HDc:Hid _:=U;clear U
       go_wp2
       go_loopw [28] (λx wr=>∃d:Nat,d<=2/\x=ι κ d/\iF w wr y ((T.turns t).qN c d) q) (λx _=>2-(eZ x).toNat)
       case atStart=>exact⟨0,Nat.zero_le _,rfl,HDc.out⟩
       case round=>
        obtain⟨d,hd,rfl,Dv⟩:=hrel;obtain⟨V4,rfl⟩:∃V4,V4=wr:=⟨_,rfl⟩
        by_cases alJ:d<2
        ·have aom:(d:Int)<2:=dZ;have agH:=alH.out t c d V4 adf alI alJ Dv;clear Dv;go_wp2_with(fail);refine agH.mono ?_;rintro e w1 ⟨⟨v,rfl⟩,mQ⟩;have X:Hid _:=mQ;clear agH mQ
         go_wp2
         go_roundw
         case rel=>exact⟨d+1,dZ,by go_num,X.out⟩
         case measure=>simp[eZ];omega
        ·have aqB:¬(d:Int)<2:=dZ;obtain rfl:d=2:=dZ;have X:Hid _:=Dv;clear Dv
         go_wp2
         go_roundw
         case rel=>exact⟨c+1,dZ,by go_num,X.out⟩
         case measure=>simp[eZ];omega
      ·have aqC:¬(c:Int)<(nc:Int):=dZ;obtain rfl:c=nc:=dZ;have X:Hid (iF w V3 y (T.turns (t+1)) q):=agF.out t V3 U;clear U
       go_wp2
       go_roundw
       case rel=>exact⟨t+1,dZ,by go_num,X.out⟩
       case measure=>simp[eZ];omega
    ·have agI:¬(t:Int)<12:=dZ;obtain rfl:t=12:=dZ;have X:Hid (iF w V2 y n.round q):=by
      show iF _ _ _ _ _;rw[Jw.out];exact j
     clear j
     go_wp2
     first|go_end0|refine iK rfl rfl ?_
     exact⟨rfl,X.out⟩
def qD(l:List Nat):List dY:=l.map λ(n:Nat)=>Value.int .i64 (n:Int)
def ti(n:iM)(k c:Nat):Bool:=(n.C c).iQ&& (((n.C c).e 0).1==k||((n.C c).e 1).1==k)
theorem JA(y:Yt)(n:iM)(k:Nat)(w:dX)(h:jF w y n):
 eX eY 115 #[π (μ ⟨y.N,0,ν⟩),ι κ ((k:Int)+1)] w λe w'=>∃v,e=ρ v/\Row w' 1 v (n.lA k).length (qD (n.lA k))/\(∀b,v.ownBlock=μ b->w.heap.size<=b)/\eB w w':=by
 obtain⟨i0,hi,og,mZ,mc⟩:=aW PW;have c3:=h.k3;obtain⟨a,cp,wi,LD⟩:=h.cvs;rw[wi]at c3;have cl:=h.yc;have c9:=h.c9;obtain⟨nc,G⟩:=gg (n.nc);have HGC:Hid (∀c,c<nc->∃g,y.gC=μ g/\a=μ ⟨g,0,ν⟩):=by
  show∀c,_->_;rw[<-G];exact LD
 have HF:Hid (∀W q g,eB w W->q<nc->y.gC=μ g->∃T n0 c0 S n1 c1,W.cell? ⟨g,q*7,ν⟩=μ (ι κ ((((n.C q).e 0).1:Int)+1))/\W.cell? ⟨g,q*7+1,ν⟩=μ (ι κ (((n.C q).e 0).2:Int))/\W.cell? ⟨g,q*7+2,ν⟩=μ (ι κ ((((n.C q).e 1).1:Int)+1))/\W.cell? ⟨g,q*7+3,ν⟩=μ (ι κ (((n.C q).e 1).2:Int))/\W.cell? ⟨g,q*7+4,ν⟩=μ (.bool (n.C q).iQ)/\W.cell? ⟨g,q*7+5,ν⟩=μ (σ T n0 c0)/\W.cell? ⟨g,q*7+6,ν⟩=μ (σ S n1 c1)/\g<W.heap.size):=by
  intro W q g hb hq hg;have R:=h.below hb;have hC:=R.rc g hg q (by rw[G];exact hq);obtain⟨T,c0,e0⟩:=Row.shape (R.ob q 0 (by rw[G];exact hq) ew);obtain⟨S,c1,e1⟩:=Row.shape (R.ob q 1 (by rw[G];exact hq) ew);refine⟨T,((n.C q).on 0).length,c0,S,((n.C q).on 1).length,c1,hC.cell 0 ew,hC.cell 1 ew,hC.cell 2 ew,hC.cell 3 ew,hC.cell 4 ew,?_,?_,hC.lt ew⟩;{rw[<-e0];exact hC.cell 5 ew};{rw[<-e1];exact hC.cell 6 ew}
 have HE:Hid (n.lA k=(fW nc).filter (ti n k)):=by
  show _=_;rw[<-G];rfl
 rw[G]at c3 c9;clear h LD wi G
 go_in
 go_wp2
 go_loopw [5,13] (λv x wr=>∃q:Nat,q<=nc/\x=ι κ q/\Row wr 1 v ((fW q).filter (ti n k)).length (qD ((fW q).filter (ti n k)))/\(∀b,v.ownBlock=μ b->w.heap.size<=b)/\eB w wr) (λ_ x _=>nc-(eZ x).toNat)
 case atStart=>exact⟨0,Nat.zero_le _,rfl,Row.nil _ _,λb hb=>by simp[eh]at hb,au _ _⟩
 case round=>
  obtain⟨q,hq,rfl,Y,jm,iL⟩:=hrel;by_cases kA:q<nc
  ·have nL:(q:Int)<(nc:Int):=dZ;have hq0:(0:Int)<=(q:Int):=dZ;obtain⟨g,hg,rfl⟩:=HGC.out q kA;obtain⟨T,n0,c0,S,n1,c1,k0,k1,k2,k3,k4,k5,k6,gl⟩:=HF.out wr q g iL kA hg;have HP:Hid ((fW (q+1)).filter (ti n k)=(fW q).filter (ti n k)++if ti n k q=true then [q]else []):=by
    show _=_;rw[bV,cB];congr 1;by_cases e:ti n k q=true;{rw[ai e,List.filter_cons_of_pos e];rfl};{rw[af e,List.filter_cons_of_neg e];rfl}
   have Z:ti n k q=((n.C q).iQ&& (((n.C q).e 0).1==k||((n.C q).e 1).1==k)):=rfl;have HR:Hid _:=Y;have A:Hid _:=jm;have U:Hid _:=iL;clear jm iL hg;obtain⟨L,j⟩:=gg ((fW q).filter (ti n k));have hLq:L.length<=q:=by
    rw[<-j];have:=cK (ti n k) (fW q);simpa using this
   rw[j]at Y HP;generalize ((n.C q).e 0).1=V at k0 Z;generalize ((n.C q).e 1).1=r1 at k2 Z;generalize ((n.C q).e 0).2=p0 at k1;generalize ((n.C q).e 1).2=p1 at k3;generalize (n.C q).iQ=iQ at k4 Z;cases iQ with
   |false=>
    have J:True:=trivial;have GD:True:=trivial;have X:ti n k q=false:=by rw[Z];first|rfl|simp[J,GD]
    have M:Hid (Row (wr.alloc (γ #[ι κ ((V:Int)+1),ι κ (p0:Int),ι κ ((r1:Int)+1),ι κ (p1:Int),.bool false,σ T n0 c0,σ S n1 c1] 197)) 1 u5 ((fW (q+1)).filter (ti n k)).length (qD ((fW (q+1)).filter (ti n k)))/\(∀b,u5.ownBlock=μ b->w.heap.size<=b)/\eB w (wr.alloc (γ #[ι κ ((V:Int)+1),ι κ (p0:Int),ι κ ((r1:Int)+1),ι κ (p1:Int),.bool false,σ T n0 c0,σ S n1 c1] 197))):=by
     rw[HP.out,X];simp only[Bool.false_eq_true,if_false,gQ];exact⟨Y.alloc _,A.out,U.out.alloc U.out.size _⟩
    clear Y Z X j
    go_wp2
    go_roundw
    case rel=>exact⟨q+1,dZ,by go_num,M.out⟩
    case measure=>simp[eZ];omega
   |true=>
    by_cases h0:V=k
    ·rw[h0]at k0 Z;have X:ti n k q=true:=by rw[Z];simp
     go_wp2_with(at_builtin;go_must(refine iG _ rfl (.tmp 36) (.tmp 38) 22 rfl 3 i0 (ι κ 0) 1 8 underlying22 hi og mZ mc rfl ew u5 L.length (qD L) rfl ((Y.alloc _).alloc _) _ 1 1 [ι κ (q:Int)] rfl rfl ew (yC _ _ _ _ gU) (xd _ _) (by unfold maxLen;omega) dZ ?_));intro H jn w3 sD sE zw;have M:Hid (Row w3 1 (σ (μ ⟨H,0,ν⟩) (L.length+1) jn) ((fW (q+1)).filter (ti n k)).length (qD ((fW (q+1)).filter (ti n k)))/\(∀b,eh (σ (μ ⟨H,0,ν⟩) (L.length+1) jn)=μ b->w.heap.size<=b)/\eB w w3):=by
      have hs:=U.out.size;rw[HP.out,X];simp only[if_true,eP,eQ,eR];refine⟨?_,λb hb=> ?_,?_⟩
      ·have e9:qD (L++ [q])=qD L++ [ι κ (q:Int)] :=by simp[qD]
       rw[e9];exact sD
      ·have:H=b:=by simpa[eh]using hb
       subst this;rcases zw with e|e
       ·exact A.out _ e
       ·(try simp at e)
        omega
      ·exact((U.out.alloc hs _).alloc (by simp;omega) _).grown sE (by simp;omega) (λb hb=>A.out b (by rw[<-hb]))
     clear sD sE zw Y Z X j
     go_wp2
     go_roundw
     case rel=>exact⟨q+1,dZ,by go_num,M.out⟩
     case measure=>simp[eZ];omega
    ·have J:(V==k)=false:=by simpa using h0
     have hz:¬((V:Int)+1=(k:Int)+1):=dZ;have Tq:((V:Int)+1==(k:Int)+1)=false:=by simpa using hz
     have PZ:¬((V:Int)=(k:Int)):=dZ;by_cases h1:r1=k
     ·rw[h1]at k2 Z;have X:ti n k q=true:=by rw[Z];simp
      go_wp2_with(at_builtin;go_must(refine iG _ rfl (.tmp 36) (.tmp 38) 22 rfl 3 i0 (ι κ 0) 1 8 underlying22 hi og mZ mc rfl ew u5 L.length (qD L) rfl ((Y.alloc _).alloc _) _ 1 1 [ι κ (q:Int)] rfl rfl ew (yC _ _ _ _ gU) (xd _ _) (by unfold maxLen;omega) dZ ?_));intro H jn w3 sD sE zw;have M:Hid (Row w3 1 (σ (μ ⟨H,0,ν⟩) (L.length+1) jn) ((fW (q+1)).filter (ti n k)).length (qD ((fW (q+1)).filter (ti n k)))/\(∀b,eh (σ (μ ⟨H,0,ν⟩) (L.length+1) jn)=μ b->w.heap.size<=b)/\eB w w3):=by
       have hs:=U.out.size;rw[HP.out,X];simp only[if_true,eP,eQ,eR];refine⟨?_,λb hb=> ?_,?_⟩
       ·have e9:qD (L++ [q])=qD L++ [ι κ (q:Int)] :=by simp[qD]
        rw[e9];exact sD
       ·have:H=b:=by simpa[eh]using hb
        subst this;rcases zw with e|e
        ·exact A.out _ e
        ·(try simp at e)
         omega
       ·exact((U.out.alloc hs _).alloc (by simp;omega) _).grown sE (by simp;omega) (λb hb=>A.out b (by rw[<-hb]))
      clear sD sE zw Y Z X j
      go_wp2
      go_roundw
      case rel=>exact⟨q+1,dZ,by go_num,M.out⟩
      case measure=>simp[eZ];omega
     ·have GD:(r1==k)=false:=by simpa using h1
      have hy:¬((r1:Int)+1=(k:Int)+1):=dZ;have ql:((r1:Int)+1==(k:Int)+1)=false:=by simpa using hy
      have hy3:¬((r1:Int)=(k:Int)):=dZ;have X:ti n k q=false:=by rw[Z];first|rfl|simp[J,GD]
      have M:Hid (Row (wr.alloc (γ #[ι κ ((V:Int)+1),ι κ (p0:Int),ι κ ((r1:Int)+1),ι κ (p1:Int),.bool true,σ T n0 c0,σ S n1 c1] 197)) 1 u5 ((fW (q+1)).filter (ti n k)).length (qD ((fW (q+1)).filter (ti n k)))/\(∀b,u5.ownBlock=μ b->w.heap.size<=b)/\eB w (wr.alloc (γ #[ι κ ((V:Int)+1),ι κ (p0:Int),ι κ ((r1:Int)+1),ι κ (p1:Int),.bool true,σ T n0 c0,σ S n1 c1] 197))):=by
       rw[HP.out,X];simp only[Bool.false_eq_true,if_false,gQ];exact⟨Y.alloc _,A.out,U.out.alloc U.out.size _⟩
      clear Y Z X j
      go_wp2
      go_roundw
      case rel=>exact⟨q+1,dZ,by go_num,M.out⟩
      case measure=>simp[eZ];omega
  ·obtain rfl:q=nc:=dZ;have HW:Hid (Row wr 1 u5 (n.lA k).length (qD (n.lA k))/\(∀b,u5.ownBlock=μ b->w.heap.size<=b)/\eB w wr):=by
    show _/\_/\_;rw[HE.out];exact⟨Y,jm,iL⟩
   have xL:¬(q:Int)<(q:Int):=dZ;clear Y jm iL
   go_wp2
   go_ret;exact⟨_,rfl,HW.out⟩
