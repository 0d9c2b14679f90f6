import Derived.Test.YtieklnlbljejdaaGreatDoorT13
open Go.Value renaming int → ι, slice → σ, pointer → π, tuple → τ, nilIface → η
open Go.IntKind renaming i64 → κ
open Go.Ending renaming returned → ρ
open Go.Obj renaming cells → γ
open Option renaming none → ν, some → μ
open Go renaming Value → dO, World → dN, TypeId → dR, run_underlying → fS, Calls → eM
open Go.Instr renaming loadAt → fe, findKey → fZ, lookup → eU, mapUpdate → eX
open Go.Sem renaming run_bind → fj, run_pure → fk
open Go.Result renaming andThen_ok → dZ
open Go.Proofs.Tryz renaming prog → eN, underlying184 → ga
open Go.RowKit renaming intOf → eP
open List renaming range → fG
open Go.Value renaming int → dT
open Go.MapKept renaming run_getObj_map → gb
set_option maxRecDepth 100000
set_option maxHeartbeats 6000000
namespace Go.Proofs.YtieklnlbljejdaaGreatDoor
open Go.RowKit St
namespace Rt
variable {C args:Array Value} {E:List (Int×Int×Int)} {F:Nat->Value} {K:Int->Option PS} {N b i j k m n:Nat} {P:Nat->jb} {Q:Exit->Act->World->Prop} {W w w' x:World} {a c u v:Value} {f:FuncId} {id:Int} {o:Oper} {ops:Array Oper} {p q:Addr} {r r':iy} {rest:List Oper} {t:TypeId} {α:Type}
structure nr(id:Int)(q:kL):Prop where
 who:0<=q.who/\q.who<=6
 me:q.who≠id
 both:q.both=true->1<=q.who
 left:0<=q.left/\q.left<=4
def Ug(K:Int->Option PS):Prop:=∀x,(K x).isSome=true->1<=x/\x<=6
theorem Ug.vu(h:Ug K) {k:Int} (hk:1<=k/\k<=6)(q:PS):Ug (tZ K k q):=λx hx=>by
 unfold tZ at hx;split at hx
 ·omega
 ·exact h x hx
structure kE(r:iy):Prop where
 id:1<=r.id/\r.id<=6
 m:∀i,i<r.n->1<=(r.P i).m/\(r.P i).m<=20
 pe:∀i,i<r.n->nr r.id (r.P i).pe
 own:∃q,r.K r.id=μ q/\ox r.id q.1 q.2=0
 QS:Ug r.K
theorem nr.nobody {id:Int} (h:1<=id):nr id Rt.nobody:=⟨⟨dS,dS⟩,λe=>(by have e2:(0:Int)=id:=e;omega),λe=>absurd e dS,⟨dS,dS⟩⟩
theorem nr.tick {q:kL} (hi:1<=id)(h:nr id q):nr id (iH q):=by
 unfold iH;split
 ·exact nr.nobody hi
 ·exact⟨h.who,h.me,h.both,by have:=h.left;simp;omega⟩
theorem nr.Uh {f s:Int} (hi:1<=id)(hf:1<=f/\f<=6):nr id (jP id f s):=by
 unfold jP;split
 ·exact nr.nobody hi
 ·rename_i h
  exact⟨by simp;omega,by simpa using h,λ_=>by simp;omega,gN⟩
def vD(P:Nat->jb)(n:Int)(k:Nat):Prop:=(P k).pe.both=true/\(P k).pe.who=n/\(match jA P n k with|none=>true|some b=>decide ((P k).m<(P b).m))=true
instance(P:Nat->jb)(n:Int)(k:Nat):Decidable (vD P n k):=by unfold vD;infer_instance
theorem uX {n:Int} (h:vD P n k):jA P n (k+1)=μ k:=by
 unfold jA;exact ag h
theorem uh {n:Int} (h:¬vD P n k):jA P n (k+1)=jA P n k:=by
 have:jA P n (k+1)=if vD P n k then μ k else jA P n k:=by
  rw[jA];by_cases hc:vD P n k
  ·rw[ag hc];exact ag hc
  ·rw[ae hc];exact ae hc
 rw[this,ae h]
theorem nt {P:Nat->jb} {n:Int}:∀ {k b:Nat},jA P n k=μ b->b<k/\(P b).pe.both=true/\(P b).pe.who=n
 |0,b,h=>by simp[jA]at h
 |k+1,b,h=>by
  by_cases hc:vD P n k
  ·rw[uX hc]at h;have:=Option.some.inj h;subst this;exact⟨dP,hc.1,hc.2.1⟩
  ·rw[uh hc]at h;have:=nt h;exact⟨dP,this.2⟩
def nL(r:iy)(j n:Nat):List jv:=(List.range' j n).filterMap λ(j:Nat)=>(jA r.P ((j:Int)+1) r.n).map λb=>((j:Int)+1,(r.P b).m)
theorem zu(r:iy):iX r=nL r 0 6:=by unfold iX nL;rw[cV]
theorem qh {r:iy} (h:kE r):∀(n j:Nat) (Z:Int),Z<=j->j+n<=6->pL r.id Z (nL r j n)=0/\(nL r j n).length<=n
 |0,j,Z,_,_=>by simp[nL,pL]
 |n+1,j,Z,h1,h2=>by
  have ih:=qh h n (j+1) ((j:Int)+1) dP dP;have ih2:=qh h n (j+1) Z dP dP;have e:nL r j (n+1)=(match jA r.P ((j:Int)+1) r.n with|none=>nL r (j+1) n|some b=>((j:Int)+1,(r.P b).m)::nL r (j+1) n):=by
   unfold nL;rw[dv,cG];cases jA r.P ((j:Int)+1) r.n<;>simp
  cases hb:jA r.P ((j:Int)+1) r.n with
  |none=>
   rw[hb]at e;simp only at e;rw[e];exact⟨ih2.1,dP⟩
  |some b=>
   rw[hb]at e;simp only at e;rw[e];obtain⟨Y,QT,U⟩:=nt hb;have hm:=h.m b Y;have V:=h.pe b Y;have X:=V.me;rw[U]at X;refine⟨?_,by simp;omega⟩;unfold pL;rw[ae (by simp only;omega)];simp only
   first
    |exact ih.1
    |(rw[ae dP];exact ih.1)
    |(rw[ae dP,ae dP];exact ih.1)
theorem BF(h:kE r) {seq:Int} (hs:1<=seq/\seq<=1000000):ox r.id seq (iX r)=0:=by
 have Z:=qh h 6 0 0 dP dP;rw[<-zu]at Z;have qw:=h.id;unfold ox;rw[ae dP,ae dP];exact Z.1
theorem kE.iE {r:iy} (h:kE r)(i:Nat)(p:jb)(Y:p.m=(r.P i).m)(X:i<r.n->nr r.id p.pe):kE (r.iE i p):=by
 refine⟨h.id,λj Z=> ?_,λj Z=> ?_,h.own,h.QS⟩
 ·show 1<=(kA r.P i p j).m/\(kA r.P i p j).m<=20;by_cases e:j=i
  ·subst e;simp only[kA,if_true];rw[Y];exact h.m j Z
  ·simp only[kA,if_neg e];exact h.m j Z
 ·show nr r.id (kA r.P i p j).pe;by_cases e:j=i
  ·subst e;simp only[kA,if_true];exact X Z
  ·simp only[kA,if_neg e];exact h.pe j Z
theorem kE.behind {r:iy} (h:kE r) {seq:Int} (hs:0<=seq):kE (r.behind seq):=by
 unfold iy.behind;split
 ·refine⟨h.id,h.m,h.pe,⟨(seq+1,iX r),by simp[iy.Bu,tZ],BF h dP⟩,h.QS.vu h.id _⟩
 ·exact h
theorem kE.seq(h:kE r):1<=yB r.K r.id/\yB r.K r.id<=1000000:=by
 obtain⟨q,Z,hs⟩:=h.own;have:=(jk hs).2.1;unfold yB;rw[Z];exact this
theorem kE.change {r:iy} (h:kE r):kE r.change:=by
 unfold iy.change;split
 ·exact h
 ·exact h.behind (by have:=h.seq;omega)
theorem kE.wq(h:kE r)(Z:Nat->Int->Option PS):kE {r with O:=Z}:=⟨h.id,h.m,h.pe,h.own,h.QS⟩
theorem kE.meet {r:iy} (h:kE r)(i:Nat) {q:kL} (Y:nr r.id q):kE (r.meet i q):=by
 have Z:kE (r.iE i {r.P i with pe:=q}):=h.iE i _ rfl (λ_=>Y);unfold iy.meet;simp only;split
 ·exact Z
 ·split
  ·exact(Z.wq _).change.wq _
  ·exact(Z.wq _).change
def rowOf(m:Nat)(F:Nat->dO):Array dO:=(Array.range m).map F
theorem lF(m:Nat)(F:Nat->dO):(rowOf m F).size=m:=by simp[rowOf]
theorem qJ(m:Nat)(F:Nat->dO)(j:Nat)(h:j<m):(rowOf m F)[j]? =μ (F j):=by simp[rowOf,h]
section
variable {P:Program}
theorem oV.loadAt {w:dN} {g o m:Nat} {F:Nat->dO} (h:oV w g o m F)(t:dR)(d:TypeDesc)(T:P.underlying t=some d)(hd:(match d with| .struct _| .array _ _=>true|_=>false)=true)(hi:(P.info? t).map (·.size)=some m):
 (fe t (π (μ ⟨g,o,ν⟩))).run P w=.ok (.agg (rowOf m F)) w:=by
 have hl:(loadCells ⟨g,o,ν⟩ (rowOf m F).toList.length).run P w=.ok (rowOf m F).toList.toArray w:=
  run_loadCells_list (P:=P) w ⟨g,o,ν⟩ (rowOf m F).toList (λj v hv=>by
   have V:(⟨g,o,ν⟩:Addr).add j=⟨g,o+j,ν⟩:=by unfold Addr.add;split<;>simp_all
   have X:j<m:=by
    have:=(aG.1 hv).1;simpa[rowOf]using this
   have U:(rowOf m F).toList[j]? =μ (F j):=by simpa using qJ m F j X
   rw[V,h.cell j X];exact U.symm.trans hv)
 cases Y:P.info? t with
 |none=>simp[Y]at hi
 |some i=>
  have hs:i.size=m:=by simpa[Y]using hi
  have Z:(isAgg t).run P w=.ok true w:=by
   unfold isAgg;rw[fj,fS T w];cases d<;>simp_all
  simp only[Array.length_toList,Array.toArray_toList,lF]at hl;simp[fe,Instr.sureAddr,loadVar,fj,Z,sizeOf,typeInfo,Y,hs,hl]
theorem zY(w:dN) {a:Act} (Z:o.guard=ν)(x:Operand)(t:dR)(X:o.op=.load t x)
 (g off m:Nat) (F:Nat->dO) (d:TypeDesc) (hx:a.eval x=.pointer (some ⟨g,off,none⟩)) (hb:oV w g off m F) (U:P.underlying t=some d) (hd:(match d with| .struct _| .array _ _=>true|_=>false)=true) (hi:(P.info? t).map (·.size)=some m)
 (h:wpList P ops Q rest (a.put o.dst (.agg (rowOf m F))) w):wpList P ops Q (o::rest) a w:=by
 refine wpList_plain Z λK Y=> ?_;have V:=oV.loadAt hb t d U hd hi;unfold Oper.wp execOp;simp only[X,fj,fk,dZ,hx,V];exact Y _ _ h
theorem ng(w:dN) {a:Act} (Z:o.guard=ν)(x y:Operand)(t:dR)(X:o.op=.store t x y)(hd:o.dst=ν)
 (B:Nat) (C D:Array dO) (hx:a.eval x=π (μ ⟨B,0,ν⟩)) (hy:a.eval y=.agg D) (hb:iM w B C t) (hs:C.size=D.size) (hi:(P.info? t).map (·.size)=μ D.size) (Y:D.all (·.oneCell')=true)
 (h:wpList P ops Q rest a (w.setRow B D)):wpList P ops Q (o::rest) a w:=by
 refine lp w Z x y t X B C D hx hy hb hs hi Y ?_;rw[hd];exact h
end
def XE:Nat->dO:=λj=>if j=0 then ι κ 0 else if j=1 then π ν else if j<67 then JO (j-2)else if j=67 then ι κ 0 else if j=68 then .bool false else if j=69 then ι κ 0 else σ ν 0 0
theorem QV:(eN.info? 142).map (λi=>(i.zero,i.size))=μ (μ (.agg (rowOf 71 XE)),71):=gJ
theorem J8(w:dN):(zeroValue 142).run eN w=.ok (.agg (rowOf 71 XE)) w:=(bS QV).1 w
theorem J9:(eN.info? 142).map (·.size)=μ 71:=(bS QV).2
theorem Ao.one {l:List UInt8} {e d:Bool} (h:Ao F l e d)(j:Nat)(hj:j<65):(F j).oneCell'=true:=by
 by_cases Z:j<62
 ·obtain⟨x,hx⟩:=h.live j Z;rw[hx];rfl
 ·have:j=62 \/j=63 \/j=64:=dP;rcases this with rfl|rfl|rfl
  ·rw[h.many];rfl
  ·rw[h.esc];rfl
  ·rw[h.bad];rfl
theorem E4 {p:jb} {B:Nat} (h:Ao F p.rd.1 p.rd.2.1 p.rd.2.2)(hv:v.oneCell'=true):(rowOf 71 (uU p B v F)).all (·.oneCell')=true:=by
 rw[Array.all_eq_true];intro j S;rw[lF]at S;have e:(rowOf 71 (uU p B v F))[j] =uU p B v F j:=by simp[rowOf]
 rw[e];unfold uU;by_cases Z:j=0
 ·simp[Z];rfl
 by_cases Y:j=1
 ·simp[Y];rfl
 by_cases X:j<67
 ·simp only[Z,Y,X,if_false,if_true];exact Ao.one h (j-2) dP
 by_cases V:j=67
 ·simp[V];rfl
 by_cases U:j=68
 ·simp[U];rfl
 by_cases T:j=69
 ·simp[T];rfl
 ·simp only[Z,Y,X,V,U,T,if_false];exact hv
theorem Row.one {xs:List dO} (h:Row w k v n xs):v.oneCell'=true:=by
 rcases h.2 with⟨e,_⟩|⟨g,c,e,_⟩
 ·rw[e];rfl
 ·rw[e];rfl
def DM:Option Nat->Int
 |none=>0
 |some b=>(b:Int)
theorem Hj(P:Nat->jb)(n:Int)(k b:Nat)(h:jA P n k=μ b):b<k:=(nt h).1
theorem BH(z:Zt)(r:iy)(x:Int)(w:dN)(h:k8 w z r):
 eM eN 200 #[π (μ ⟨z.R,0,ν⟩),ι κ x] w λe w'=>e=ρ (τ #[ι κ (DM (jA r.P x r.n)),.bool (jA r.P x r.n).isSome])/\dV w w':=by
 have hl:=h.lt;have c1:=h.c1;have hz:=J8;have pY:=J9;have vE:=h.n3;have Aj:=h.J4;obtain⟨n,hn⟩:=fP (r.n);have HR:Hid _:=h;have Y:Hid _:=hn;rw[hn]at c1 vE Aj;rw[hn];obtain⟨Zp,O4⟩:=fP (rowOf 71 XE);have Ny:Zp.size=71:=by rw[<-O4];exact lF _ _
 rw[O4]at hz;clear h hn O4
 go_in
 go_wp2
 go_loopw [6,7,15] (λb f i wr=>∃k:Nat,k<=n/\i=ι κ k/\b=ι κ (DM (jA r.P x k))/\f=.bool (jA r.P x k).isSome/\dV w wr) (λ_ _ i _=>n-(eP i).toNat)
 case atStart=>exact⟨0,Nat.zero_le _,rfl,rfl,rfl,aq _ _⟩
 case round=>
  obtain⟨k,hk,rfl,rfl,rfl,iA⟩:=hrel;by_cases kc:k<n
  ·have nh:(k:Int)<(n:Int):=dP;have FO:(0:Int)<=(k:Int):=dP;have R:=HR.out.below iA;have Gs:k<r.n:=by rw[Y.out];exact kc
   have hp:=R.pt k Gs;obtain⟨F,hC,hF⟩:=hp.uV;have oP:=E4 (B:=z.B k) (v:=z.v k) hF (Row.one hp.ou);have gl:=R.DK;have d1:=R.c1;have dl:=R.lt;rw[Y.out]at d1;have HM:Hid (∀b,jA r.P x k=μ b->wr.cell? ⟨z.g,b*71,ν⟩=μ (ι κ (r.P b).m)):=λb hb=>(R.pt b (by have:=Hj _ _ _ _ hb;omega)).c0;obtain⟨D,U⟩:=fP (rowOf 71 (uU (r.P k) (z.B k) (z.v k) F));have FQ:D.size=71:=by rw[<-U];exact lF _ _
   have a0:D[0]? =μ (ι κ (r.P k).m):=by rw[<-U];exact qJ 71 _ 0 dS
   have J:D[67]? =μ (ι κ (r.P k).pe.who):=by rw[<-U];exact qJ 71 _ 67 dS
   have H:D[68]? =μ (.bool (r.P k).pe.both):=by rw[<-U];exact qJ 71 _ 68 dS
   rw[U]at oP;have ba:=gM wr (γ D 142);have hB:iM (wr.alloc (γ D 142)) wr.heap.size D 142:=iM.new _ _ _;have T:Hid (dV w (wr.alloc (γ D 142))):=gD iA ba;have WY:=(ai (a:=⟨z.R,1,ν⟩) (ba.block z.R dl)).trans d1;have dl':z.R<(wr.alloc (γ D 142)).heap.size:=Nat.lt_of_lt_of_le dl ba.size;have Ni:Hid (∀b,jA r.P x k=μ b->(wr.alloc (γ D 142)).cell? ⟨z.g,b*71,ν⟩=μ (ι κ (r.P b).m)):=λb hb=>(ai (a:=⟨z.g,b*71,ν⟩) (ba.block z.g gl)).trans (HM.out b hb);have gl':z.g<(wr.alloc (γ D 142)).heap.size:=Nat.lt_of_lt_of_le gl ba.size;have iO:=dE wr Zp D 142;go_wp2_with(first
    |(refine zY _ rfl (.tmp 18) 142 rfl z.g (k*71) 71 (uU (r.P k) (z.B k) (z.v k) F) _ rfl hC Tryz.underlying142 rfl pY ?_;rw[U])
    |(refine ng _ rfl (.tmp 9) (.tmp 19) 142 rfl rfl wr.heap.size Zp D rfl rfl (iM.new _ _ _) (by rw[Ny,FQ]) (by rw[FQ];exact pY) oP ?_;rw[iO]))
   have y0:=(hB.cell 0).trans a0;have A:=(hB.cell 67).trans J;have X:=(hB.cell 68).trans H;have yl:wr.heap.size<(wr.alloc (γ D 142)).heap.size:=af _ _ y0;obtain⟨W,hW⟩:=fP (wr.alloc (γ D 142));obtain⟨Z,hZ⟩:=fP (wr.heap.size);rw[hW]at T Ni WY dl' gl' y0 A X yl;rw[hZ]at y0 A X yl;rw[hW,hZ];clear hW hZ iO hB ba HM oP hC hF hp R U a0 J H FQ d1 dl gl;cases hb:(r.P k).pe.both with
   |false=>
    have Y:Hid _:=uh (P:=r.P) (n:=x) (k:=k) (λhc=>by have:=hc.1;rw[hb]at this;cases this);rw[hb]at X
    go_wp2
    go_quiet(fail)
    go_wp2
    go_roundw
    case rel=>exact⟨k+1,dP,by go_num,by rw[Y.out],by rw[Y.out],below_drewN T.out _⟩
    case measure=>simp[eP];omega
   |true=>
    rw[hb]at X;cases hw:((r.P k).pe.who==x)with
    |false=>
     have Y:Hid _:=uh (P:=r.P) (n:=x) (k:=k) (λhc=>by have:=hc.2.1;simp[this]at hw)
     go_wp2
     go_quiet(fail)
     go_wp2
     go_roundw
     case rel=>exact⟨k+1,dP,by go_num,by rw[Y.out],by rw[Y.out],below_drewN T.out _⟩
     case measure=>simp[eP];omega
    |true=>
     have G:(r.P k).pe.who=x:=by simpa using hw
     cases V:jA r.P x k with
     |none=>
      have M:Hid _:=uX (P:=r.P) (n:=x) (k:=k) ⟨hb,G,by rw[V]⟩;have y:DM ν=0:=rfl;have e2:(ν:Option Nat).isSome=false:=rfl;rw[y,e2]
      go_wp2
      go_quiet(fail)
      go_wp2
      go_roundw
      case rel=>exact⟨k+1,dP,by go_num,by rw[M.out];rfl,by rw[M.out];rfl,below_drewN T.out _⟩
      case measure=>simp[eP];omega
     |some b=>
      have Ua:=Hj _ _ _ _ V;have hM:=Ni.out b V;have jV:(b:Int)<(n:Int):=dP;have vT:(0:Int)<=(b:Int):=dP;have y:DM (μ b)=(b:Int):=rfl;have e2:(μ b:Option Nat).isSome=true:=rfl;by_cases S:(r.P k).m<(r.P b).m
      ·have M:Hid _:=uX (P:=r.P) (n:=x) (k:=k) ⟨hb,G,by rw[V];simp[S]⟩;have hmd:decide ((r.P k).m<(r.P b).m)=true:=by simp[S]
       rw[y,e2];clear S V
       go_wp2
       go_quiet(fail)
       go_wp2
       go_roundw
       case rel=>exact⟨k+1,dP,by go_num,by rw[M.out];rfl,by rw[M.out];rfl,below_drewN T.out _⟩
       case measure=>simp[eP];omega
      ·have Y:Hid (jA r.P x (k+1)=μ b):=(uh (P:=r.P) (n:=x) (k:=k) (λhc=>by have:=hc.2.2;rw[V]at this;simp[S]at this)).trans V;have hmd:decide ((r.P k).m<(r.P b).m)=false:=by simp[S]
       rw[y,e2];clear S V
       go_wp2
       go_quiet(fail)
       go_wp2
       go_roundw
       case rel=>exact⟨k+1,dP,by go_num,by rw[Y.out];rfl,by rw[Y.out];rfl,below_drewN T.out _⟩
       case measure=>simp[eP];omega
  ·have Gs:k=n:=dP;subst Gs
   go_wp2
   go_ret2
   exact⟨rfl,iA⟩
def C9(r:iy)(k:Nat):List jv:=(fG k).filterMap λ(j:Nat)=>(jA r.P ((j:Int)+1) r.n).map λb=>((j:Int)+1,(r.P b).m)
theorem Nz(h:jA r.P ((k:Int)+1) r.n=ν):C9 r (k+1)=C9 r k:=by
 unfold C9;rw[cH,cz];simp[h]
theorem NA(h:jA r.P ((k:Int)+1) r.n=μ b):C9 r (k+1)=C9 r k++ [((k:Int)+1,(r.P b).m)] :=by
 unfold C9;rw[cH,cz];simp[h]
theorem BI(z:Zt)(r:iy)(w:dN)(h:k8 w z r):
 eM eN 179 #[π (μ ⟨z.R,0,ν⟩)] w λe w'=>∃v,e=ρ v/\Made w w' v (iX r):=by
 obtain⟨i0,hi,nH,l8,mZ⟩:=aT AZ;have HR:Hid _:=h;clear h
 go_in
 go_wp2
 go_loopw [3,7] (λout i wr=>∃(k:Nat) (ao:Option Addr) (m cp:Nat),k<=6/\out=σ ao m cp/\i=ι κ k/\m<=k/\Row wr 2 (σ ao m cp) m (iG (C9 r k))/\(∀j,Value.ownBlock (σ ao m cp)=μ j->w.heap.size<=j)/\dV w wr) (λ_ i _=>6-(eP i).toNat)
 case atStart=>exact⟨0,ν,0,0,Nat.zero_le _,rfl,rfl,Nat.le_refl _,by simpa[C9,iG]using Row.nil w 2,λj D=>mB D,aq _ _⟩
 case round=>
  obtain⟨k,ao,m,cp,hk,rfl,rfl,OX,V,T,X⟩:=hrel;by_cases kc:k<6
  ·have nh:(k:Int)<6:=dP;have FO:(0:Int)<=(k:Int):=dP;have R:=HR.out.below X;have Z:=BH z r ((k:Int)+1) wr R;cases hb:jA r.P ((k:Int)+1) r.n with
   |none=>
    have Z:eM eN 200 #[π (μ ⟨z.R,0,ν⟩),ι κ ((k:Int)+1)] wr λe w'=>e=ρ (τ #[ι κ 0,.bool false])/\dV wr w':=by
     rw[hb]at Z;exact Z
    have H:Hid _:=Nz hb;have Y:Hid _:=V;have M:Hid _:=X;clear R hb V X;go_wp2_with(fail);refine Z.mono ?_;rintro e w1 ⟨rfl,b1⟩;clear Z
    go_wp2
    go_roundw
    case rel=>exact⟨k+1,_,m,cp,dP,rfl,by go_num,dP,by rw[H.out];exact Row.below Y.out b1,T,gD M.out b1⟩
    case measure=>simp[eP];omega
   |some b=>
    have Z:eM eN 200 #[π (μ ⟨z.R,0,ν⟩),ι κ ((k:Int)+1)] wr λe w'=>e=ρ (τ #[ι κ (b:Int),.bool true])/\dV wr w':=by
     rw[hb]at Z;exact Z
    have H:Hid _:=NA hb;have G:=(nt hb).1;have J:Hid _:=R;have Y:Hid _:=V;have M:Hid _:=X;clear R hb V X;go_wp2_with(fail);refine Z.mono ?_;rintro e w1 ⟨rfl,b1⟩;have U:=J.out.below b1;have d1:=U.c1;have dl:=U.lt;have gl:=U.DK;have g0:=(U.pt b G).c0;have jV:(b:Int)<(r.n:Int):=dP;have vT:(0:Int)<=(b:Int):=dP;have tS:=Row.below Y.out b1;have S:=gD M.out b1;clear Z U;go_wp2_with(at_builtin;go_must(refine iu _ rfl (.tmp 18) (.tmp 30) 38 rfl 123 i0 (.agg #[ι κ 0,ι κ 0]) 2 16 Tryz.underlying38 hi nH l8 mZ rfl dS (σ ao m cp) m (iG (C9 r k)) rfl (tS.alloc _) _ 1 1 [ι κ ((k:Int)+1),ι κ (r.P b).m] rfl rfl dS (mP _ _ _ _ _ gN) (kX _ _ _ _) (by unfold maxLen;omega) dP ?_));intro g' jd w2 kD y jj;have lR:=kS (S.alloc S.size _) y T;have lT:=mT (B:=w.heap.size) jj (by have:=S.size;omega) T;rw[show [dT .i64 ((k:Int)+1),dT .i64 (r.P b).m] =[dT .i64 (((k:Int)+1,(r.P b).m):jv).1,dT .i64 (((k:Int)+1,(r.P b).m):jv).2]from rfl,<-lZ,<-H.out]at kD;clear y jj
    go_wp2
    go_roundw
    case rel=>exact⟨k+1,_,m+1,jd,dP,rfl,by go_num,dP,kD,λj D=>j7 lT D,lR⟩
    case measure=>simp[eP];omega
  ·have A:k=6:=dP;subst A;have MD:m=(iX r).length:=by have:=V.1;rw[kR]at this;show m=(C9 r 6).length;omega
   go_wp2
   go_ret;exact⟨_,rfl,⟨by rw[<-MD];exact V,T,X⟩⟩
theorem yr(a b:Option Addr)(ca G n m:Nat)(os qs:List jv)(w:dN)(M:iK w a n os)(hb:iK w b m qs)(hn:n<=1000000)(hm:m<=1000000):
 eM eN 178 #[σ a n ca,σ b m G] w λe w'=>e=ρ (.bool (decide (os=qs)))/\∃k,w'=w.drewN k:=by
 have hl:=M.1;have ED:=hb.1;by_cases H:n=m
 ·subst H;have heq:((n:Int) !=(n:Int))=false:=gN
  go_in
  go_wp2
  go_loopw [13] (λi wr=>∃k m:Nat,k<=n/\i=ι κ k/\os.take k=qs.take k/\wr=w.drewN m) (λi _=>n-(eP i).toNat)
  case atStart=>exact⟨0,0,Nat.zero_le _,rfl,rfl,rfl⟩
  case round=>
   obtain⟨k,m,hk,rfl,S,rfl⟩:=hrel;have T:Hid _:=S;clear S;by_cases kc:k<n
   ·rcases M.2 with hA|⟨b1,o1,rfl,hA⟩
    ·omega
    rcases hb.2 with X|⟨b2,o2,rfl,X⟩
    ·omega
    obtain⟨c1,c2⟩:=hA k dP;obtain⟨c3,c4⟩:=X k dP;have V:Hid (os.take (k+1)=os.take k++ [os[k]'(by omega)]):=aw dP;have U:Hid (qs.take (k+1)=qs.take k++ [qs[k]'(by omega)]):=aw dP;have Y:Hid (os=qs->os[k]'(by omega)=qs[k]'(by omega)):=λh=>by subst h;rfl
    clear hA X;generalize os[k]'(by omega)=o at c1 c2 V Y;generalize qs[k]'(by omega)=q at c3 c4 U Y;have nh:(k:Int)<(n:Int):=dP;cases q1:(o.1==q.1)
    ·have Z:Hid (decide (os=qs)=false):=by
      show _=_;rw[bz];intro h;have:=Y.out h;rw[this]at q1;simp at q1
     go_wp2
     go_quiet(fail)
     go_wp2_with(fail);rw[Z.out];go_ret;exact⟨rfl,_,drewN_drewN _ _ _⟩
    ·cases q2:(o.2==q.2)
     ·have Z:Hid (decide (os=qs)=false):=by
       show _=_;rw[bz];intro h;have:=Y.out h;rw[this]at q2;simp at q2
      go_wp2
      go_quiet(fail)
      go_wp2_with(fail);rw[Z.out];go_ret;exact⟨rfl,_,drewN_drewN _ _ _⟩
     ·have J:Hid (os.take (k+1)=qs.take (k+1)):=by
       show _=_;rw[V.out,U.out,T.out];simp at q1 q2;congr 2;exact bn q1 q2
      go_wp2
      go_quiet(fail)
      go_wp2
      go_roundw
      case rel=>exact⟨k+1,_,dP,by go_num,J.out,rfl⟩
      case measure=>simp[eP];omega
   ·have y:decide (os=qs)=true:=by
     have D:os.take k=os:=aC dP;have A:qs.take k=qs:=aC dP;have:=T.out;rw[D,A]at this;simp[this]
    go_wp2_with(fail);rw[y];go_ret;exact⟨rfl,m,rfl⟩
 ·have heq:((n:Int) !=(m:Int))=true:=by simp;omega
  have Z:decide (os=qs)=false:=by
   rw[bz];intro h;subst h;omega
  rw[Z]
  go_in
  go_wp2
  go_ret;exact⟨rfl,0,rfl⟩
theorem qy {k:Int} (h: -1000000<=k/\k<=1000000):qS k:=⟨dP,dP⟩
theorem LJ(K:Int->Option PS)(i:Int):zX K i=lP K i:=by
 unfold zX lP;cases K i<;>rfl
theorem LK(K:Int->Option PS)(i:Int):yB K i=oY K i:=by
 unfold yB oY;cases K i<;>rfl
theorem lH {o:Obj} (h:w.cell? p=μ v):(w.alloc o).cell? p=μ v:=by
 rw[World.cell?_alloc_lt]
 ·exact h
 ·exact af w _ h
theorem nu {o:Obj} (h:w.cell? p=μ u/\w.cell? q=μ v):(w.alloc o).cell? p=μ u/\(w.alloc o).cell? q=μ v:=⟨lH h.1,lH h.2⟩
theorem BK {x:dO} (h:w.cell? p=μ v)(Z:p.block≠N):(w.setCell ⟨N,j,ν⟩ x).cell? p=μ v:=by
 rw[ai (w:=w) (ak _ _ _ _ Z)];exact h
theorem uY {b:dO} (h:w.cell? p=μ v)(Z:p.block≠N):(((w.setCell ⟨N,0,ν⟩ a).setCell ⟨N,1,ν⟩ b).setCell ⟨N,2,ν⟩ c).cell? p=μ v:=BK (BK (BK h Z) Z) Z
theorem sP {b:dO} (h:w.cell? p=μ u/\w.cell? q=μ v)(Z:p.block≠N)(Y:q.block≠N):(((w.setCell ⟨N,0,ν⟩ a).setCell ⟨N,1,ν⟩ b).setCell ⟨N,2,ν⟩ c).cell? p=μ u/\(((w.setCell ⟨N,0,ν⟩ a).setCell ⟨N,1,ν⟩ b).setCell ⟨N,2,ν⟩ c).cell? q=μ v:=⟨uY h.1 Z,uY h.2 Y⟩
theorem BL {b:dO} (hC:iM x N C t)(V:C.size=3)(Z:w.heap.size<=N)(hb:dV w x):
 (((x.setCell ⟨N,0,ν⟩ a).setCell ⟨N,1,ν⟩ b).setCell ⟨N,2,ν⟩ c).cell? ⟨N,1,ν⟩=μ b/\(((x.setCell ⟨N,0,ν⟩ a).setCell ⟨N,1,ν⟩ b).setCell ⟨N,2,ν⟩ c).cell? ⟨N,2,ν⟩=μ c/\dV w (((x.setCell ⟨N,0,ν⟩ a).setCell ⟨N,1,ν⟩ b).setCell ⟨N,2,ν⟩ c)/\∀j,j≠N->(((x.setCell ⟨N,0,ν⟩ a).setCell ⟨N,1,ν⟩ b).setCell ⟨N,2,ν⟩ c).heap[j]? =x.heap[j]? :=by
 have X:=((hC.set 0 a).set 1 b).set 2 c;refine⟨?_,?_,((hb.setCell (p:=⟨N,0,ν⟩) Z a).setCell (p:=⟨N,1,ν⟩) Z b).setCell (p:=⟨N,2,ν⟩) Z c,λj Y=> ?_⟩
 ·rw[X.cell 1];simp[V]
 ·rw[X.cell 2];simp[V]
 ·rw[ak _ _ _ _ Y,ak _ _ _ _ Y,ak _ _ _ _ Y]
theorem iK.not_zero {x':dN} {a:Option Addr} {es:List jv} (h:iK x a n es)(S:iM x N #[ι κ 0,ι κ 0,σ ν 0 0] t)(M:∀e∈es,1<=e.1)(U:∀j,j≠N->x'.heap[j]? =x.heap[j]?):iK x' a n es:=by
 refine⟨h.1,?_⟩;rcases h.2 with Y|⟨b,off,rfl,Y⟩
 ·exact .inl Y
 ·by_cases T:n=0
  ·exact .inl T
  ·have hl:0<es.length:=by have:=h.1;omega
   have X:b≠N:=by
    intro e;subst e;have Z:=(Y 0 hl).1;rw[S.cell]at Z;have h4:=M es[0] (aD hl);have:off+0*2=0 \/off+0*2=1 \/off+0*2=2 \/3<=off+0*2:=dP;rcases this with e|e|e|e
    ·rw[e]at Z;simp at Z;omega
    ·rw[e]at Z;simp at Z;omega
    ·rw[e]at Z;simp at Z
    ·rw[aV (by simpa using e)]at Z;cases Z
   exact .inr ⟨b,off,rfl,λj V=>⟨(ai (a:=⟨b,_,ν⟩) (U b X)).trans (Y j V).1,(ai (a:=⟨b,_,ν⟩) (U b X)).trans (Y j V).2⟩⟩
theorem iI(w:dN):dV w w.drew:=iZ (aq _ _)
theorem BM(z:Zt)(r:iy)(seq:Int)(w:dN)(h:k8 w z r)(H:kE r)(hs:0<=seq/\seq<=1000000):
 eM eN 180 #[π (μ ⟨z.R,0,ν⟩),ι κ seq] w λe w'=>e=ρ (τ #[])/\ig w w' z (r.behind seq) r.n:=by
 by_cases kc:seq<1000000
 ·have M:Hid (r.behind seq=r.Bu (seq+1) (iX r)):=by
   show _=_;unfold iy.behind;rw[ag kc]
  have X:=h.below (iI w);have he:=BI z r w.drew X;have V:∀(U:dN) (a:Option Addr) (cap:Nat),Made w.drew U (σ a (iX r).length cap) (iX r)->kd a cap->eM eN 67 #[π (μ ⟨z.Bb,0,ν⟩),.agg #[ι κ r.id,ι κ (seq+1),σ a (iX r).length cap]] U λe w'=>e=ρ η/\ig w w' z (r.behind seq) r.n/\(w'.cell? ⟨z.R,0,ν⟩=μ (ι κ r.id)/\w'.cell? ⟨z.R,2,ν⟩=μ (π (μ ⟨z.Bb,0,ν⟩))):=by
   intro U a cap Z S;have Y:=X.below Z.below;refine(Hd z.Bb z.fm 6 r.K r.O r.id (seq+1) a (iX r).length cap (iX r) U Y.bs (qy (by have:=H.id;omega)) Z.opts.2 S dP (BF H dP)).mono ?_;rintro e w2 ⟨rfl,hB,G⟩;refine⟨rfl,?_,jc.cell G Y.bs Y.c0,jc.cell G Y.bs Y.c2⟩;rw[M.out];exact ig.first h rfl (gD (iI w) Z.below) (λ_=>Y.base hB G)
  have T:eM eN 179 #[π (μ ⟨z.R,0,ν⟩)] w.drew λe w'=>∃a cap,e=ρ (σ a (iX r).length cap)/\Made w.drew w' (σ a (iX r).length cap) (iX r)/\kd a cap/\(w'.cell? ⟨z.R,0,ν⟩=μ (ι κ r.id)/\w'.cell? ⟨z.R,2,ν⟩=μ (π (μ ⟨z.Bb,0,ν⟩))):=by
   refine he.mono ?_;rintro e U ⟨v,rfl,Z⟩;obtain⟨a,cap,rfl,S,hle⟩:=Z.shape;have Y:=X.below Z.below;exact⟨a,cap,rfl,Z,S,Y.c0,Y.c2⟩
  have c0:=X.c0;have c2:=X.c2;have cl:=X.lt;have VH:=hs.1;obtain⟨n,hn⟩:∃n:dN->Prop,(λx=>ig w x z (r.behind seq) r.n)=n:=⟨_,rfl⟩
  have XF:∀x,ig w x z (r.behind seq) r.n=n x:=λx=>bU hn x;simp only[XF]at V⊢;generalize iX r=es at V T;generalize z.R=J at V T c0 c2 cl⊢;generalize z.Bb=Bb at V T c2;generalize r.id=id at V T c0;clear h H X hs he M hn XF;have SN:IntKind.i64.wrap (seq+1)=seq+1:=aM _ ⟨dP,dP⟩;have D:w.drew.cell? ⟨J,0,ν⟩=μ (ι κ id)/\w.drew.cell? ⟨J,2,ν⟩=μ (π (μ ⟨Bb,0,ν⟩)):=⟨c0,c2⟩
  go_in
  go_wp2
  go_region_held3(λx=>x.cell? ⟨J,0,ν⟩=μ (ι κ id)/\x.cell? ⟨J,2,ν⟩=μ (π (μ ⟨Bb,0,ν⟩)))
   (first|assumption|exact D|exact A|exact y)
   (first
    |(go_at_call 179;refine T.mono ?_;rintro e U ⟨a,cap,rfl,Z,S,A⟩;have HM:Hid _:=Z;clear Z)
    |(go_at_call 67;refine(V _ _ _ HM.out S).mono ?_;rintro e w2 ⟨rfl,mW,y⟩))
  all_goals
   clear V D A y
   go_wp2
   first|go_end0|refine iq rfl rfl ?_
   exact⟨rfl,mW⟩
 ·have M:Hid (r.behind seq=r):=by
   show _=_;unfold iy.behind;rw[ae kc]
  have HR:Hid _:=h;clear h H hs
  go_in
  go_wp2
  first|go_end0|refine iq rfl rfl ?_
  exact⟨rfl,by rw[M.out];exact ig.refl HR.out⟩
theorem Ka(z:Zt)(r:iy)(w:dN)(h:k8 w z r)(D:kE r):
 eM eN 125 #[π (μ ⟨z.R,0,ν⟩)] w λe w'=>e=ρ (τ #[])/\ig w w' z r.change r.n:=by
 have Hk:=qy (k:=r.id) (by have:=D.id;omega);have U:∀W,dV w W->eM eN 177 #[π (μ ⟨z.Bb,0,ν⟩),ι κ r.id] W λe w'=>∃a cap,e=ρ (τ #[.agg #[ι κ (vz r.K r.id),ι κ (oY r.K r.id),σ a (lP r.K r.id).length cap],.bool (r.K r.id).isSome])/\iK w' a (lP r.K r.id).length (lP r.K r.id)/\dV W w'/\(w'.cell? ⟨z.R,0,ν⟩=μ (ι κ r.id)/\w'.cell? ⟨z.R,2,ν⟩=μ (π (μ ⟨z.Bb,0,ν⟩))):=by
  intro W X;refine(He z.Bb z.fm 6 r.K r.O r.id W (h.below X).bs Hk).mono ?_;rintro e w1 ⟨a,cap,rfl,y,_,_,b1⟩;have R1:=h.below (gD X b1);exact⟨a,cap,rfl,y,b1,R1.c0,R1.c2⟩
 have h6:(lP r.K r.id).length<=6:=by
  obtain⟨q,hq,jX⟩:=D.own;have:=(jk jX).2.2.1;unfold lP;rw[hq];exact this
 have QW:Hid (∀e∈lP r.K r.id,1<=e.1):=by
  obtain⟨q,hq,jX⟩:=D.own;have:=qF r.id q.2 0 (jk jX).2.2.2;unfold lP;rw[hq];exact λe A=>(this e A).1.1
 have h6e:(iX r).length<=6:=by
  have:=(qh D 6 0 0 dP dP).2;rw[<-zu]at this;omega
 have A:∀W,dV w W->eM eN 179 #[π (μ ⟨z.R,0,ν⟩)] W λe w'=>∃a cap,e=ρ (σ a (iX r).length cap)/\iK w' a (iX r).length (iX r)/\dV W w':=by
  intro W X;refine(BI z r W (h.below X)).mono ?_;rintro e w1 ⟨v,rfl,hM⟩;obtain⟨a,cap,rfl,_,_⟩:=hM.shape;exact⟨a,cap,rfl,hM.opts.2,hM.below⟩
 have j9:Hid (lP r.K r.id=iX r->∀W,dV w W->ig w W z r.change r.n):=by
  intro G W X;have HC:r.change=r:=by
   unfold iy.change;rw[ag ((LJ _ _).trans G)]
  rw[HC];exact ig.still h X
 have M:Hid (lP r.K r.id≠iX r->∀W,dV w W->eM eN 180 #[π (μ ⟨z.R,0,ν⟩),ι κ (oY r.K r.id)] W λe w'=>e=ρ (τ #[])/\ig w w' z r.change r.n):=by
  intro G W X;have HC:r.change=r.behind (oY r.K r.id):=by
   unfold iy.change;rw[ae (λe=>G ((LJ _ _).symm.trans e)),LK]
  have hsq:=D.seq;rw[LK]at hsq;refine(BM z r (oY r.K r.id) W (h.below X) D dP).mono ?_;rintro e w5 ⟨rfl,I9⟩;refine⟨rfl,?_⟩;rw[HC];exact ig.first h rfl X (λ_=>I9)
 have R0:=h.below (iI w);have Y:=And.intro R0.c0 R0.c2;have cl:=R0.lt;obtain⟨n,hn⟩:∃n:dN->Prop,(λx=>ig w x z r.change r.n)=n:=⟨_,rfl⟩
 have XF:∀x,ig w x z r.change r.n=n x:=λx=>bU hn x;simp only[XF]at j9 M⊢;generalize iX r=ed at A j9 M h6e;generalize lP r.K r.id=es at U j9 M h6 QW;generalize oY r.K r.id=sq at U M;generalize vz r.K r.id=ow at U;generalize (r.K r.id).isSome=ok at U;generalize z.R=H at U A M Y cl⊢;generalize z.Bb=Bb at U Y;generalize r.id=id at U Y;clear h D R0 hn XF Hk
 go_in
 go_wp2
 go_cut [2] (λv wx=>∃(Z:Nat) (a:Option Addr) (cap:Nat),v=π (μ ⟨Z,0,ν⟩)/\wx.cell? ⟨Z,1,ν⟩=μ (ι κ sq)/\wx.cell? ⟨Z,2,ν⟩=μ (σ a es.length cap)/\iK wx a es.length es/\dV w wx)
 case first=>
  obtain⟨c0,c2⟩:=Y;have Y:w.drew.cell? ⟨H,0,ν⟩=μ (ι κ id)/\w.drew.cell? ⟨H,2,ν⟩=μ (π (μ ⟨Bb,0,ν⟩)):=⟨c0,c2⟩
  have ba:=iZ (gM w (γ #[ι κ 0,ι κ 0,σ ν 0 0] 40));have vE:iM (w.alloc (γ #[ι κ 0,ι κ 0,σ ν 0 0] 40)).drew w.heap.size #[ι κ 0,ι κ 0,σ ν 0 0] 40:=(iM.new w _ _).drew;have jq:H≠w.heap.size:=by have h2:H<w.heap.size:=cl;omega
  go_region_held3(λx=>x.cell? ⟨H,0,ν⟩=μ (ι κ id)/\x.cell? ⟨H,2,ν⟩=μ (π (μ ⟨Bb,0,ν⟩)))
   (first|assumption|exact Y|exact T|exact nu T|exact nu Y|exact sP T jq jq)
   (first
    |(go_at_call 177;refine(U _ (by first|exact iI w|exact ba)).mono ?_;rintro e w1 ⟨a,cap,rfl,y,b1,T⟩;first|(have J:=vE.below b1;have y0:=J.cell 0;have y1:=J.cell 1;have y2:=J.cell 2;have z0:=J.frozen 0;have z1:=J.frozen 1;have z2:=J.frozen 2)|skip))
  all_goals
   go_wp2_with(fail)
   go_meet
   first
    |exact⟨_,a,cap,rfl,aj w1 _ _ (0,0) 1,aj w1 _ _ (0,0) 2,y.below (gM _ _),gD (gD (iI w) b1) (gM _ _)⟩
    |(have h5:=BL (a:=.int .i64 ow) (b:=.int .i64 sq) (c:=.slice a es.length cap) J rfl (Nat.le_refl _) (gD ba b1)
      exact⟨_,a,cap,rfl,h5.1,h5.2.1,iK.not_zero y J QW.out h5.2.2.2,h5.2.2.1⟩)
 case rest=>
  obtain⟨Z,a,cap,rfl,d1,d2,y,pj⟩:=hcut;have bd:=gD pj (iI wc);have Y:wc.drew.cell? ⟨Z,1,ν⟩=μ (ι κ sq)/\wc.drew.cell? ⟨Z,2,ν⟩=μ (σ a es.length cap):=⟨d1,d2⟩
  have zl:Z<wc.drew.heap.size:=af wc.drew _ Y.1;have Ui:eM eN 179 #[π (μ ⟨H,0,ν⟩)] wc.drew λe w'=>∃V S,e=ρ (σ V ed.length S)/\iK w' V ed.length ed/\iK w' a es.length es/\dV w w'/\(w'.cell? ⟨Z,1,ν⟩=μ (ι κ sq)/\w'.cell? ⟨Z,2,ν⟩=μ (σ a es.length cap)):=by
   refine(A _ bd).mono ?_;rintro e w3 ⟨V,S,rfl,xj,b3⟩;exact⟨V,S,rfl,xj,(y.below (iI wc)).below b3,gD bd b3,(ai (a:=⟨Z,1,ν⟩) (b3.block Z zl)).trans Y.1,(ai (a:=⟨Z,2,ν⟩) (b3.block Z zl)).trans Y.2⟩
  obtain⟨bb,QT⟩:=fP (decide (es=ed));have heq:∀(W:dN) (V:Option Addr) (S:Nat),iK W V ed.length ed->iK W a es.length es->eM eN 178 #[σ a es.length cap,σ V ed.length S] W λe w'=>e=ρ (.bool bb)/\∃k,w'=W.drewN k:=by
   intro W V S h1 h2;rw[<-QT];exact yr a V cap S _ _ es ed W h2 h1 dP dP
  clear A U d1 d2
  go_wp2
  go_region_held3(λx=>x.cell? ⟨Z,1,ν⟩=μ (ι κ sq)/\x.cell? ⟨Z,2,ν⟩=μ (σ a es.length cap))
   (first|assumption|exact Y|exact T|exact F2)
   (first
    |(go_at_call 179;refine Ui.mono ?_;rintro e w3 ⟨V,S,rfl,xj,TH,b3,T⟩)
    |(go_at_call 178;refine(heq _ _ _ xj TH).mono ?_;rintro e w4 ⟨rfl,kk,rfl⟩;have F2:(w3.drewN kk).cell? ⟨Z,1,none⟩=some (.int .i64 sq)/\(w3.drewN kk).cell? ⟨Z,2,none⟩=some (.slice a es.length cap):=T))
  all_goals
   have b4:=below_drewN b3 kk;cases bb
   ·have G:es≠ed:=by simpa using QT
    have hb5:=M.out G _ b4;have f1:=F2.1;have fl:Z<(w3.drewN kk).heap.size:=af (w3.drewN kk) _ f1;clear M j9 heq Ui Y T F2 xj TH;go_wp2_with(fail);refine hb5.mono ?_;rintro e w5 ⟨rfl,X⟩;clear hb5
    go_wp2
    first|go_end0|refine iq rfl rfl ?_
    exact⟨rfl,X⟩
   ·have G:es=ed:=by simpa using QT
    have X:=j9.out G _ b4;clear M j9 heq Ui Y T F2 xj TH
    go_wp2
    first|go_end0|refine iq rfl rfl ?_
    exact⟨rfl,X⟩
theorem ig.py {a b c:dN} {z z':Zt} (h:ig a b z r n)(_hR:k8 b z' r)(hl:z.like z')(S:∀k,z'.mine n k->z.mine n k \/a.heap.size<=k)(G:∀k,z.fm.no k->z'.fm.no k)(k:ig b c z' r' n):ig a c z r' n:=by
 have Z:=h.kept;obtain⟨⟨D,J,M,A,H⟩,Y⟩:=k;refine⟨⟨D,J,Zt.Bx hl M,λx hx=> ?_,λx hx=>H x (G x hx)⟩,⟨Y.os.trans Z.os,Y.tape.trans Z.tape,Y.output.trans Z.output,Nat.le_trans Z.size Y.size,λx hx V U T=>(Y.block x (Nat.lt_of_lt_of_le hx Z.size) (λe=> ?_) (by rw[hl.bm];exact U) (by rw[hl.bs];exact T)).trans (Z.block x hx V U T)⟩⟩
 ·rcases A x hx with e|e
  ·exact S x e
  ·exact .inr (Nat.le_trans Z.size e)
 ·rcases S x e with X|X
  ·exact V X
  ·omega
section
variable {w w':World} {z:Zt} {r:iy} {n:Nat}
theorem ig.c0(h:ig w w' z r n):w'.cell? ⟨z.R,0,ν⟩=μ (ι κ r.id):=by
 obtain⟨⟨z',Z,hl,_⟩,_⟩:=h;have:=Z.c0
 rwa [hl.R]at this
theorem ig.c1(h:ig w w' z r n):w'.cell? ⟨z.R,1,ν⟩=μ (σ (μ ⟨z.g,0,ν⟩) r.n z.cap):=by
 obtain⟨⟨z',Z,hl,_⟩,_⟩:=h;have:=Z.c1
 rwa [hl.R,hl.g,hl.cap]at this
theorem ig.c2(h:ig w w' z r n):w'.cell? ⟨z.R,2,ν⟩=μ (π (μ ⟨z.Bb,0,ν⟩)):=by
 obtain⟨⟨z',Z,hl,_⟩,_⟩:=h;have:=Z.c2
 rwa [hl.R,hl.Bb]at this
theorem ig.lt(h:ig w w' z r n):z.R<w'.heap.size:=af _ _ h.c0
theorem ig.pt(h:ig w w' z r n) {i:Nat} (hi:i<r.n):∃v,oZ w' z.g (i*71) (z.B i) v (r.P i):=by
 obtain⟨⟨z',Z,hl,_⟩,_⟩:=h;have:=Z.pt i hi;rw[hl.g,hl.B]at this;exact⟨_,this⟩
theorem ig.DK(h:ig w w' z r n):z.g<w'.heap.size:=by
 obtain⟨⟨z',Z,hl,_⟩,_⟩:=h;have:=Z.DK
 rwa [hl.g]at this
theorem ig.keep {r0:iy} (h:ig w w' z r n)(Z:k8 w z r0)(Y:¬z.mine n k) {fr:Nat×Nat} (hc:w.heap[k]? =μ (Obj.cells C t fr)):w'.heap[k]? =w.heap[k]? :=
 h.kept.block k (au.1 hc).1 Y (vA hc (Z.bs.maps _ (.inl rfl))) (λe=>vA hc (Z.bs.maps _ (.inr e)) rfl)
theorem ig.cell {r0:iy} (h:ig w w' z r n)(Z:k8 w z r0) {p:Addr} {v:dO} (Y:¬z.mine n p.block)(hc:w.cell? p=μ v):w'.cell? p=μ v:=by
 rw[ai (w:=w) (h.kept.block p.block (af w _ hc) Y (oO hc (Z.bs.maps _ (.inl rfl))) (λe=>oO hc (Z.bs.maps _ (.inr e)) rfl))];exact hc
theorem k8.rY {z:Zt} (h:k8 w z r)(hk:w.heap.size<=k):¬z.mine r.n k:=λe=>by have:=h.yD k e;omega
end
structure ny(w w':dN)(z:Zt)(r:iy)(n N:Nat)(C:Array dO)(t:dR):Prop where
 went:ig w w' z r n
 m9:iM w' N C t
 nn:r.n=n
 lt:N<w.heap.size
 no:¬z.mine n N
theorem ny.with {w a b:dN} {z z':Zt} {r r':iy} {n N:Nat} {C:Array dO} {t:dR} (h:ny w a z r n N C t)(V:r'.n=n)(Y:k8 a z' r)(hl:z.like z')(X:∀k,z'.mine n k->z.mine n k \/w.heap.size<=k)(U:∀k,z.fm.no k->z'.fm.no k)(k:ig a b z' r' n):ny w b z r' n N C t:=by
 refine⟨h.went.py Y hl X U k,?_,V,h.lt,h.no⟩;refine h.m9.keep (k.keep Y (λe=> ?_) h.m9);rcases X N e with Z|Z
 ·exact h.no Z
 ·have:=h.lt;omega
theorem ig.call {z:Zt} {E:Ending->Prop} (h:ig w W z r n)(k:∀Z,k8 W Z r->z.like Z->eM eN f args W λe w'=>E e/\ig W w' Z r' n):eM eN f args W λe w'=>E e/\ig w w' z r' n:=by
 obtain⟨Z,Y,hl,V,T⟩:=h.ex;refine(k Z Y hl).mono ?_;rintro e w' ⟨X,U⟩;exact⟨X,h.py Y hl V T U⟩
theorem ny.call {z:Zt} {E:Ending->Prop} (h:ny w W z r n N C t)(U:r'.n=n)(k:∀Z,k8 W Z r->z.like Z->eM eN f args W λe w'=>E e/\ig W w' Z r' n):eM eN f args W λe w'=>E e/\ny w w' z r' n N C t:=by
 obtain⟨Z,Y,hl,V,S⟩:=h.went.ex;refine(k Z Y hl).mono ?_;rintro e w' ⟨X,T⟩;exact⟨X,h.with U Y hl V S T⟩
theorem QX(z:Zt)(r:iy)(i:Nat)(w:dN)(h:k8 w z r)(hi:i<r.n):
 eM eN 124 #[π (μ ⟨z.Bb,0,ν⟩),ι κ (i:Int)] w λe w'=>e=ρ (τ #[])/\ig w w' z {r with O:=λx=>if x=i then λ_=>ν else r.O x} r.n:=by
 refine(Nn z.Bb z.fm 6 r.K r.O i w h.bs (by rw[h.bl];exact hi)).mono ?_;rintro e w1 ⟨rfl,Z,Y⟩;exact⟨rfl,h.base Z Y⟩
theorem NB(z:Zt)(r:iy)(i:Nat)(w:dN)(h:k8 w z r)(hi:i<r.n):
 eM eN 126 #[π (μ ⟨z.Bb,0,ν⟩),ι κ (i:Int)] w λe w'=>e=ρ η/\ig w w' z {r with O:=λx=>if x=i then oX (r.O i) r.K else r.O x} r.n:=by
 refine(Np z.Bb z.fm 6 r.K r.O i w h.bs (by rw[h.bl];exact hi) dP).mono ?_;rintro e w1 ⟨rfl,Z,Y⟩;exact⟨rfl,h.base Z Y⟩
def jy {α:Type} (f:Nat->α)(i:Nat)(x:α):Nat->α:=λj=>if j=i then x else f j
theorem ij(f:Nat->α)(i:Nat)(x:α):jy f i x i=x:=by simp[jy]
theorem gW(f:Nat->α)(x:α)(h:j≠i):jy f i x j=f j:=by simp[jy,h]
theorem ui(f:Nat->α)(i:Nat):jy f i (f i)=f:=by
 funext j
 by_cases e:j=i
 ·subst e;exact ij _ _ _
 ·exact gW _ _ e
structure pz where
 e:Nat->Nat×Nat
 jr:Bool
 on:Nat->List UInt8
structure iB where
 n:Nat
 R:Nat->iy
 jM:Nat->List wT
 ms:Nat->Nat->Int
 nc:Nat
 C:Nat->pz
def iB.jg(y:iB)(i:Nat)(r:iy):iB:={y with R:=jy y.R i r}
def iB.kG(y:iB)(i:Nat)(c:pz):iB:={y with C:=jy y.C i c}
def pz.put(c:pz)(d:Nat)(s:List UInt8):pz:=if c.jr=true/\(c.on d).length+s.length<=2000 then {c with on:=jy c.on d (c.on d++s)}else c
def iB.kN(y:iB)(i d:Nat):iB:=
 (y.jg ((y.C i).e d).1 ((y.R ((y.C i).e d).1).out ((y.C i).e d).2)).kG i ((y.C i).put d ((y.R ((y.C i).e d).1).P ((y.C i).e d).2).out)
def iB.jW(y:iB):Nat->iB
 |0=>y
 |k+1=>((y.jW k).kN k 0).kN k 1
def iB.vF(y:iB)(k:Nat):iB:={y with jM:=jy y.jM k (y.jM k++(y.R k).jM),R:=jy y.R k {y.R k with jM:=[] }}
def iB.mf(y:iB):Nat->iB
 |0=>y
 |k+1=>(y.mf k).vF k
def iB.gather(y:iB):iB:=(y.jW y.nc).mf y.n
def iB.lQ(y:iB)(i d:Nat)(up:Bool):iB:=y.jg ((y.C i).e d).1 ((y.R ((y.C i).e d).1).iw ((y.C i).e d).2 up).1
def iB.jC(y:iB)(i:Nat)(up:Bool):iB:=((y.kG i {y.C i with jr:=up,on:=λ_=>[] }).lQ i 0 up).lQ i 1 up
def iB.iw(y:iB)(i:Int)(up:Bool):iB×Nat:=
 if i<0 \/(y.nc:Int)<=i then(y,6)else if(y.C i.toNat).jr=up then(y,7)else((y.jC i.toNat up).gather,0)
def iB.tick(y:iB)(i:Int):iB×Nat:=
 if i<1 \/(y.n:Int)<i then(y,6)else((y.jg (i-1).toNat (y.R (i-1).toNat).tick).gather,0)
def iB.jw(y:iB)(i d k:Nat):iB:=
 (y.kG i {y.C i with on:=jy (y.C i).on d (((y.C i).on d).drop k)}).jg ((y.C i).e (1-d)).1 ((y.R ((y.C i).e (1-d)).1).recv ((y.C i).e (1-d)).2 (((y.C i).on d).take k))
def iB.deliver(y:iB)(i d many:Int):iB×Nat:=
 if i<0 \/(y.nc:Int)<=i \/d<0 \/2<=d then(y,6)else((y.jw i.toNat d.toNat (min many.toNat ((y.C i.toNat).on d.toNat).length)).gather,0)
def iB.kH(y:iB)(k:Nat):List Nat:=(fG y.nc).filter λc=>(y.C c).jr&& (((y.C c).e 0).1==k||((y.C c).e 1).1==k)
def iB.jo(y:iB)(up:Bool):List Nat->iB
 |[] =>y
 |c::l=>(y.jC c up).jo up l
def iB.restart(y:iB)(i:Int):iB×Nat:=
 if i<1 \/(y.n:Int)<i then(y,6)else
  ((((y.jo false (y.kH (i-1).toNat)).jg (i-1).toNat (jt i 3 (y.ms (i-1).toNat))).jo true (y.kH (i-1).toNat)).gather,0)
def iB.send(y:iB)(f t:Int)(tx:List UInt8):iB×Nat:=
 if f<1 \/(y.n:Int)<f then(y,6)
 else if(jR (y.R (f-1).toNat) t tx).2≠0 then(y,(jR (y.R (f-1).toNat) t tx).2)
 else((y.jg (f-1).toNat (jR (y.R (f-1).toNat) t tx).1).gather,0)
def iB.iW(y:iB):Nat->iB
 |0=>y
 |k+1=>((y.iW k).tick ((k:Int)+1)).1
def iB.j6(y:iB):Nat->iB
 |0=>y
 |k+1=>(((y.j6 k).deliver (k:Int) 0 2000).1.deliver (k:Int) 1 2000).1
def iB.turns(y:iB):Nat->iB
 |0=>y
 |k+1=>(y.turns k).j6 y.nc
def iB.round(y:iB):iB:=(y.iW y.n).turns 12
structure oH where
 a:Int
 pa:Int
 b:Int
 pb:Int
 m:Int
def jF:List (Int×Int×Int)->Int->Int->Option Int
 |[],_,_=>none
 |x::l,r,p=>if x.1=r/\x.2.1=p then some x.2.2 else jF l r p
def jG(l:List oH):List (Int×Int×Int):=l.flatMap λc=>[(c.a,c.pa,c.m),(c.b,c.pb,c.m)]
def m8(l:List oH)(i p:Nat):Int:=(jF (jG l) ((i:Int)+1) (p:Int)).getD 1
def nR(many r p:Int):Bool:=decide (1<=r)&&decide (r<=many)&&decide (0<=p)&&decide (p<3)
def wu(many:Int):List oH->List (Int×Int×Int)->Nat
 |[],_=>0
 |c::l,E=>
  if c.m<1 \/20<c.m then 1
  else if nR many c.a c.pa=false then 1
  else if(jF E c.a c.pa).isSome=true then 8
  else if nR many c.b c.pb=false then 1
  else if(jF (E++ [(c.a,c.pa,c.m)]) c.b c.pb).isSome=true then 8
  else wu many l (E++ [(c.a,c.pa,c.m),(c.b,c.pb,c.m)])
def mS(many:Int)(l:List oH):Nat:=if many<1 \/6<many then 1 else if 9<l.length then 2 else wu many l []
def oH.at(c:oH)(d:Nat):Nat×Nat:=if d=0 then((c.a-1).toNat,c.pa.toNat)else((c.b-1).toNat,c.pb.toNat)
def rv(l:List oH)(k:Nat):pz:=⟨(l.getD k ⟨1,0,1,0,1⟩).at,false,λ_=>[]⟩
def jx(many:Nat)(l:List oH):iB:=⟨many,λi=>jt ((i:Int)+1) 3 (m8 l i),λ_=>[],m8 l,l.length,rv l⟩
def Zt.plus(z:Zt)(X:Nat->Prop):Zt:={z with fm:={z.fm with no:=λk=>z.fm.no k \/X k}}
theorem k8.besides {z:Zt} (h:k8 w z r)(hs:w.heap.size<=w'.heap.size)(S:∀k,k<w.heap.size->(¬z.fm.no k \/z.mine r.n k)->w'.heap[k]? =w.heap[k]?)
 (X:Nat->Prop) (Y:∀k,X k->w.heap.size<=k/\k<w'.heap.size):k8 w' (z.plus X) r:=by
 have U:∀k,z.mine r.n k->w'.heap[k]? =w.heap[k]? :=λk e=>S k (h.yD k e) (.inr e);have M:=h.bs.still hs (λj V J=>S j V (.inl J)) h.nb.1 h.nb.2.1 h.nb.2.2 (λk=>z.fm.no k \/X k) (λj V=>V.imp_right (λe=>(Y j e).1)) (λj V=>V.elim (λe=>Nat.lt_of_lt_of_le (h.bs.Nk j e) hs) (λe=>(Y j e).2));have Xz:z.Bb<w.heap.size:=by obtain⟨_,_,hF,_⟩:=h.bs.ex;exact hF.lt
 have XA:z.fm.g<w.heap.size:=by obtain⟨_,_,hF,_⟩:=h.bs.ex;exact hF.row.lt _ rfl
 refine⟨h.n1,h.n3,h.J4,h.id,h.m9.keep (U _ (.inl rfl)),λi hi=> ?_,h.ib.keep hs (λk e=>U k (.inr (.inr (.inr e)))),M,h.bl,λk e=>.inl (h.no k e),⟨λe=> ?_,λe=> ?_,λb hb e=> ?_⟩,h.sR,h.sB,h.sV,h.sI,h.Nv⟩
 ·have Z:=h.pt i hi;obtain⟨F,hC,hF⟩:=Z.uV;exact⟨⟨F,hC.keep (U _ (.inr (.inl rfl))),hF⟩,Z.lk.keep (U _ (.inr (.inr (.inl ⟨i,hi,.inl rfl⟩)))),Z.ou.keep hs (λx hx=>U x (.inr (.inr (.inl ⟨i,hi,.inr hx⟩)))),Z.few,Z.ok,Z.gB,Z.vg,Z.vB,Z.nz⟩
 ·rcases e with e|e
  ·exact h.nb.1 e
  ·have T:w.heap.size<=z.Bb:=(Y _ e).1;omega
 ·rcases e with e|e
  ·exact h.nb.2.1 e
  ·have T:w.heap.size<=z.fm.g:=(Y _ e).1;omega
 ·rcases e with e|e
  ·exact h.nb.2.2 b hb e
  ·have h9:=h.bs.mlt b hb;have T:=(Y _ e).1;omega
inductive Lab where
 |N
 |R
 |I
 |C
 |ib (i:Nat)
 |on (c d:Nat)
structure Yt where
 N:Nat
 gR:Nat
 rH:Nat
 gI:Nat
 wv:Nat
 gC:Option Nat
 uj:Nat
 bM:Nat
 z:Nat->Zt
 iv:Nat->dO
 ov:Nat->Nat->dO
 ext:Nat->Prop
def Yt.at(y:Yt):Lab->Option Nat
 | .N=>some y.N
 | .R=>some y.gR
 | .I=>some y.gI
 | .C=>y.gC
 | .ib i=>(y.iv i).ownBlock
 | .on c d=>(y.ov c d).ownBlock
def Yt.own(y:Yt)(k:Nat):Prop:=∃l,y.at l=μ k
def Zt.nZ(z:Zt)(k:Nat):Prop:=z.mine 3 k \/k=z.fm.bm \/k∈z.fm.bs
def Yt.away(y:Yt)(n i k:Nat):Prop:=y.own k \/y.ext k \/ ∃j,j<n/\j≠i/\(y.z j).nZ k
def Yt.all(y:Yt)(n k:Nat):Prop:=y.own k \/ ∃j,j<n/\(y.z j).nZ k
def Yt.cv(y:Yt)(nc:Nat):dO:=match y.gC with|none=>.slice none 0 0|some g=>.slice (some ⟨g,0,none⟩) nc y.uj
def zZ(c:pz)(o:Nat->dO):Nat->dO:=λj=>
 if j=0 then ι κ (((c.e 0).1:Int)+1)else if j=1 then ι κ ((c.e 0).2:Int)else if j=2 then ι κ (((c.e 1).1:Int)+1)else if j=3 then ι κ ((c.e 1).2:Int)
 else if j=4 then .bool c.jr else if j=5 then o 0 else o 1
def uk(r p:Int):dO:=.agg #[ι κ r,ι κ p]
def nA(w:dN)(b:Nat)(E:List (Int×Int×Int)):Prop:=∃es clock,w.heap[b]? =μ (.map es clock)/\es.toList.map (λe=>(e.key,e.val))=E.map λx=>(uk x.1 x.2.1,.int .i64 x.2.2)
def Ar(E:List (Int×Int×Int)):Prop:=∀x∈E,(1<=x.1/\x.1<=6/\0<=x.2.1/\x.2.1<=2)/\jF E x.1 x.2.1=μ x.2.2
def QY(E:List (Int×Int×Int))(n:Nat)(ms:Nat->Nat->Int):Prop:=(∀(i p:Nat),i<n->p<3->(jF E ((i:Int)+1) (p:Int)).getD 1=ms i p/\1<=ms i p/\ms i p<=20)/\Ar E
structure jl(w:dN)(y:Yt)(n:iB):Prop where
 n1:1<=n.n
 n6:n.n<=6
 c9:n.nc<=9
 m9:iM w y.N #[σ (μ ⟨y.gR,0,ν⟩) n.n y.rH,σ (μ ⟨y.gI,0,ν⟩) n.n y.wv,.map (μ y.bM),y.cv n.nc] 190
 rr:oV w y.gR 0 n.n (λi=>π (μ ⟨(y.z i).R,0,ν⟩))
 ri:oV w y.gI 0 n.n y.iv
 rc:∀g,y.gC=μ g->∀c,c<n.nc->oV w g (c*7) 7 (zZ (n.C c) (y.ov c))
 gc:∀c,c<n.nc->∃g,y.gC=μ g
 mp:∃E,nA w y.bM E/\QY E n.n n.ms
 rt:∀i,i<n.n->k8 w (y.z i) (n.R i)
 rn:∀i,i<n.n->(n.R i).n=3/\(n.R i).id=(i:Int)+1
 ib:∀i,i<n.n->Row w 3 (y.iv i) (n.jM i).length (pV (n.jM i))
 ob:∀c d,c<n.nc->d<2->Row w 1 (y.ov c d) ((n.C c).on d).length (iz ((n.C c).on d))
 ol:∀c d,c<n.nc->d<2->((n.C c).on d).length<=2000
 en:∀c d,c<n.nc->d<2->((n.C c).e d).1<n.n/\((n.C c).e d).2<3
 inj:∀l l' k,y.at l=μ k->y.at l'=μ k->l=l'
 away:∀i,i<n.n->∀k,y.away n.n i k->(y.z i).fm.no k/\¬(y.z i).mine 3 k
 nx:∀k,y.ext k->¬y.own k
 nM:¬y.own y.bM/\¬y.ext y.bM/\∀i,i<n.n->¬(y.z i).nZ y.bM
 z0:¬y.own 0
structure Yt.same(y y':Yt):Prop where
 N:y'.N=y.N
 gR:y'.gR=y.gR
 rH:y'.rH=y.rH
 gI:y'.gI=y.gI
 wv:y'.wv=y.wv
 gC:y'.gC=y.gC
 uj:y'.uj=y.uj
 bM:y'.bM=y.bM
theorem Yt.DN(y:Yt):y.same y:=⟨rfl,rfl,rfl,rfl,rfl,rfl,rfl,rfl⟩
theorem Yt.wy {a b c:Yt} (h:a.same b)(k:b.same c):a.same c:=⟨k.N.trans h.N,k.gR.trans h.gR,k.rH.trans h.rH,k.gI.trans h.gI,k.wv.trans h.wv,k.gC.trans h.gC,k.uj.trans h.uj,k.bM.trans h.bM⟩
structure vG(w w':dN)(y:Yt)(n:Nat):Prop where
 os:w'.os=w.os
 tape:w'.tape=w.tape
 output:w'.output=w.output
 size:w.heap.size<=w'.heap.size
 block:∀k,k<w.heap.size->¬y.all n k->w'.heap[k]? =w.heap[k]?
structure il(w w':dN)(y:Yt)(n:iB)(m:Nat):Prop where
 ex:∃y',jl w' y' n/\y.same y'/\(∀k,y'.all m k->y.all m k \/w.heap.size<=k)/\(∀k,y'.ext k↔y.ext k)
 kept:vG w w' y m
theorem jl.lt {y:Yt} {n:iB} (h:jl w y n)(Y:y.own k \/y.ext k):k<w.heap.size:=by
 have Z:=(h.away 0 h.n1 k (Y.imp_right .inl)).1;exact(h.rt 0 h.n1).bs.Nk k Z
theorem jl.DP {y:Yt} {n:iB} (h:jl w y n):y.bM<w.heap.size:=by
 obtain⟨E,⟨es,clock,Z,_⟩,_⟩:=h.mp;exact(au.1 Z).1
theorem jl.wz {y:Yt} {n:iB} (h:jl w y n)(hi:i<n.n)(Y:(y.z i).nZ k):k<w.heap.size:=by
 rcases Y with e|e|e
 ·have Z:=(h.rt i hi).yD k;rw[(h.rn i hi).1]at Z;exact Z e
 ·exact(h.rt i hi).bs.mlt k (.inl e)
 ·exact(h.rt i hi).bs.mlt k (.inr e)
theorem jl.Hm {y:Yt} {n:iB} (h:jl w y n)(hi:i<n.n)(X:y.away n.n i k):¬(y.z i).nZ k:=by
 obtain⟨Z,Y⟩:=h.away i hi k X;intro e;rcases e with e|e|e
 ·exact Y e
 ·exact(h.rt i hi).nb.2.2 k (.inl e) Z
 ·exact(h.rt i hi).nb.2.2 k (.inr e) Z
theorem jl.LL {y:Yt} {n:iB} (h:jl w y n)(hi:i<n.n)(Z:y.own k):¬(y.z i).nZ k:=h.Hm hi (.inl Z)
theorem nA.keep(h:nA w b E)(hb:w'.heap[b]? =w.heap[b]?):nA w' b E:=by
 obtain⟨es,clock,Z,Y⟩:=h;exact⟨es,clock,hb.trans Z,Y⟩
theorem vG.refl(w:dN)(y:Yt)(n:Nat):vG w w y n:=⟨rfl,rfl,rfl,Nat.le_refl _,λ_ _ _=>rfl⟩
theorem il.refl {w:dN} {y:Yt} {n:iB} (h:jl w y n):il w w y n n.n:=⟨⟨y,h,y.DN,λ_ e=>.inl e,λ_=>dL⟩,vG.refl w y n.n⟩
theorem il.py {a b c:dN} {y y':Yt} {n':iB} (h:vG a b y m)(S:y.same y')(T:∀k,y'.all m k->y.all m k \/a.heap.size<=k)(J:∀k,y'.ext k↔y.ext k)(k:il b c y' n' m):il a c y n' m:=by
 obtain⟨⟨H,M,Y,G,X⟩,Z⟩:=k;refine⟨⟨H,M,Yt.wy S Y,λx hx=> ?_,λx=>(X x).trans (J x)⟩,⟨Z.os.trans h.os,Z.tape.trans h.tape,Z.output.trans h.output,Nat.le_trans h.size Z.size,λx hx U=>(Z.block x (Nat.lt_of_lt_of_le hx h.size) (λe=> ?_)).trans (h.block x hx U)⟩⟩
 ·rcases G x hx with e|e
  ·exact T x e
  ·exact .inr (Nat.le_trans h.size e)
 ·rcases T x e with V|V
  ·exact U V
  ·omega
theorem il.step {a b c:dN} {y:Yt} {n n':iB} (h:il a b y n m)(k:∀y',jl b y' n->y.same y'->il b c y' n' m):il a c y n' m:=by
 obtain⟨⟨y',X,Z,U,V⟩,Y⟩:=h;exact il.py Y Z U V (k y' X Z)
theorem il.call {y:Yt} {n n':iB} {E:Ending->Prop} (h:il w W y n m)(k:∀Z,jl W Z n->y.same Z->eM eN f args W λe w'=>E e/\il W w' Z n' m):eM eN f args W λe w'=>E e/\il w w' y n' m:=by
 obtain⟨Z,V,Y,T,U⟩:=h.ex;refine(k Z V Y).mono ?_;rintro e w' ⟨X,S⟩;exact⟨X,il.py h.kept Y T U S⟩
theorem jl.wA {y:Yt} {n:iB} (h:jl w y n)(hi:i<n.n)(hW:ig w w' (y.z i) r 3)(hr:r.n=3/\r.id=(i:Int)+1):il w w' y (n.jg i r) n.n:=by
 obtain⟨⟨z',hR,hl,hm,lE⟩,H⟩:=hW;have LM:∀k,z'.nZ k->(y.z i).nZ k \/w.heap.size<=k:=by
  intro k V;rcases V with e|e|e
  ·exact(hm k e).imp_left .inl
  ·rw[hl.bm]at e;exact .inl (.inr (.inl e))
  ·rw[hl.bs]at e;exact .inl (.inr (.inr e))
 have A:∀k,k<w.heap.size->¬(y.z i).nZ k->w'.heap[k]? =w.heap[k]? :=λk V hf=>H.block k V (λe=>hf (.inl e)) (λe=>hf (.inr (.inl e))) (λe=>hf (.inr (.inr e)));have G:∀k,y.own k->w'.heap[k]? =w.heap[k]? :=λk e=>A k (h.lt (.inl e)) (h.LL hi e);obtain⟨X,I6⟩:∃X:Nat->Prop,X=λk=>w.heap.size<=k/\k<w'.heap.size/\z'.mine 3 k:=⟨_,rfl⟩
 have hX:∀k,X k->w.heap.size<=k/\k<w'.heap.size:=λk e=>by rw[I6]at e;exact⟨e.1,e.2.1⟩
 have abf:∀k,z'.mine 3 k->k<w'.heap.size:=λk e=>by
  have:=hR.yD k;rw[hr.1]at this;exact this e
 obtain⟨Z,hZ⟩:∃Z:Nat->Zt,Z=λj=>if j=i then z' else(y.z j).plus X:=⟨_,rfl⟩
 have S:Z i=z':=by rw[hZ];simp
 have D:∀j,j≠i->Z j=(y.z j).plus X:=λj U=>by rw[hZ];simp[U]
 have hZR:∀j,(Z j).R=(y.z j).R:=λj=>by
  by_cases e:j=i
  ·subst e;rw[S];exact hl.R
  ·rw[D j e];rfl
 have Kc:∀j k,(Z j).nZ k->(y.z j).nZ k \/(j=i/\w.heap.size<=k/\z'.mine 3 k):=by
  intro j k V;by_cases e:j=i
  ·subst e;rw[S]at V;rcases V with Y|Y|Y
   ·rcases hm k Y with T|T
    ·exact .inl (.inl T)
    ·exact .inr ⟨rfl,T,Y⟩
   ·rw[hl.bm]at Y;exact .inl (.inr (.inl Y))
   ·rw[hl.bs]at Y;exact .inl (.inr (.inr Y))
  ·rw[D j e]at V;exact .inl V
 refine⟨⟨{y with z:=Z},⟨h.n1,h.n6,h.c9,h.m9.keep (G _ ⟨.N,rfl⟩),?_,h.ri.keep (G _ ⟨.I,rfl⟩),λg hg c hc=>(h.rc g hg c hc).keep (G _ ⟨.C,hg⟩),h.gc,?_,?_,?_,λj U=>(h.ib j U).keep H.size (λk V=>G k ⟨.ib j,V⟩),λc d hc hd=>(h.ob c d hc hd).keep H.size (λk V=>G k ⟨.on c d,V⟩),h.ol,h.en,h.inj,?_,h.nx,⟨h.nM.1,h.nM.2.1,?_⟩,h.z0⟩,⟨rfl,rfl,rfl,rfl,rfl,rfl,rfl,rfl⟩,?_,λ_=>dL⟩,⟨H.os,H.tape,H.output,H.size,λk V hn=>A k V (λe=>hn (.inr ⟨i,hi,e⟩))⟩⟩
 ·refine(h.rr.keep (G _ ⟨.R,rfl⟩)).congr λj _=> ?_;show Value.pointer (μ ⟨(y.z j).R,0,ν⟩)=π (μ ⟨(Z j).R,0,ν⟩);rw[hZR j]
 ·obtain⟨E,h1,h2⟩:=h.mp;exact⟨E,h1.keep (A _ h.DP (h.nM.2.2 i hi)),h2⟩
 ·intro j U;show k8 w' (Z j) (jy n.R i r j);by_cases e:j=i
  ·subst e;rw[S,ij];exact hR
  ·rw[D j e,gW _ _ e];refine(h.rt j U).besides H.size (λk V hc=>A k V (λef=> ?_)) X hX;have M:=h.away j U k (.inr (.inr ⟨i,hi,λe'=>e e'.symm,ef⟩));rcases hc with hc|hc
   ·exact hc M.1
   ·rw[(h.rn j U).1]at hc;exact M.2 hc
 ·intro j U;show(jy n.R i r j).n=3/\(jy n.R i r j).id=(j:Int)+1;by_cases e:j=i
  ·subst e;rw[ij];exact hr
  ·rw[gW _ _ e];exact h.rn j U
 ·intro j U k V;show(Z j).fm.no k/\¬(Z j).mine 3 k;have hold:(y.own k \/y.ext k \/ ∃x,x<n.n/\x≠j/\(y.z x).nZ k) \/(j≠i/\w.heap.size<=k/\z'.mine 3 k):=by
   rcases V with e|e|⟨x,hx,jq,e⟩
   ·exact .inl (.inl e)
   ·exact .inl (.inr (.inl e))
   ·rcases Kc x k e with Y|⟨Y,T,e3⟩
    ·exact .inl (.inr (.inr ⟨x,hx,jq,Y⟩))
    ·exact .inr ⟨λe'=>jq (Y.trans e'.symm),T,e3⟩
  by_cases e:j=i
  ·subst e;rw[S];rcases hold with J|J
   ·have M:=h.away j U k J;refine⟨lE k M.1,λY=> ?_⟩;rcases hm k Y with T|T
    ·exact M.2 T
    ·have:=(h.rt j U).bs.Nk k M.1;omega
   ·exact absurd rfl J.1
  ·rw[D j e];rcases hold with J|J
   ·have M:=h.away j U k J;exact⟨.inl M.1,M.2⟩
   ·refine⟨.inr ?_,λY=> ?_⟩
    ·rw[I6];exact⟨J.2.1,abf k J.2.2,J.2.2⟩
    ·have h1:k<w.heap.size:=h.wz U (.inl Y);omega
 ·intro j U e;rcases Kc j _ e with Y|⟨_,T,_⟩
  ·exact h.nM.2.2 j U Y
  ·have:=h.DP;have e2':w.heap.size<=y.bM:=T;omega
 ·intro k V;rcases V with e|⟨j,U,e⟩
  ·exact .inl (.inl e)
  ·rcases Kc j k e with Y|⟨_,T,_⟩
   ·exact .inl (.inr ⟨j,U,Y⟩)
   ·exact .inr T
open Go.ChangeMaps Go.MapKept
theorem Hn:laidOutB eN=true:=gJ
theorem XG:192<eN.types.size:=of_decide_eq_true gJ
theorem Uk:(match eN.underlying 192 with|some (.array _ _)|some (.struct _)=>true|_=>false)=true:=gJ
theorem Kd:Maps.Keyed eN 192:=Maps.Keyed.of_law (deep_law_laid Hn (m:=3) dP XG gJ Uk)
theorem Ul:((fG 7).all λi=>(fG 4).all λj=>(keyOf eN 192 (uk (i:Int) (j:Int))).isSome)=true:=gJ
theorem E5 {a b:Int} (h:1<=a/\a<=6/\0<=b/\b<=2):∃l,keyOf eN 192 (uk a b)=μ l:=by
 have Z:=a6.1 (a6.1 Ul a.toNat (aY.2 dP)) b.toNat (aY.2 dP);have Y:((a.toNat:Nat):Int)=a:=dP;have X:((b.toNat:Nat):Int)=b:=dP;rw[Y,X]at Z;exact Option.isSome_iff_exists.1 Z
theorem QZ {a b c d:Int} (h:uk a b=uk c d):a=c/\b=d:=by
 unfold uk at h;injection h with h
 have Z:=congrArg Array.toList h;simp at Z;exact Z
theorem BN:∀ {E:List (Int×Int×Int)} {r p:Int},(∀x∈E,¬(x.1=r/\x.2.1=p))->jF E r p=ν
 |[],_,_,_=>rfl
 |x::E,r,p,h=>by
  unfold jF;rw[ae (h x gN)];exact BN (λz Z=>h z (by simp[Z]))
theorem DQ:∀ {E:List (Int×Int×Int)} {r p m:Int},jF E r p=μ m->(r,p,m)∈E
 |[],_,_,_,h=>by simp[jF]at h
 |x::E,r,p,m,h=>by
  unfold jF at h;split at h
  ·rename_i hx
   have:=Option.some.inj h;have e:x=(r,p,m):=by
    obtain⟨x1,x2,x3⟩:=x;simp at hx this⊢;exact⟨hx.1,hx.2,this⟩
   rw[e];simp
  ·exact cU _ (DQ h)
theorem Ke(E:List (Int×Int×Int))(x:Int×Int×Int)(r p:Int):jF (E++ [x]) r p=match jF E r p with|some m=>some m|none=>if x.1=r/\x.2.1=p then some x.2.2 else none:=by
 induction E with
 |nil=>
  show jF [x] r p=_;unfold jF;split<;>rfl
 |cons z E ih=>
  show jF (z::(E++ [x])) r p=_;unfold jF;split
  ·rfl
  ·exact ih
theorem Ar.snoc(h:Ar E) {x:Int×Int×Int} (hx:1<=x.1/\x.1<=6/\0<=x.2.1/\x.2.1<=2)(Y:jF E x.1 x.2.1=ν):Ar (E++ [x]):=λz X=>by
 rw[Ke];rcases aF.1 X with Z|Z
 ·have:=h z Z;exact⟨this.1,by rw[this.2]⟩
 ·have:z=x:=by simpa using Z
  subst this;exact⟨hx,by rw[Y];simp⟩
theorem nA.find {w:dN} {b:Nat} {E:List (Int×Int×Int)} {es:Array MapEntry} {clock:Nat} (_hb:w.heap[b]? =μ (.map es clock))(M:es.toList.map (λe=>(e.key,e.val))=E.map λx=>(uk x.1 x.2.1,.int .i64 x.2.2))(S:Ar E) {r p:Int} (A:1<=r/\r<=6/\0<=p/\p<=2):
 (jF E r p=ν/\(fZ 192 (uk r p) es.toList).run eN w=.ok ν w) \/ ∃m j,jF E r p=μ m/\(fZ 192 (uk r p) es.toList).run eN w=.ok (μ (j,ι κ m)) w:=by
 obtain⟨l,hl⟩:=E5 A;have J:∀e∈es.toList,∃x∈E,e.key=uk x.1 x.2.1/\e.val=.int .i64 x.2.2:=λe V=>by
  have Z:(e.key,e.val)∈es.toList.map (λe=>(e.key,e.val)):=bD.2 ⟨e,V,rfl⟩;rw[M]at Z;obtain⟨x,hx,Y⟩:=bD.1 Z;injection Y with U X
  exact⟨x,hx,U.symm,X.symm⟩
 have T:∀x∈E,∃e∈es.toList,e.key=uk x.1 x.2.1:=λx hx=>by
  have Z:(uk x.1 x.2.1,(ι κ x.2.2:dO))∈E.map λx=>(uk x.1 x.2.1,(ι κ x.2.2:dO)):=bD.2 ⟨x,hx,rfl⟩;rw[<-M]at Z;obtain⟨e,V,Y⟩:=bD.1 Z;injection Y with U X
  exact⟨e,V,U⟩
 rcases Kd.find w hl es.toList (λe V=>by
  obtain⟨x,hx,Z,_⟩:=J e V;rw[Z];exact E5 (S x hx).1)with⟨Z,Y⟩|⟨j,e,Z,Y,U⟩
 ·left;refine⟨BN (λx hx hc=> ?_),Z⟩;obtain⟨e,V,X⟩:=T x hx;exact Y e V (by rw[X,hc.1,hc.2])
 ·right;obtain⟨x,hx,X,D⟩:=J e (bu Y);rw[U]at X;obtain⟨H,G⟩:=QZ X;refine⟨x.2.2,j,?_,by rw[Z,D]⟩;rw[H,G];exact(S x hx).2
theorem nA.look(h:nA w b E)(V:Ar E) {r p:Int} (X:1<=r/\r<=6/\0<=p/\p<=2):
 (eU 184 (.map (μ b)) (uk r p) true).run eN w=.ok (τ #[ι κ ((jF E r p).getD 0),.bool (jF E r p).isSome]) w:=by
 obtain⟨es,clock,hb,U⟩:=h;obtain⟨l,hl⟩:=E5 X;have T:(zeroValue 3).run eN w=.ok (ι κ 0) w:=gJ;have hc:=Kd.check w es.isEmpty hl;unfold eU;simp only[fj,fS ga,dZ,gb hb,fk,hc];rcases nA.find hb U V X with⟨Z,Y⟩|⟨m,j,Z,Y⟩
 ·simp only[Y,dZ,fj,T,fk,Z];rfl
 ·simp only[Y,dZ,Z];rfl
theorem nA.store(h:nA w b E)(U:Ar E) {r p m:Int} (V:1<=r/\r<=6/\0<=p/\p<=2)(S:jF E r p=ν):
 ∃w',(eX 184 (.map (μ b)) (uk r p) (ι κ m)).run eN w=.ok () w'/\nA w' b (E++ [(r,p,m)])/\w'.os=w.os/\w'.tape=w.tape/\w'.output=w.output/\w'.heap.size=w.heap.size/\∀k,k≠b->w'.heap[k]? =w.heap[k]? :=by
 obtain⟨es,clock,hb,X⟩:=h;obtain⟨l,hl⟩:=E5 V;have hc:=Kd.check w false hl;have M:b<w.heap.size:=(au.1 hb).1;rcases nA.find hb X U V with⟨Z,Y⟩|⟨m',j,Z,Y⟩
 ·refine⟨{w with heap:=w.heap.setIfInBounds b (.map (es.push {key:=uk r p,val:=.int .i64 m,born:=clock}) (clock+1))},?_,⟨es.push {key:=uk r p,val:=.int .i64 m,born:=clock},clock+1,?_,?_⟩,rfl,rfl,rfl,gN,λk T=> ?_⟩
  ·unfold eX;simp only[fj,fS ga,dZ,gb hb,hc,Y,Go.MapKept.run_setObj_map _ hb]
  ·simp[M]
  ·simp[X]
  ·show(w.heap.setIfInBounds b _)[k]? =_;rw[Array.getElem?_setIfInBounds_ne (λe=>T e.symm)]
 ·rw[S]at Z;simp at Z
theorem NC(C:mK)(o:Nat)(e:jv)(es:List jv):yn C o (e::es)=yn (xb C o e.1.toNat e.2) o es:=rfl
theorem LN(o:Nat)(own:Int)(x y:Nat):∀(es:List jv) (Y:Int) (C:mK),pL own Y es=0->yn C o es x y=if x=o then((es.find? λe=>e.1==(y:Int)).map (·.2)).getD (C x y)else C x y
 |[],_,C,_=>by
  show C x y=_;split<;>simp
 |e::es,Y,C,h=>by
  unfold pL at h;split at h
  ·simp at h
  ·rename_i h1
   split at h
   ·simp at h
   ·rw[NC,LN o own x y es e.1 _ h];by_cases hx:x=o
    ·rw[ag hx,ag hx,List.find?_cons];by_cases hy:e.1=(y:Int)
     ·have Z:(e.1==(y:Int))=true:=by simp[hy]
      rw[Z];have X:es.find? (λe=>e.1==(y:Int))=ν:=by
       rw[List.find?_eq_none];intro f hf;have:=LO own es e.1 h f hf;simp;omega
      rw[X];simp only[Option.map_none,Option.getD_none,Option.map_some,Option.getD_some,xb];rw[ag ⟨hx,dP⟩]
     ·have Z:(e.1==(y:Int))=false:=by simp[hy]
      rw[Z];have:xb C o e.1.toNat e.2 x y=C x y:=by
       simp only[xb];rw[ae dP]
      rw[this]
    ·rw[ae hx,ae hx];simp only[xb];rw[ae dP]
where
 LO (own:Int):∀(es:List jv) (ah:Int),pL own ah es=0->∀f∈es,ah<f.1
  |[],_,_,f,hf=>by simp at hf
  |e::es,ah,h,f,hf=>by
   unfold pL at h;split at h
   ·simp at h
   ·split at h
    ·simp at h
    ·rcases a7.1 hf with rfl|hf
     ·omega
     ·have:=LO own es e.1 h f hf;omega
def gAt(es:List jv)(y:Nat):Int:=((es.find? λe=>e.1==(y:Int)).map (·.2)).getD 0
theorem Ho {K:Int->Option PS} {n:Nat} {S:Nat->SV} {E:Nat->List jv} (h:tk K n S E)(x y:Nat):∀k,k<=n->(∀j,j<k->(S j).own=(x:Int)->kZ S E k x y=gAt (E j) y)/\((∀j,j<k->(S j).own≠(x:Int))->kZ S E k x y=0)
 |0,_=>⟨λj Z=>dP,λ_=>rfl⟩
 |k+1,hk=>by
  have ih:=Ho h x y k dP;have M:=h.ok k dP;obtain⟨ho,_,_,U⟩:=jk M;have V:kZ S E (k+1) x y=if x=(S k).own.toNat then(((E k).find? λe=>e.1==(y:Int)).map (·.2)).getD (kZ S E k x y)else kZ S E k x y:=LN (S k).own.toNat (S k).own x y (E k) 0 (kZ S E k) U
  rw[V];by_cases hx:x=(S k).own.toNat
  ·rw[ag hx];have T:kZ S E k x y=0:=ih.2 (λj Z e=>by
    have:=h.Nb j k Z dP;omega)
   rw[T];refine⟨λj Z hs=> ?_,λX=>absurd dP (X k dP)⟩;by_cases Y:j=k
   ·subst Y;rfl
   ·have:=h.Nb j k dP dP;omega
  ·rw[ae hx];refine⟨λj Z hs=> ?_,λX=>ih.2 (λj Z=>X j dP)⟩;by_cases Y:j=k
   ·subst Y;omega
   ·exact ih.1 j dP hs
theorem tk.grid {S:Nat->SV} {E:Nat->List jv} (h:tk K n S E)(U:Ug K):kZ S E n=LC K:=by
 funext x y
 have X:=Ho h x y n (Nat.le_refl _);unfold LC;cases Y:K (x:Int)with
 |none=>
  simp only;refine X.2 (λj Z e=> ?_);have:=(h.at_ j Z).2;rw[e,Y]at this;cases this
 |some q=>
  simp only;have hr:=U x (by rw[Y];rfl);obtain⟨j,Z,V⟩:=h.all x ⟨dP,dP⟩ (by rw[Y];rfl);rw[X.1 j Z V];have:=(h.at_ j Z).2;rw[V,Y]at this;have:=(dD (Option.some.inj this)).2;unfold gAt;rw[<-this]
