import Derived.Test.YtieklnlbljejdaaGreatDoorM12
open Go.Value renaming int → ι, slice → σ, pointer → π, tuple → τ, nilIface → η
open Go.IntKind renaming i64 → κ
open Go.Ending renaming returned → ρ
open Go.Obj renaming cells → γ
open Option renaming none → ν, some → μ
open Go renaming World → dY, Calls → eW, Value → dZ
open Go.Proofs.Tryz renaming prog → eX
open Go.Value renaming ownBlock → eu
open Array renaming size_setIfInBounds → gN, length_toList → gO
open Go.RowKit renaming intOf → eY
open Go.Instr renaming loadAt → fN
open Go.Act renaming put → gF
open List renaming setIfInBounds_toArray → gG, set_cons_zero → gH, set_cons_succ → gJ
set_option maxRecDepth 100000
set_option maxHeartbeats 4000000
open Go.Proofs.Tryz
namespace Go.Proofs.YtieklnlbljejdaaGreatDoor
open Go.RowKit St
namespace Rt
variable {B:Nat->Nat} {Bb D RR c d g i k k' n p:Nat} {id:Int} {m:FM} {ms:Nat->Int} {r r':iM} {v:Value} {wb:World} {y:iP}
theorem yN(p:jw)(up:Bool):((p.iL up).1.m=p.m/\(p.iL up).1.pe=p.pe)/\((p.iL up).2≠0->(p.iL up).1=p):=by
 unfold jw.iL;generalize kY p.L (if up=true then 0 else 1)=e;simp only;by_cases h:e.2.2=0
 ·rw[af (by simp[h])];exact⟨wD _ _,λe=>absurd rfl e⟩
 ·rw[ai h];exact⟨⟨rfl,rfl⟩,λ_=>rfl⟩
theorem RF(z:Zt)(r:iM)(k:Nat)(t:Int)(tx:ByteArray)(w:dY)(h:mr w z r)(X:ln r)(hf:Fit r k)(S:k<=100000):
 eW eX 27 #[π (μ ⟨z.R,0,ν⟩),ι κ t,.string tx] w λe w'=>e=ρ (jm (kd r t tx.data.toList).2)/\iD w w' z (kd r t tx.data.toList).1 r.n:=by
 have hl:tx.data.toList.length=tx.size:=gY;by_cases V:t<1
 ·have Z:kd r t tx.data.toList=(r,1):=by unfold kd;rw[ai (.inl V)]
  rw[Z];have Y:Hid _:=iD.refl h;clear h X hf
  go_in
  go_wp2
  go_ret;exact⟨rfl,Y.out⟩
 ·by_cases U:6<t
  ·have Z:kd r t tx.data.toList=(r,1):=by unfold kd;rw[ai (.inr (.inl U))]
   rw[Z];have Y:Hid _:=iD.refl h;clear h X hf
   go_in
   go_wp2
   go_ret;exact⟨rfl,Y.out⟩
  ·by_cases h3:(20:Int)<(tx.size:Int)
   ·have Z:kd r t tx.data.toList=(r,1):=by unfold kd;rw[ai (.inr (.inr eh))]
    rw[Z];have Y:Hid _:=iD.refl h;clear h X hf
    go_in
    go_wp2
    go_ret;exact⟨rfl,Y.out⟩
   ·have Z:kd r t tx.data.toList=(r.send (t,8,tx.data.toList),0):=by unfold kd;rw[af eh]
    rw[Z];have hs:=EI z r k t 8 tx w h X hf S eh eh eh;clear h X hf
    go_in
    go_wp2_with(fail);refine hs.mono ?_;rintro e w1 ⟨rfl,T⟩;clear hs
    go_wp2
    go_ret;exact⟨rfl,T⟩
theorem RG(up:Bool)(z:Zt)(r:iM)(i k:Nat)(w:dY)(h:mr w z r)(u:jf w)(M:ln r)(hf:Fit r k)(hk:k<=100000)(hi:i<r.n):
 eW eX 20 #[π (μ ⟨z.R,0,ν⟩),ι κ (i:Int),.bool up] w λe w'=>e=ρ (jm (r.iL i up).2)/\iD w w' z (r.iL i up).1 r.n:=by
 have hh:=Et z r i w h;rw[zI hi]at hh;have kS:(i:Int)<(r.n:Int):=eh;have O1:(0:Int)<=(i:Int):=eh;have c1:=h.c1;have cl:=h.lt;have gl:=h.JZ;have Z:=Rb up z.g (i*71) (z.B i) (z.v i) (r.P i) w (h.pt i hi) u (by have:=hf.out i hi;omega);have X:r.iL i up=if((r.P i).iL up).2≠0 then(r,((r.P i).iL up).2)else((r.iU i ((r.P i).iL up).1).meet i nobody,0):=rfl
 have Y:=(yN (r.P i) up).1;have Q:=(yN (r.P i) up).2;have vj:r.iU i (r.P i)=r:=by
  have:la r.P i (r.P i)=r.P:=by
   funext x
   unfold la;by_cases e:x=i
   ·simp[e]
   ·simp[e]
  show({r with P:=la r.P i (r.P i)}:iM)=r;rw[this]
 obtain⟨H,J⟩:=gg (((r.P i).iL up).1);obtain⟨f,T⟩:=gg (((r.P i).iL up).2);rw[J,T]at Z X;rw[J]at Y Q;rw[T]at Q;have A:Hid _:=h;have G:Hid (ln (r.iU i H)):=M.iU i _ Y.1 (λhi=>by rw[Y.2];exact M.pe i hi);clear h M hf u;by_cases S:f=0
 ·subst S;rw[af gY]at X;rw[X];have e0:jm 0=η:=rfl;rw[e0]at Z⊢
  go_in
  go_wp2_with(fail);refine hh.mono ?_;rintro e w0 ⟨rfl,rfl⟩;clear hh;go_wp2_with(fail);refine Z.mono ?_;rintro e w1 ⟨rfl,V⟩;have U:=A.out.port hi V;have E:eW eX 74 #[π (μ ⟨z.R,0,ν⟩),ι κ (i:Int),.agg #[ι κ 0,.bool false,ι κ 0]] w1 λe w'=>e=ρ (τ #[])/\iD w w' z ((r.iU i H).meet i nobody) r.n:=by
   refine U.call λz1 j hl=> ?_;rw[<-hl.R];exact wz z1 _ i nobody w1 j G.out hi (oj.nobody G.out.id.1)
  clear Z V U;go_wp2_with(fail);refine E.mono ?_;rintro e w2 ⟨rfl,vH⟩;clear E
  go_wp2
  go_ret;exact⟨rfl,vH⟩
 ·rw[ai S]at X;rw[X];have hb:=Q S;have ee:jm f=.iface 128 (ι κ (f:Int)):=by simp only[jm];rw[af S]
  rw[ee]at Z⊢
  go_in
  go_wp2_with(fail);refine hh.mono ?_;rintro e w0 ⟨rfl,rfl⟩;clear hh;go_wp2_with(fail);refine Z.mono ?_;rintro e w1 ⟨rfl,V⟩;have U:=A.out.port hi V;rw[hb,vj]at U;clear Z V
  go_wp2
  go_ret;exact⟨rfl,U⟩
theorem RH(z:Zt)(r:iM)(w:dY)(h:mr w z r):
 eW eX 32 #[π (μ ⟨z.R,0,ν⟩)] w λe w'=>e=ρ z.iv/\Row w' 3 z.iv r.j8.length (rM r.j8)/\iD w w' z {r with j8:=[] } r.n:=by
 have c3:=h.c3;have cl:=h.lt;have f3:=h.oe.frozen 3;have Z:Hid _:=h;clear h
 go_in
 go_wp2
 go_ret;refine⟨rfl,Z.out.ib.keep gY (λk Y=>aq _ _ _ k (by show k≠z.R;exact(Z.out.sI k Y).1)),?_⟩;exact Z.out.own (σ ν 0 0) [] r.drop gY rfl rfl rfl (λk _ X _=>aq _ _ _ k X) (Z.out.oe.set 3 _) (Row.nil _ 3) (λk Y=>by simp[eu]at Y)
theorem Vx(z:Zt)(r:iM)(i:Nat)(w:dY)(h:mr w z r)(hi:i<r.n):
 eW eX 29 #[π (μ ⟨z.R,0,ν⟩),ι κ (i:Int)] w λe w'=>e=ρ (τ #[.string ⟨(r.P i).out.toArray⟩,η])/\iD w w' z (r.out i) r.n:=by
 have hh:=Et z r i w h;rw[zI hi]at hh;have kS:(i:Int)<(r.n:Int):=eh;have O1:(0:Int)<=(i:Int):=eh;have c1:=h.c1;have cl:=h.lt;have gl:=h.JZ;have Z:=h.pt i hi;have X:=Z.c70;have f70:=Z.fz 70 eA;have U:=Row.back Z.ou 140 9 5 underlying140 underlying5 underlying9;have V:lO w (w.setCell ⟨z.g,i*71+70,ν⟩ (σ ν 0 0)) z.g (i*71) (z.B i) (z.v i) {r.P i with out:=[] }:=by
  obtain⟨F,hC,hF⟩:=Z.xm;have Y:=(lh.refl w z.g (i*71) 71).set (i*71+70) eh eh (σ ν 0 0);refine⟨⟨σ ν 0 0,⟨⟨F,(hC.set 70 eA (σ ν 0 0)).congr (Pm (r.P i) (z.B i) (z.v i) (σ ν 0 0) F []),hF⟩,Z.lk.keep (Y.block _ Z.lk.lt (λe=>Z.gB e.symm)),Row.nil _ 1,gY,Z.ok,Z.gB,by simp[eu],by simp[eu],⟨Z.nz.1,Z.nz.2.1,by simp[eu]⟩⟩,λk Y=>by simp[eu]at Y⟩,⟨Y.os,Y.tape,Y.output,Y.size,λj Q T _ _=>Y.block j Q T,Y.cell,Y.fz⟩⟩
 have S:Hid (iD w (w.setCell ⟨z.g,i*71+70,ν⟩ (σ ν 0 0)) z (r.out i) r.n):=h.port hi V;generalize (r.P i).out=L at U⊢;generalize z.v i=v at X U;clear h Z V
 go_in
 go_wp2_with(fail);refine hh.mono ?_;rintro e w0 ⟨rfl,rfl⟩;clear hh
 go_wp2
 go_ret2
 exact⟨rfl,S.out⟩
def Bg(m mg:Int):jw:=⟨m,⟨255,mg,255,mg,0,0,1,255,0,0,0⟩,([],false,false),nobody,[]⟩
theorem Li(m mg:Int)(w:dY)(hT:jf w)(hm:1<=m/\m<=20)(hg:1<=mg/\mg<=255):
 eW eX 68 #[ι κ m,ι κ mg] w λe w'=>∃B,e=ρ (τ #[.agg (rowOf 71 (xk (Bg m mg) B (σ ν 0 0) Nk)),η])/\Lk w' B ((Bg m mg).L.c (σ ν 0 0))/\w.heap.size<B/\eE w w':=by
 have hz:=NG;have rQ:=NH;obtain⟨Z,Tg⟩:=gg (rowOf 71 zPt);have Q:Z.size=71:=by rw[<-Tg];exact mG _ _
 rw[Tg]at hz;have akZ:¬Z= #[] :=λe=>by rw[e]at Q;simp at Q
 have ba:=gW w (γ Z 142);have h:iX (w.alloc (γ Z 142)) w.heap.size Z 142:=iX.new w _ _;have S6:=hT.below ba;have U:=Yc 255 mg (w.alloc (γ Z 142)) eh eh eh eh;obtain⟨W0,nX⟩:=gg (w.alloc (γ Z 142));obtain⟨N,A⟩:=gg (w.heap.size);have hNs:N<W0.heap.size:=by rw[<-nX,<-A];simp
 rw[nX]at ba h U S6;rw[A]at h;have g1:¬m<1:=eh;have g2:¬20<m:=eh;have Gt:Hid _:=nX;have u:Hid _:=A;have HB0:Hid _:=h;have HZ:Hid _:=Tg;clear nX A h Tg
 go_in
 go_wp2_with(fail);rw[Gt.out,u.out];refine U.mono ?_;rintro e w1 ⟨B,rfl,hL,hBg,b1⟩;have H:=Un B 255 mg 255 mg 0 0 255 0 0 0 (σ ν 0 0) w1 (S6.below b1) hL;clear U hL;go_wp2_with(fail);refine H.mono ?_;rintro e T ⟨rfl,J,V⟩;obtain⟨D,hD⟩:=gg ((Z.setIfInBounds 0 (Value.int .i64 m)).setIfInBounds 1 (Value.pointer (μ ⟨B,0,ν⟩)));have S:D.size=71:=by rw[<-hD];simp[Q]
 have M:Hid (D=rowOf 71 (xk (Bg m mg) B (σ ν 0 0) Nk)):=by
  show _=_;rw[<-hD,<-HZ.out];apply bS;intro j;by_cases E:j<71
  ·rw[sJ 71 _ j E,bq,bq,sJ 71 _ j E];simp only[gN,mG];by_cases e1:j=1
   ·subst e1;simp[xk]
   ·by_cases e0:j=0
    ·subst e0;simp[xk,Bg]
    ·rw[af (λe=>e1 e.symm),af (λe=>e0 e.symm)];congr 1;unfold zPt xk;simp only[e0,e1,if_false];rfl
  ·rw[bg (by simp[mG];omega),bg (by rw[mG];omega)]
 have o9:D.all (·.oneCell')=true:=by rw[M.out];exact Je Df.zero rfl
 have G:N≠B:=eh;have X:iX T N Z 142:=by
  have Y:=iX.below HB0.out b1;exact Y.keep (V.block N Y.lt (λe=>G (Option.some.inj e)))
 have hR:iX (T.setRow N D) N D 142:=X.setRow;have Xr:Lk (T.setRow N D) B ((Bg m mg).L.c (σ ν 0 0)):=J.keep (by simp only[World.setRow];rw[cH,af G]);have l6:=bU (P:=eX) (T.setRow N D) N 142 142 D (0,0) _ hR underlying142 rfl (by rw[S];exact rQ);have iK:Hid (eE w (T.setRow N D)):=by
  have Y:=gk ba b1;have h2:eE w T:=⟨V.os.trans Y.os,V.tape.trans Y.tape,V.output.trans Y.output,Nat.le_trans Y.size V.size,λj E=>(V.block j (Nat.lt_of_lt_of_le E Y.size) (λe=>by have e2:j=B:=Option.some.inj e;have:=u.out;omega)).trans (Y.block j E)⟩
  exact Go.Proofs.YtieklnlbljejdaaGreatDoor.oK h2 (by have:=u.out;omega) D
 have HL3:Hid _:=Xr;clear H J V Xr hR;go_wp2_with(first
  |(rw[hD];refine og _ rfl (.tmp 4) (.tmp 29) 142 rfl rfl N Z D rfl rfl X (by rw[Q,S]) (by rw[S];exact rQ) o9 ?_)
  |(refine og _ rfl (.tmp 4) (.tmp 29) 142 rfl rfl N Z D rfl rfl X (by rw[Q,S]) (by rw[S];exact rQ) o9 ?_))
 refine aF (v:=τ #[.agg D,η]) (by simp[results,results68,asAddr,l6]) rfl ?_;exact⟨B,by rw[M.out],HL3.out,by have:=u.out;omega,iK.out⟩
theorem zP:∀(l:List dZ) (k:Nat) (base:Array dZ) (j:Nat),k+l.length<=base.size->((l.zipIdx k).foldl (λcs (x:dZ×Nat)=>cs.setIfInBounds x.2 x.1) base)[j]? =if k<=j/\j<k+l.length then l[j-k]? else base[j]?
 |[],k,base,j,_=>by
  rw[af gY];rfl
 |x::l,k,base,j,h=>by
  have X:k+1+l.length<=base.size:=by simp at h;omega
  rw[List.zipIdx_cons,bH,zP l (k+1) (base.setIfInBounds k x) j (by rw[gN];exact X)];by_cases Z:k+1<=j/\j<k+1+l.length
  ·rw[ai Z,ai (by simp;omega),show j-k=(j-(k+1))+1 by omega,List.getElem?_cons_succ]
  ·rw[af Z,bq];by_cases Y:k=j
   ·subst Y;rw[ai rfl,ai eh,ai gY];simp
   ·rw[af Y,af (by simp;omega)]
theorem EN(D base:Array dZ)(h:base.size=D.size)(n:Nat)(Z:D.size=n):Array.foldl (λcs (x:dZ×Nat)=>cs.setIfInBounds x.2 x.1) base D.zipIdx 0 n=D:=by
 have hs:D.zipIdx.size=n:=by rw[Array.size_zipIdx,Z]
 rw[<-hs,<-Array.foldl_toList,Array.toList_zipIdx];apply bS;intro j;rw[zP D.toList 0 base j (by simp;omega)];by_cases hj:j<D.size
 ·rw[ai (by simp;omega)];simp
 ·rw[af (by simp;omega),bg eh,bg eh]
theorem Vy:(eX.info? 142).map (λi=>(i.zero,i.size,i.bytes))=μ (μ (.agg (rowOf 71 zPt)),71,144):=gq
def yO(id:Int)(ms:Nat->Int)(B:Nat->Nat):Nat->List dZ
 |0=>[]
 |q+1=>yO id ms B q++(rowOf 71 (xk (Bg (ms q) (8*id+q+1)) (B q) (.slice none 0 0) Nk)).toList
theorem wF(id:Int)(ms:Nat->Int)(B:Nat->Nat):∀q,(yO id ms B q).length=q*71
 |0=>rfl
 |q+1=>by
  unfold yO;rw[aA,wF id ms B q,gO,mG];omega
theorem Pz(id:Int)(ms:Nat->Int)(B:Nat->Nat):∀(q i j:Nat),i<q->j<71->(yO id ms B q)[i*71+j]? =μ (xk (Bg (ms i) (8*id+i+1)) (B i) (σ ν 0 0) Nk j)
 |0,i,j,h,_=>eh
 |q+1,i,j,h,hj=>by
  unfold yO;have hl:=wF id ms B q;by_cases e:i=q
  ·subst e;rw[bw eh,hl,show i*71+j-i*71=j by omega];simpa using sJ 71 (xk (Bg (ms i) (8*id+i+1)) (B i) (σ ν 0 0) Nk) j hj
  ·rw[bG eh];exact Pz id ms B q i j eh hj
structure Making(wb W:dY)(id:Int)(ms:Nat->Int)(q R Bb:Nat)(B:Nat->Nat)(v:dZ):Prop where
 oe:iX W R #[ι κ id,v,π (μ ⟨Bb,0,ν⟩),σ ν 0 0,ι κ 0] 135
 row:Row W 71 v q (yO id ms B q)
 lk:∀i,i<q->Lk W (B i) ((Bg (ms i) (8*id+i+1)).L.c (σ ν 0 0))
 nT:eE wb W
 gR:wb.heap.size<=R
 gB:∀i,i<q->wb.heap.size<=B i/\B i≠R/\v.ownBlock≠μ (B i)
 gV:∀k,v.ownBlock=μ k->wb.heap.size<=k/\k≠R
 dis:∀i j,i<q->j<q->i≠j->B i≠B j
theorem Making.below {wb W W':dY} {id:Int} {ms:Nat->Int} {q R Bb:Nat} {B:Nat->Nat} {v:dZ} (h:Making wb W id ms q R Bb B v)(hb:eE W W'):Making wb W' id ms q R Bb B v:=
 ⟨h.oe.below hb,h.row.below hb,λi hi=>(h.lk i hi).below hb,gk h.nT hb,h.gR,h.gB,h.gV,h.dis⟩
theorem EO(id:Int)(ms:Nat->Int)(B B':Nat->Nat):∀q,(∀i,i<q->B i=B' i)->yO id ms B q=yO id ms B' q
 |0,_=>rfl
 |q+1,h=>by
  unfold yO;rw[EO id ms B B' q (λi hi=>h i eh),h q eh]
theorem EP(w:dY)(D:Array dZ)(t:TypeId)(g:Nat)(Z:w.heap.size=g):∀(j:Nat) (u:dZ),D.toList[j]? =μ u->(w.alloc (γ D t)).drew.cell? ((⟨g,0,ν⟩:Addr).add j)=μ u:=by
 subst Z;intro j u Y;rw[add_plain];show(w.alloc (γ D t)).cell? _=_;rw[ar];simpa using Y
theorem Making.add {W2 x1:dY} {q:Nat} {B' g' jr:Nat} {D:Array dZ} {o:Obj} (h:Making wb W2 id ms q RR Bb B v)(hD:rowOf 71 (xk (Bg (ms q) (8*id+q+1)) B' (σ ν 0 0) Nk)=D)
 (G:Lk W2 B' ((Bg (ms q) (8*id+q+1)).L.c (σ ν 0 0))) (rH:wb.heap.size<=B') (CL:B'≠RR) (A:v.ownBlock≠μ B') (E:∀i,i<q->B i≠B')
 (hr:Row x1 71 (σ (μ ⟨g',0,ν⟩) (q+1) jr) (q+1) (yO id ms B q++D.toList)) (X:(W2.alloc o).drew.grownBy x1 v.ownBlock) (jl:v.ownBlock=μ g' \/(W2.alloc o).drew.heap.size<=g'):
 Making wb (x1.setCell ⟨RR,1,ν⟩ (σ (μ ⟨g',0,ν⟩) (q+1) jr)) id ms (q+1) RR Bb (λi=>if i=q then B' else B i) (σ (μ ⟨g',0,ν⟩) (q+1) jr):=by
 have Q:v.ownBlock=μ g' \/W2.heap.size<=g':=jl.imp_right (λe=>Nat.le_trans (by show W2.heap.size<=(W2.alloc o).heap.size;simp) e);have u:v.ownBlock≠μ RR:=λe=>(h.gV _ e).2 rfl;have M:∀k,k<W2.heap.size->v.ownBlock≠μ k->k≠RR->(x1.setCell ⟨RR,1,ν⟩ (σ (μ ⟨g',0,ν⟩) (q+1) jr)).heap[k]? =W2.heap[k]? :=by
  intro k Y J h2;rw[aq _ _ _ k h2,X.block k (by show k<(W2.alloc o).heap.size;simp;omega) (λe=>J e.symm)];exact aU W2 o k Y
 have rQ:W2.heap.size<=x1.heap.size:=Nat.le_trans (by show W2.heap.size<=(W2.alloc o).heap.size;simp) X.size;have hRl:=h.oe.lt;have YL:g'≠RR:=by
  intro e;rcases Q with Z|Z
  ·exact u (by rw[Z,e])
  ·omega
 have S:=h.nT.size;refine⟨(um h.oe X u).set 1 _,?_,λi hi=> ?_,⟨X.os.trans h.nT.os,X.tape.trans h.nT.tape,X.output.trans h.nT.output,Nat.le_trans S (by simpa using rQ),λk Y=> ?_⟩,h.gR,λi hi=> ?_,λk Y=> ?_,λi j hi hj H=> ?_⟩
 ·have Z:yO id ms (λi=>if i=q then B' else B i) (q+1)=yO id ms B q++D.toList:=by
   show yO id ms (λi=>if i=q then B' else B i) q++_=_;rw[EO id ms _ B q (λi hi=>by simp[show i≠q by omega])];simp only[if_true];rw[hD]
  rw[Z];exact hr.keep gY (λk Y=>aq _ _ _ k (by
   have T:g'=k:=by simpa[eu]using Y
   show k≠RR;omega))
 ·by_cases e:i=q
  ·subst e;simp only[if_true];exact G.keep (M B' G.lt A CL)
  ·simp only[e,if_false];have hl:=h.lk i eh;exact hl.keep (M (B i) hl.lt (h.gB i eh).2.2 (h.gB i eh).2.1)
 ·exact(M k eh (λe=>by have:=(h.gV k e).1;omega) (by have:=h.gR;omega)).trans (h.nT.block k Y)
 ·have V:∀k,k<W2.heap.size->v.ownBlock≠μ k->eu (σ (μ ⟨g',0,ν⟩) (q+1) jr)≠μ k:=by
   intro k Y J e;have T:g'=k:=by simpa[eu]using e
   rcases Q with Z|Z
   ·exact J (by rw[Z,T])
   ·omega
  by_cases e:i=q
  ·subst e;simp only[if_true];exact⟨rH,CL,V B' G.lt A⟩
  ·simp only[e,if_false];have hb:=h.gB i eh;exact⟨hb.1,hb.2.1,V (B i) (h.lk i eh).lt hb.2.2⟩
 ·have T:g'=k:=by simpa[eu]using Y
  subst T;refine⟨?_,YL⟩;rcases Q with Z|Z
  ·exact(h.gV _ Z).1
  ·omega
 ·by_cases Z:i=q
  ·have U:j≠q:=eh;simp only[Z,U,if_true,if_false];exact λe=>E j eh e.symm
  ·by_cases U:j=q
   ·simp only[Z,U,if_true,if_false];exact E i eh
   ·simp only[Z,U,if_false];exact h.dis i j eh eh H
theorem YR {m mg:Int} (hg:1<=mg/\mg<=255):zt (Bg m mg).L:=⟨by show xJ 1 0 0=true;decide,by show(0:Int)<=0;omega,by show(0:Int)<=255;omega,by show 0<=mg;omega,by show mg<=255;omega,by show 0<=mg;omega,by show mg<=255;omega⟩
def CZ(R g cap Bb:Nat)(B:Nat->Nat)(m:FM)(n:Nat):Zt:=⟨R,g,cap,B,λ_=>σ ν 0 0,Bb,{m with no:=λk=>m.no k \/k=R \/k=g \/ ∃i,i<n/\k=B i},σ ν 0 0⟩
theorem Hw {R cap:Nat} (h:(CZ R g cap Bb B m n).mine n k):k=R \/k=g \/ ∃i,i<n/\k=B i:=by
 rcases h with e|e|⟨i,hi,e|e⟩|e
 ·exact .inl e
 ·exact .inr (.inl e)
 ·exact .inr (.inr ⟨i,hi,e⟩)
 ·simp[CZ,eu]at e
 ·simp[CZ,eu]at e
theorem Making.done {W:dY} (h:Making wb W id ms n RR Bb B v)(J:1<=n/\n<=3)(pT:1<=id/\id<=6)(H:jf wb)
 (V:BR wb Bb m k (λx=>if x=id then μ (1,[])else ν) (λ_ x=>if x=id then μ (1,[])else ν)) (X:¬m.no Bb/\¬m.no m.g/\∀b,(b=m.bm \/b∈m.bs)->¬m.no b) (pV:m.bs.length=n):
 ∃g cap,v=σ (μ ⟨g,0,ν⟩) n cap/\mr W (CZ RR g cap Bb B m n) (jN id n ms)/\wb.heap.size<=g:=by
 rcases h.row.2 with⟨_,h0⟩|⟨g,cap,rfl,E,A,apS,hc,hf⟩
 ·omega
 have Y:=h.gV g rfl;have h0:=H.lt;have ab6:Bb<wb.heap.size:=by obtain⟨_,_,hF,_⟩:=V.ex;exact hF.lt
 have ab7:m.g<wb.heap.size:=by obtain⟨_,_,hF,_⟩:=V.ex;exact hF.row.lt _ rfl
 have U:∀j,(j=RR \/j=g \/ ∃i,i<n/\j=B i)->wb.heap.size<=j/\j<W.heap.size:=by
  intro j Z;rcases Z with rfl|rfl|⟨i,hi,rfl⟩
  ·exact⟨h.gR,h.oe.lt⟩
  ·exact⟨Y.1,E⟩
  ·exact⟨(h.gB i hi).1,(h.lk i hi).lt⟩
 have u:=V.still h.nT.size (λj Z _=>h.nT.block j Z) X.1 X.2.1 X.2.2 (λj=>m.no j \/j=RR \/j=g \/ ∃i,i<n/\j=B i) (λj Z=>Z.imp_right (λe=>(U j e).1)) (λj Z=>Z.elim (λe=>Nat.lt_of_lt_of_le (V.Q5 j e) h.nT.size) (λe=>(U j e).2));have hlen:=wF id ms B n;refine⟨g,cap,rfl,⟨J.1,J.2,A,pT,h.oe,λi hi=> ?_,Row.nil _ 3,u.six,pV,λj Z=>.inr (Hw Z),⟨λe=> ?_,λe=> ?_,λb hb e=> ?_⟩,⟨λe=>Y.2 e.symm,by have:=h.gR;show RR≠0;omega,λi hi=>⟨(h.gB i hi).2.1,by simp[CZ,eu]⟩⟩,λi j hi Z Q=>⟨h.dis i j hi Z Q,λk T=>by simp[CZ,eu]at T⟩,λi j _ _=>by simp[CZ,eu],λk T=>by simp[CZ,eu]at T,⟨by simp[CZ,eu],λb hb e=> ?_⟩⟩,Y.1⟩
 ·have M:i<n:=hi;have S:=h.gB i M;refine⟨⟨Nk,λj Z=>⟨?_,?_⟩,Df.zero⟩,h.lk i M,Row.nil _ 1,by show(0:Nat)<=_;omega,YR (m:=ms i) (mg:=8*id+i+1) eh,λe=>S.2.2 (by show μ g=μ (B i);rw[show g=B i from e]),by simp[CZ,eu],by simp[CZ,eu],⟨by show g≠0;omega,by show B i≠0;omega,by simp[CZ,eu]⟩⟩
  ·exact hc (i*71+j) _ (Pz id ms B n i j M Z)
  ·exact(hf (i*71+j) (by have:(i+1)*71<=cap*71:=Nat.mul_le_mul_right 71 eh;omega)).2
 ·rcases e with e|e
  ·exact X.1 e
  ·have:=(U _ e).1;have G:wb.heap.size<=Bb:=this;omega
 ·rcases e with e|e
  ·exact X.2.1 e
  ·have:=(U _ e).1;have G:wb.heap.size<=m.g:=this;omega
 ·rcases e with e|e
  ·exact X.2.2 b hb e
  ·have h8:=(U b e).1;have G:=V.mlt b hb;omega
 ·exact qh (H 0 0 eA eA) (V.maps b hb) e.symm
theorem VB(id:Int)(b off n cap:Nat)(ms:Nat->Int)(w:dY)(hT:jf w)(pT:1<=id/\id<=6)(hn:1<=n/\n<=3)(hms:∀i,i<n->w.cell? ⟨b,off+i,ν⟩=μ (ι κ (ms i)))(hm:∀i,i<n->1<=ms i/\ms i<=20)(X:Nat->Prop)(hX:∀k,X k->k<w.heap.size):
 eW eX 17 #[ι κ id,σ (μ ⟨b,off,ν⟩) n cap] w λe w'=>∃z,e=ρ (τ #[π (μ ⟨z.R,0,ν⟩),η])/\mr w' z (jN id n ms)/\eE w w'/\(∀k,z.mine n k->w.heap.size<=k)/\w.heap.size<=z.fm.bm/\(∀x∈z.fm.bs,w.heap.size<=x)/\∀k,X k->z.fm.no k:=by
 have hz:=NG;have rQ:=NH;obtain⟨i0,hi,ox,nh,mO⟩:=aY Vy;obtain⟨Zp,Tg⟩:=gg (rowOf 71 zPt);have Rf:Zp.size=71:=by rw[<-Tg];exact mG _ _
 rw[Tg]at hz ox;have akZ:¬Zp= #[] :=λe=>by rw[e]at Rf;simp at Rf
 have hnb:=U3 n w hn;have g1:¬id<1:=eh;have g2:¬6<id:=eh;clear Tg
 go_in
 go_wp2_with(fail);refine hnb.mono ?_;rintro e w1 ⟨rfl,m,CD,rH,b1,m1,m2,m3⟩;have rH:=rH.avoid X (λk e=>Nat.lt_of_lt_of_le (hX k e) b1.size);obtain⟨m',UT⟩:∃m':FM,({m with no:=X}:FM)=m':=⟨_,rfl⟩
 have ll:m'.no=X:=by rw[<-UT]
 have CD:m'.bs.length=n:=by rw[<-UT];exact CD
 have m1:w.heap.size<=m'.bm:=by rw[<-UT];exact m1
 have m3:∀x∈m'.bs,w.heap.size<=x:=by rw[<-UT];exact m3
 have m2:w.heap.size<=m'.g:=by rw[<-UT];exact m2
 rw[UT]at rH;have Tl:=K3 (w.heap.size+1) m' 0 (λ_=>ν) (λ_ _=>ν) id 1 ν 0 0 [] w1 rH (sg eh) ⟨rfl,.inl rfl⟩ (λ_=>rfl) eh (by unfold oy;rw[af eh];rfl);clear hnb;go_wp2_with(fail);refine Tl.mono ?_;rintro e wb ⟨rfl,hBR,hKM⟩;clear Tl;have bb:eE w wb:=jC.below b1 hKM m1 m3;have H0:Making wb (wb.alloc (γ #[ι κ id,σ ν 0 0,π (μ ⟨w.heap.size+1,0,ν⟩),σ ν 0 0,ι κ 0] 135)) id ms 0 wb.heap.size (w.heap.size+1) (λ_=>0) (σ ν 0 0):=⟨iX.new wb _ _,Row.nil _ _,λi hi=>eh,gW _ _,Nat.le_refl _,λi hi=>eh,λk hk=>by simp[eu]at hk,λi j hi=>eh⟩
 have FY:∀W,eE wb W->∀i,i<n->W.cell? ⟨b,off+i,ν⟩=μ (ι κ (ms i)):=λW hW i hi=>by
  have hc:=(aj (a:=⟨b,off+i,ν⟩) (bb.block b (ag _ _ (hms i hi)))).trans (hms i hi);exact(aj (a:=⟨b,off+i,ν⟩) (hW.block b (ag _ _ hc))).trans hc
 have hTb:jf wb:=hT.below bb;have HBR:Hid _:=hBR;have Yq:Hid _:=bb;have HCM:Hid _:=FY;have HH0:Hid _:=H0;have Q:Hid (w.heap.size<=m'.bm/\(∀x∈m'.bs,w.heap.size<=x)/\m'.bs.length=n/\(¬m'.no (w.heap.size+1)/\¬m'.no m'.g/\∀b,(b=m'.bm \/b∈m'.bs)->¬m'.no b)/\∀k,X k->m'.no k):=by
  refine⟨m1,m3,CD,⟨λe=> ?_,λe=> ?_,λb hb e=> ?_⟩,λk hk=>by rw[ll];exact hk⟩
  ·rw[ll]at e;have J:=hX _ e;omega
  ·rw[ll]at e;have J:=hX _ e;omega
  ·rw[ll]at e;have J:=hX _ e;rcases hb with rfl|hb
   ·omega
   ·have h2:=m3 b hb;omega
 obtain⟨Bb,Jo⟩:=gg (w.heap.size+1);rw[Jo]at HH0 HBR Q;clear hBR bb FY H0 b1 hKM rH m1 m2 m3 CD hms ll UT;go_wp2_with(fail)
 try rw[Jo]
 obtain⟨RR,M⟩:=gg (wb.heap.size);rw[M]at HH0;rw[M];have HRR:Hid _:=M;have mM:=hn.1;have vG:=hn.2;have ak4:=pT.1;have acC:=pT.2;clear hn pT M
 go_loopw [39] (λx wr=>∃(q:Nat) (B:Nat->Nat) (v:dZ),q<=n/\x=ι κ q/\Making wb wr id ms q RR Bb B v) (λx _=>n-(eY x).toNat)
 case atStart=>exact⟨0,_,_,Nat.zero_le _,rfl,HH0.out⟩
 case round=>
  obtain⟨q,B,v,hq,rfl,H⟩:=hrel;by_cases kB:q<n
  ·have nQ:(q:Int)<(n:Int):=eh;have hq0:(0:Int)<=(q:Int):=eh;have hmc:=HCM.out _ H.nT q kB;have CD:=ag _ _ hmc;have hmq:=hm q kB;have hnp:=Li (ms q) (8*id+q+1) wr (hTb.below H.nT) hmq eh;have HM:Hid _:=H;clear H;go_wp2_with(fail);refine hnp.mono ?_;rintro e w1 ⟨B',rfl,hLk,hBg,bN⟩;clear hnp;obtain⟨D,hD⟩:=gg (rowOf 71 (xk (Bg (ms q) (8*id+q+1)) B' (σ ν 0 0) Nk));have A:D.size=71:=by rw[<-hD];exact mG _ _
   have o9:D.all (·.oneCell')=true:=by rw[<-hD];exact Je Df.zero rfl
   have hDl:D.toList.length=1*71:=by rw[gO,A]
   have aaw:∀u∈D.toList,u.oneCell'=true:=λu hu=>(ch.1 o9) u (by simpa using hu);rw[hD];have jj:=dP w1 Zp D 142;have M1:=HM.out.below bN;have bA:=gW w1 (γ D 142);have M2:=M1.below bA;have hV:iX (w1.alloc (γ D 142)) w1.heap.size D 142:=iX.new _ _ _;have acD:=hLk.below bA;go_wp2_with(refine og _ rfl (.tmp 11) (.tmp 52) 142 rfl rfl w1.heap.size Zp D rfl rfl (iX.new _ _ _) (by rw[Rf,A]) (by rw[A];exact rQ) o9 ?_;rw[jj]);obtain⟨W2,nr⟩:=gg (w1.alloc (γ D 142));obtain⟨Y,hY⟩:=gg (w1.heap.size);rw[nr]at M2 hV acD;rw[hY]at hV;rw[nr,hY];have hBf:B'<Y:=by rw[<-hY];exact hLk.lt
   have hMY:wb.heap.size<=B':=by have J:=HM.out.nT.size;omega
   have c1:W2.cell? ⟨RR,1,ν⟩=μ v:=M2.oe.cell 1;have cl:=M2.oe.lt;have ot:=M2.oe;have iW:=M2.row;have HO:Hid (v.ownBlock≠μ RR):=λe=>(M2.gV _ e).2 rfl;have G5:Hid _:=M2;have apW:wr.heap.size<B':=hBg;have HOY:Hid (v.ownBlock≠μ Y):=λe=>by have J:=M1.row.lt Y e;omega
   have ak6:RR<Y:=by have J:=M1.oe.lt;omega
   clear jj M1 bA M2 nr hLk bN;have hYR:Y≠RR:=by intro e;have J:=ak6;omega
   have RI:iX (W2.alloc (γ D 142)).drew Y D 142:=iX.below hV (jD (gW _ _));have c1b:(W2.alloc (γ D 142)).drew.cell? ⟨RR,1,ν⟩=μ v:=mH c1;have ki:∀T:dY,iX T Y D 142->(fN 142 (π (μ ⟨Y,0,ν⟩))).run eX T=.ok (.agg D) T:=λT hS=>by
    simp only[fN,Instr.sureAddr,Sem.run_bind,Sem.run_pure,Result.andThen];exact bU T Y 142 142 D (0,0) _ hS underlying142 rfl (by rw[A];exact rQ)
   have mR:B'≠RR:=by have J:=HM.out.oe.lt;omega
   have r9:v.ownBlock≠μ B':=λe=>by have J:=HM.out.row.lt B' e;omega
   have Tm:∀i,i<q->B i≠B':=λi hi e=>by have J:=(HM.out.lk i hi).lt;omega
   have HD:Hid _:=hD;clear hD;refine cz (S:=λx=>iX x Y D 142) gq hV (λE=> ?_);refine jn 0 (μ 57) rfl rfl gq gq gq (λ_ _ _ h=>h) (by rfl) (v:= ?_) ?_ je ?_
   rotate_left
   ·intro T V
    (try dsimp only at V)
    go_simp
    try with_reducible rfl
   simp only[gF,gG,gH,gJ];refine jn 1 (μ 58) rfl rfl gq gq gq (λ_ _ _ h=>h) (by rfl) (v:= ?_) ?_ je ?_
   rotate_left
   ·intro T V
    (try dsimp only at V)
    go_simp
    try with_reducible rfl
   simp only[gF,gG,gH,gJ];refine jn 2 (μ 59) rfl rfl gq gq gq (λ_ _ _ h=>h) (by rfl) (v:= ?_) ?_ je ?_
   rotate_left
   ·intro T V
    (try dsimp only at V)
    go_simp
    try with_reducible rfl
   simp only[gF,gG,gH,gJ];refine jn 3 (μ 60) rfl rfl gq gq gq (λ_ _ _ h=>h) (by rfl) (v:= ?_) ?_ je ?_
   rotate_left
   ·intro T V
    (try dsimp only at V)
    go_simp
    try with_reducible rfl
   simp only[gF,gG,gH,gJ];refine jn 5 (μ 62) rfl rfl gq gq gq (λ_ _ _ h=>h) (by rfl) (v:=.agg D) ?_ je ?_
   ·intro T V;have h7:=ki T V;simp[execOp,Act.eval,h7]
   simp only[gF,gG,gH,gJ];refine aR (rs:=[4,6]) gq gY ?_;refine aH (o:=_) rfl (λK Z=> ?_) (aH (o:=_) rfl (λK Z=> ?_) aO)
   ·go_simp
    (try go_wp2_with(fail))
    refine Z.out _ _ (by exact hV) (λE=> ?_);clear Z K;refine aR (rs:=[6]) gq gY ?_;refine aH (o:=_) rfl (λK Z=> ?_) aO
    go_simp
    rw[EN D _ (by rw[A];rfl) 71 A];refine Z.out _ _ (by exact RI) (λE=> ?_);clear Z K;refine aR (rs:=[7]) gq gY ?_;refine aH (o:=_) rfl (λK Z=> ?_) aO;refine lU (by rfl) (.tmp 61) (.tmp 63) 133 (by rfl) 142 i0 (.agg Zp) 71 144 underlying133 hi ox nh mO Rf eA v q (yO id ms B q) (by rfl) ((iW.alloc _).drew) _ 1 1 D.toList (by rfl) hDl eA (EP _ _ _ _ rfl) aaw (by unfold maxLen;omega) eh ?_;intro g' jr x1 k8 G jF;have M7:=um ot G HO.out;have U:=um hV G HOY.out;have f1:=M7.frozen 1;have k1:x1.cell? ⟨RR,1,ν⟩=μ v:=M7.cell 1;refine Z.out _ _ (by exact U) (λE=> ?_);clear Z K;refine jn 8 (μ 65) rfl rfl gq gq gq (λ_ _ _ h=>h) (by rfl) (v:= ?_) ?_ je ?_
    rotate_left
    ·intro T V
     (try dsimp only at V)
     go_simp
     try with_reducible rfl
    simp only[gF,gG];refine jn 9 (μ 66) rfl rfl gq gq gq (λ_ _ _ h=>h) (by rfl) (v:= ?_) ?_ je ?_
    rotate_left
    ·intro T V
     (try dsimp only at V)
     go_simp
     try with_reducible rfl
    simp only[gF];refine aR (rs:=[10]) gq gY ?_;refine aH (o:=_) rfl (λK Z=> ?_) aO
    go_simp
    (try go_wp2_with(fail))
    refine Z.out _ _ (by exact U.other hYR _) (λE=> ?_);clear Z K;refine cS gq ?_ _;have HAdd:Hid _:=Making.add G5.out HD.out acD hMY mR r9 Tm k8 G jF;clear k8 G jF M7 U f1 k1
    go_wp2
    go_roundw
    case rel=>exact⟨q+1,_,_,eh,by go_num,HAdd.out⟩
    case measure=>simp[eY];omega
   ·go_simp
    rw[EN D _ (by rw[A];rfl) 71 A];refine Z.out _ _ (by exact RI) (λE=> ?_);clear Z K;refine aR (rs:=[4]) gq gY ?_;refine aH (o:=_) rfl (λK Z=> ?_) aO
    go_simp
    (try go_wp2_with(fail))
    refine Z.out _ _ (by exact RI) (λE=> ?_);clear Z K;refine aR (rs:=[7]) gq gY ?_;refine aH (o:=_) rfl (λK Z=> ?_) aO;refine lU (by rfl) (.tmp 61) (.tmp 63) 133 (by rfl) 142 i0 (.agg Zp) 71 144 underlying133 hi ox nh mO Rf eA v q (yO id ms B q) (by rfl) ((iW.alloc _).drew) _ 1 1 D.toList (by rfl) hDl eA (EP _ _ _ _ rfl) aaw (by unfold maxLen;omega) eh ?_;intro g' jr x1 k8 G jF;have M7:=um ot G HO.out;have U:=um hV G HOY.out;have f1:=M7.frozen 1;have k1:x1.cell? ⟨RR,1,ν⟩=μ v:=M7.cell 1;refine Z.out _ _ (by exact U) (λE=> ?_);clear Z K;refine jn 8 (μ 65) rfl rfl gq gq gq (λ_ _ _ h=>h) (by rfl) (v:= ?_) ?_ je ?_
    rotate_left
    ·intro T V
     (try dsimp only at V)
     go_simp
     try with_reducible rfl
    simp only[gF,gG];refine jn 9 (μ 66) rfl rfl gq gq gq (λ_ _ _ h=>h) (by rfl) (v:= ?_) ?_ je ?_
    rotate_left
    ·intro T V
     (try dsimp only at V)
     go_simp
     try with_reducible rfl
    simp only[gF];refine aR (rs:=[10]) gq gY ?_;refine aH (o:=_) rfl (λK Z=> ?_) aO
    go_simp
    (try go_wp2_with(fail))
    refine Z.out _ _ (by exact U.other hYR _) (λE=> ?_);clear Z K;refine cS gq ?_ _;have HAdd:Hid _:=Making.add G5.out HD.out acD hMY mR r9 Tm k8 G jF;clear k8 G jF M7 U f1 k1
    go_wp2
    go_roundw
    case rel=>exact⟨q+1,_,_,eh,by go_num,HAdd.out⟩
    case measure=>simp[eY];omega
  ·have hqn:q=n:=eh;subst hqn;obtain⟨g,cp,hv,hR,QB⟩:=H.done ⟨mM,vG⟩ ⟨ak4,acC⟩ hTb HBR.out Q.out.2.2.2.1 Q.out.2.2.1;have HF:Hid (∃z:Zt,z.R=RR/\mr wr z (jN id q ms)/\eE w wr/\(∀k,z.mine q k->w.heap.size<=k)/\w.heap.size<=z.fm.bm/\(∀x∈z.fm.bs,w.heap.size<=x)/\∀k,X k->z.fm.no k):=by
    refine⟨_,rfl,hR,gk Yq.out H.nT,λk hk=> ?_,Q.out.1,Q.out.2.1,λk hk=>.inl (Q.out.2.2.2.2 k hk)⟩;have hs:=Yq.out.size;rcases Hw hk with rfl|rfl|⟨i,hi,rfl⟩
    ·have:=H.gR;omega
    ·omega
    ·have:=(H.gB i hi).1;omega
   have xP:¬(q:Int)<(q:Int):=eh;clear H hR QB hv
   go_wp2
   go_ret2
   obtain⟨z,nh,mO⟩:=HF.out;exact⟨z,by rw[nh];rfl,mO⟩
theorem PA:(eX.info? 3).map (λi=>(i.zero,i.size,i.bytes))=μ (μ (ι κ 0),1,8):=gq
def vt(ms:Nat->Int):Nat->List dZ
 |0=>[]
 |q+1=>vt ms q++ [.int .i64 (ms q)]
theorem rZ(ms:Nat->Int):∀q,(vt ms q).length=q
 |0=>rfl
 |q+1=>by unfold vt;rw[aA,rZ ms q];rfl
theorem Lj(ms:Nat->Int):∀(q i:Nat),i<q->(vt ms q)[i]? =μ (ι κ (ms i))
 |q+1,i,h=>by
  unfold vt;by_cases e:i<q
  ·rw[bG (by rw[rZ];exact e)];exact Lj ms q i e
  ·have:i=q:=eh;subst this;rw[bw (by rw[rZ];exact Nat.le_refl _),rZ,Nat.sub_self];rfl
theorem x6(N b i:Nat)(E:List (Int×Int×Int))(ms:Nat->Int)(w:dY)(hc:w.cell? ⟨N,2,ν⟩=μ (.map (μ b)))(hm:oD w b E)(hE:Dl E)(hi6:i<6)(ht:∀p:Nat,p<3->(kQ E ((i:Int)+1) (p:Int)).getD 1=ms p/\1<=ms p/\ms p<=20)(hT:jf w)(X:Nat->Prop)(hX:∀k,X k->k<w.heap.size):
 eW eX 96 #[π (μ ⟨N,0,ν⟩),ι κ ((i:Int)+1)] w λe w'=>∃z,e=ρ (τ #[π (μ ⟨z.R,0,ν⟩),η])/\mr w' z (jN ((i:Int)+1) 3 ms)/\eE w w'/\(∀k,z.mine 3 k->w.heap.size<=k)/\w.heap.size<=z.fm.bm/\(∀x∈z.fm.bs,w.heap.size<=x)/\∀k,X k->z.fm.no k:=by
 obtain⟨i0,hi,ox,nh,mO⟩:=aY PA;have Nl:=ag _ _ hc;have bl:b<w.heap.size:=by
  obtain⟨es,clock,h1,_⟩:=hm;exact(ay.1 h1).1
 have HL:Hid (∀W,eE w W->∀p:Nat,p<3->(Instr.lookup 184 (.map (μ b)) (.agg #[ι κ ((i:Int)+1),ι κ (p:Int)]) true).run eX W=.ok (τ #[ι κ ((kQ E ((i:Int)+1) (p:Int)).getD 0),.bool (kQ E ((i:Int)+1) (p:Int)).isSome]) W):=by
  intro W u p hp;exact oD.look (hm.keep (u.block b bl)) hE ⟨eh,eh,eh,eh⟩
 have HC:Hid (∀W,eE w W->W.cell? ⟨N,2,ν⟩=μ (.map (μ b))/\N<W.heap.size):=by
  intro W u;exact⟨(aj (a:=⟨N,2,ν⟩) (u.block N Nl)).trans hc,Nat.lt_of_lt_of_le Nl u.size⟩
 have HT:Hid _:=ht;have RB:Hid _:=hT;clear hm hc ht hT
 go_in
 go_wp2
 go_loopw [6,10] (λv x wr=>∃q:Nat,q<=3/\x=ι κ q/\Row wr 1 v q (vt ms q)/\(∀k,v.ownBlock=μ k->w.heap.size<=k)/\eE w wr) (λ_ x _=>3-(eY x).toNat)
 case atStart=>exact⟨0,Nat.zero_le _,rfl,Row.nil _ _,λk Z=>by simp[eu]at Z,av _ _⟩
 case round=>
  obtain⟨q,hq,rfl,Y,jl,V⟩:=hrel;by_cases kB:q<3
  ·have nQ:(q:Int)<3:=eh;have G:=HL.out wr V q kB;obtain⟨d2,dl⟩:=HC.out wr V;obtain⟨t1,t2,t3⟩:=HT.out q kB;have HR:Hid _:=Y;have A:Hid _:=jl;have T:Hid _:=V;clear jl V;cases h:kQ E ((i:Int)+1) (q:Int)with
   |none=>
    rw[h]at G t1;have T1:Hid (ms q=1):=t1.symm;have e0:(Option.getD (ν:Option Int) 0)=0:=rfl;have e1:(Option.isSome (ν:Option Int))=false:=rfl;rw[e0,e1]at G;clear h t1;go_wp2_with(at_builtin;go_must(refine iG _ rfl (.tmp 26) (.tmp 28) 22 rfl 3 i0 (ι κ 0) 1 8 underlying22 hi ox nh mO rfl eA u6 q (vt ms q) rfl (Y.alloc _) _ 1 1 [ι κ 1] rfl rfl eA (qE _ _ _) (wY _ _) (by unfold maxLen;omega) eh ?_));intro U M Q S J H;have HN:Hid (Row Q 1 (σ (μ ⟨U,0,ν⟩) (q+1) M) (q+1) (vt ms (q+1))/\(∀k,eu (σ (μ ⟨U,0,ν⟩) (q+1) M)=μ k->w.heap.size<=k)/\eE w Q):=by
     have hs:=T.out.size;refine⟨by unfold vt;rw[T1.out];exact S,λk Z=> ?_,?_⟩
     ·have:U=k:=by simpa[eu]using Z
      subst this;rcases H with e|e
      ·exact A.out _ e
      ·have:(wr.alloc (γ #[ι κ 1] 3)).heap.size=wr.heap.size+1:=gY;omega
     ·exact(T.out.alloc hs _).grown J (by simp;omega) (λk Z=>A.out k (by rw[<-Z]))
    clear S J H Y
    go_wp2
    go_roundw
    case rel=>exact⟨q+1,eh,by go_num,HN.out⟩
    case measure=>simp[eY];omega
   |some m=>
    rw[h]at G t1;have T1:Hid (ms q=m):=t1.symm;have e0:(Option.getD (μ m) 0)=m:=rfl;have e1:(Option.isSome (μ m))=true:=rfl;rw[e0,e1]at G;clear h t1;go_wp2_with(at_builtin;go_must(refine iG _ rfl (.tmp 26) (.tmp 28) 22 rfl 3 i0 (ι κ 0) 1 8 underlying22 hi ox nh mO rfl eA u6 q (vt ms q) rfl (Y.alloc _) _ 1 1 [ι κ m] rfl rfl eA (qE _ _ _) (wY _ _) (by unfold maxLen;omega) eh ?_));intro U M Q S J H;have HN:Hid (Row Q 1 (σ (μ ⟨U,0,ν⟩) (q+1) M) (q+1) (vt ms (q+1))/\(∀k,eu (σ (μ ⟨U,0,ν⟩) (q+1) M)=μ k->w.heap.size<=k)/\eE w Q):=by
     have hs:=T.out.size;refine⟨by unfold vt;rw[T1.out];exact S,λk Z=> ?_,?_⟩
     ·have:U=k:=by simpa[eu]using Z
      subst this;rcases H with e|e
      ·exact A.out _ e
      ·have:(wr.alloc (γ #[ι κ m] 3)).heap.size=wr.heap.size+1:=gY;omega
     ·exact(T.out.alloc hs _).grown J (by simp;omega) (λk Z=>A.out k (by rw[<-Z]))
    clear S J H Y
    go_wp2
    go_roundw
    case rel=>exact⟨q+1,eh,by go_num,HN.out⟩
    case measure=>simp[eY];omega
  ·obtain rfl:q=3:=eh;have S:=Y;have Yv:∃g cap,u6=σ (μ ⟨g,0,ν⟩) 3 cap:=by
    rcases Y.2 with⟨_,e2⟩|⟨g,cap,e,_⟩
    ·omega
    ·exact⟨g,cap,e⟩
   obtain⟨g,cap,rfl⟩:=Yv;have jj:=VB ((i:Int)+1) g 0 3 cap ms wr (jf.below (w:=w) RB.out V) eh eh (λj hj=>by
    have:=Row.cell Y j _ (Lj ms 3 j hj);rw[Nat.zero_add];exact this) (λj hj=>(HT.out j hj).2) X (λk Z=>Nat.lt_of_lt_of_le (hX k Z) V.size)
   have T:Hid _:=V;have h33:((3:Nat):Int)=3:=rfl;clear Y jl V S;go_wp2_with(fail);refine jj.mono ?_;rintro e w1 ⟨z,rfl,hz⟩;have HZ:Hid _:=hz;clear jj hz
   go_wp2
   go_ret2
   have hs:=T.out.size;obtain⟨z1,z2,z3,z4,z5,z6⟩:=HZ.out;exact⟨z,rfl,z1,gk T.out z2,λk Z=>Nat.le_trans hs (z3 k Z),Nat.le_trans hs z4,λx hx=>Nat.le_trans hs (z5 x hx),z6⟩
structure Idle(p:jw):Prop where
 st:p.L.st=1
 pe:p.pe=nobody
 out:p.out=[]
structure jH(r r':iM)(k:Nat):Prop where
 n:r'.n=r.n
 id:r'.id=r.id
 lo:r.drop<=r'.drop
 hi:r'.drop<=r.drop+k
theorem jH.refl(r:iM):jH r r 0:=⟨rfl,rfl,Int.le_refl _,eh⟩
theorem jH.mono {l:Nat} (h:jH r r' k)(hl:k<=l):jH r r' l:=⟨h.n,h.id,h.lo,by have:=h.hi;omega⟩
theorem jH.trans {a b c:iM} {k l:Nat} (h:jH a b k)(g:jH b c l):jH a c (k+l):=⟨g.n.trans h.n,g.id.trans h.id,Int.le_trans h.lo g.lo,by have:=h.hi;have:=g.hi;omega⟩
theorem jH.xw(Z:r'.n=r.n)(hi:r'.id=r.id)(hd:r'.drop=r.drop):jH r r' 0:=⟨Z,hi,eh,eh⟩
theorem jH.iU(r:iM)(i:Nat)(p:jw):jH r (r.iU i p) 0:=jH.xw rfl rfl rfl
theorem jH.meet(r:iM)(i:Nat)(q:lD):jH r (r.meet i q) 0:=by
 obtain⟨_,Y,Z,_⟩:=mV r i q;exact jH.xw Z (Dm _ _ _) Y
theorem jH.behind(r:iM)(s:Int):jH r (r.behind s) 0:=by
 obtain⟨_,Y,Z,_⟩:=oE r s;exact jH.xw Z (A4 _ _) Y
theorem jH.send(r:iM)(t:za):jH r (r.send t) 1:=by
 unfold iM.send;split
 ·exact jH.mono (k:=0) (jH.xw rfl rfl rfl) eh
 ·split
  ·exact⟨rfl,rfl,by simp;omega,gY⟩
  ·exact(jH.iU _ _ _).mono eh
theorem jH.state(r:iM)(i:Nat)(l:List UInt8):jH r (ji r i l) 0:=by
 unfold ji;simp only;split
 ·exact jH.refl r
 ·split
  ·exact jH.behind _ _
  ·split<;>exact jH.xw rfl rfl rfl
theorem jH.link(r:iM)(i:Nat)(c:UInt8)(s:List UInt8):jH r (j1 r i c s) 0:=by
 unfold j1;split
 ·exact jH.iU _ _ _
 ·exact jH.refl r
theorem jH.rest(r:iM)(i:Nat)(c:UInt8)(s:List UInt8):jH r (mA r i c s) 1:=by
 unfold mA;split
 ·split
  ·exact(jH.meet _ _ _).mono eh
  ·exact(jH.refl r).mono eh
 ·split
  ·exact(jH.state _ _ _).mono eh
  ·split
   ·unfold kD;simp only;split<;>exact jH.mono (k:=0) (jH.xw rfl rfl rfl) eh
   ·split
    ·unfold ru;split
     ·exact jH.send _ _
     ·exact(jH.refl r).mono eh
    ·exact(jH.refl r).mono eh
theorem jH.take(r:iM)(i:Nat)(c:UInt8)(s:List UInt8):jH r (r.take i c s) 1:=by
 rw[lJ];have Z:=jH.link r i c s;split
 ·exact(Z.trans (jH.meet _ _ _)).mono eh
 ·exact(Z.trans (jH.rest _ i c s)).mono eh
theorem jH.takes:∀(l:List (List UInt8)) (r:iM) (i:Nat),jH r (r.takes i l) l.length
 |[],r,_=>jH.refl r
 |t::l,r,i=>by
  show jH r ((jM r i t).takes i l) (l.length+1);have Y:=jH.takes l (jM r i t) i;have Z:jH r (jM r i t) 1:=by
   cases t with
   |nil=>exact jH.mono (jH.refl r) eh
   |cons c s=>exact jH.take r i c s
  exact jH.mono (Z.trans Y) eh
theorem jH.recv(r:iM)(i:Nat)(l:List UInt8):jH r (r.recv i l) l.length:=by
 unfold iM.recv;simp only;have h:=(jH.iU r i {r.P i with rd:=(kx (r.P i).rd l).2.2}).trans (jH.takes (kx (r.P i).rd l).1 _ i);refine h.mono ?_;have:=Dg (r.P i).rd l;omega
theorem jH.iL(r:iM)(i:Nat)(up:Bool):jH r (r.iL i up).1 0:=by
 unfold iM.iL;simp only;split
 ·exact jH.refl r
 ·exact((jH.iU r i _).trans (jH.meet _ _ _)).mono eh
theorem jH.iV(r:iM)(i:Nat):jH r (r.iV i) 0:=by
 rw[k7];have Z:jH r (jb r i) 0:=jH.iU _ _ _;split
 ·exact Z.trans (jH.meet _ _ _)
 ·exact(Z.trans (jH.meet _ i _)).trans (jH.iU _ _ _)
theorem jH.ja(r:iM):∀q,jH r (r.ja q) 0
 |0=>jH.refl r
 |q+1=>(jH.ja r q).trans (jH.iV _ _)
theorem jH.kd(r:iM)(t:Int)(tx:List UInt8):jH r (kd r t tx).1 1:=by
 unfold Rt.kd;split
 ·exact jH.mono (k:=0) (jH.refl r) eh
 ·show jH r (r.send (t,8,tx)) 1;exact jH.send r (t,8,tx)
theorem Jp {m:Nat} (h:ln r)(hf:Fit r k)(i:Nat)(A:List (List UInt8))(rd:kC)(hA:A.length<=m):ln ((r.iU i {r.P i with rd:=rd}).takes i A)/\Fit ((r.iU i {r.P i with rd:=rd}).takes i A) (k+2*m):=by
 have Y:ln (r.iU i {r.P i with rd:=rd}):=h.iU i _ rfl (λhi=>h.pe i hi);have f1:Fit (r.iU i {r.P i with rd:=rd}) k:=hf.iU i _ (λhi=>hf.out i hi);have Z:=Ba A Y f1 i;exact⟨Z.2.1,Z.2.2.mono eh⟩
theorem VC(h:ln r)(hf:Fit r k)(i:Nat)(l:List UInt8):ln (r.recv i l)/\Fit (r.recv i l) (k+2*l.length):=
 Jp h hf i (kx (r.P i).rd l).1 (kx (r.P i).rd l).2.2 (Nat.le_trans (Nat.le_add_right _ _) (Dg (r.P i).rd l))
theorem VD(h:ln r)(hf:Fit r k)(i:Nat)(up:Bool):ln (r.iL i up).1/\Fit (r.iL i up).1 (k+1):=by
 have Z:=(yN (r.P i) up).1;have hl:((r.P i).iL up).1.out.length<=(r.P i).out.length+6000:=by
  unfold jw.iL;have X:=zx (r.P i).L (if up=true then 0 else 1);generalize kY (r.P i).L (if up=true then 0 else 1)=e at X⊢;simp only;by_cases Y:e.2.2=0
  ·rw[af (by simp[Y])];have h2:=zF e.2.1 {r.P i with L:=e.1,rd:=([],false,false)};have h4:({r.P i with L:=e.1,rd:=([],false,false)}:jw).out.length=(r.P i).out.length:=rfl;show(({r.P i with L:=e.1,rd:=([],false,false)}:jw).say e.2.1).out.length<=_;omega
  ·rw[ai Y];show(r.P i).out.length<=_;omega
 unfold iM.iL;generalize (r.P i).iL up=e at Z hl⊢;simp only;split
 ·exact⟨h,hf.mono (Nat.le_succ k)⟩
 ·exact⟨(h.iU i _ Z.1 (λhi=>by rw[Z.2];exact h.pe i hi)).meet i (oj.nobody h.id.1),(hf.grow i _ hl).meet i _⟩
theorem N2(h:ln r)(hf:Fit r k)(t:Int)(tx:List UInt8):ln (kd r t tx).1/\Fit (kd r t tx).1 (k+1):=by
 unfold Rt.kd;split
 ·exact⟨h,hf.mono (Nat.le_succ k)⟩
 ·exact⟨h.send _,hf.send _⟩
def j5(r r':iM)(i:Nat):Prop:=∀p,p≠i->Idle (r.P p)->Idle (r'.P p)
theorem j5.refl(r:iM)(i:Nat):j5 r r i:=λ_ _ h=>h
theorem j5.trans {a b c:iM} (h:j5 a b i)(g:j5 b c i):j5 a c i:=λp Z hi=>g p Z (h p Z hi)
theorem j5.iU(r:iM)(i:Nat)(q:jw):j5 r (r.iU i q) i:=λp Z h=>by
 show Idle (la r.P i q p);rw[jq _ _ Z];exact h
theorem j5.xM(h:r'.P=r.P)(i:Nat):j5 r r' i:=λp _ hi=>by rw[h];exact hi
theorem j5.meet(r:iM)(i:Nat)(q:lD):j5 r (r.meet i q) i:=λp Z h=>by
 rw[(mV r i q).2.2.2,jq _ _ Z];exact h
theorem Hx(t:za)(h:Idle (r.P p)):Idle ((r.send t).P p):=by
 unfold iM.send;split
 ·exact h
 ·split
  ·exact h
  ·rename_i b hb
   show Idle (la r.P b _ p);by_cases e:p=b
   ·subst e;exfalso;split at hb
    ·cases Z:AL (mc r) t.1 with
     |none=>rw[Z]at hb;simp at hb
     |some x=>
      rw[Z]at hb;have Y:jP r.P x.rG r.n=μ p:=hb;have:=(oA Y).2.1;rw[h.pe]at this;exact absurd this eA
    ·simp at hb
   ·rw[jq _ _ e];exact h
theorem j5.send(r:iM)(t:za)(i:Nat):j5 r (r.send t) i:=λ_ _ h=>Hx t h
theorem j5.state(r:iM)(i:Nat)(l:List UInt8):j5 r (ji r i l) i:=by
 unfold ji;simp only;split
 ·exact j5.refl r i
 ·split
  ·exact j5.xM (oE _ _).2.2.2 i
  ·split
   ·exact(j5.xM rfl i).trans (j5.iU _ _ _)
   ·exact j5.xM rfl i
theorem j5.take(r:iM)(i:Nat)(c:UInt8)(s:List UInt8):j5 r (r.take i c s) i:=by
 rw[lJ];have Z:j5 r (j1 r i c s) i:=by
  unfold j1;split
  ·exact j5.iU _ _ _
  ·exact j5.refl _ _
 split
 ·exact Z.trans (j5.meet _ _ _)
 ·refine Z.trans ?_;unfold mA;split
  ·split
   ·exact j5.meet _ _ _
   ·exact j5.refl _ _
  ·split
   ·exact j5.state _ _ _
   ·split
    ·unfold kD;simp only;split<;>exact j5.xM rfl i
    ·split
     ·unfold ru;split
      ·exact j5.send _ _ _
      ·exact j5.refl _ _
     ·exact j5.refl _ _
theorem j5.takes:∀(l:List (List UInt8)) (r:iM) (i:Nat),j5 r (r.takes i l) i
 |[],r,i=>j5.refl r i
 |t::l,r,i=>by
  show j5 r ((match t with|[] =>r|c::s=>r.take i c s).takes i l) i;refine j5.trans ?_ (j5.takes l _ i);cases t with
  |nil=>exact j5.refl _ _
  |cons c s=>exact j5.take r i c s
theorem j5.recv(r:iM)(i:Nat)(l:List UInt8):j5 r (r.recv i l) i:=by
 unfold iM.recv;simp only;exact(j5.iU r i _).trans (j5.takes _ _ i)
theorem j5.iL(r:iM)(i:Nat)(up:Bool):j5 r (r.iL i up).1 i:=by
 unfold iM.iL;simp only;split
 ·exact j5.refl r i
 ·exact(j5.iU r i _).trans (j5.meet _ _ _)
theorem Ll {p:jw} (h:Idle p):p.tick=p:=by
 have Z:jd p.L=(p.L,[]):=by
  have Y:kj p.L=p.L:=by unfold kj;simp[h.st]
  have X:lM p.L=[] :=by unfold lM;simp[h.st]
  unfold jd;rw[Y,X];simp[h.st]
 unfold jw.tick;rw[Z];rfl
theorem N3(i:Nat)(h:Idle (r.P p)):Idle ((r.iV i).P p):=by
 rw[k7];by_cases e:p=i
 ·subst e;have Z:(jb r p).P p=r.P p:=by
   show la r.P p (r.P p).tick p=_;rw[jy,Ll h]
  rw[Z,ai (by rw[h.st];decide),(mV _ _ _).2.2.2,jy,Z];exact⟨h.st,rfl,h.out⟩
 ·have Z:Idle ((jb r i).P p):=by
   show Idle (la r.P i _ p);rw[jq _ _ e];exact h
  split
  ·exact j5.meet _ _ _ p e Z
  ·exact j5.iU _ i _ p e (j5.meet _ _ _ p e Z)
theorem ER {r:iM} {p:Nat} (h:Idle (r.P p)):∀q,Idle ((r.ja q).P p)
 |0=>h
 |q+1=>N3 q (ER h q)
theorem Lm(t:Int)(tx:List UInt8)(h:Idle (r.P p)):Idle ((kd r t tx).1.P p):=by
 unfold Rt.kd;split
 ·exact h
 ·show Idle ((r.send (t,8,tx)).P p);exact Hx (t,8,tx) h
structure j3(y:iP)(D k:Nat):Prop where
 n1:1<=y.n
 n6:y.n<=6
 c9:y.nc<=9
 en:∀c d,c<y.nc->d<2->((y.C c).e d).1<y.n/\((y.C c).e d).2<3
 ds:∀c d c' d',c<y.nc->d<2->c'<y.nc->d'<2->(y.C c).e d=(y.C c').e d'->c=c'/\d=d'
 ms:∀i p,i<y.n->p<3->1<=y.ms i p/\y.ms i p<=20
 rn:∀i,i<y.n->(y.R i).n=3/\(y.R i).id=(i:Int)+1
 ok:∀i,i<y.n->ln (y.R i)
 drop:∀i,i<y.n->0<=(y.R i).drop/\(y.R i).drop<=D
 ol:∀c d,c<y.nc->d<2->((y.C c).on d).length<=2000
 ib:∀i,i<y.n->(y.j8 i).length<=D
 idle:∀i p,i<y.n->p<3->(∀c d,c<y.nc->d<2->(y.C c).e d≠(i,p))->Idle ((y.R i).P p)
 fit:∀i,i<y.n->(y.R i).j8.length<=k/\∀p,p<3->((y.R i).P p).out.length<=6000*k
theorem j3.mono {D':Nat} (h:j3 y D k)(hD:D<=D')(hk:k<=k'):j3 y D' k':=
 ⟨h.n1,h.n6,h.c9,h.en,h.ds,h.ms,h.rn,h.ok,λi hi=>by have:=h.drop i hi;omega,h.ol,λi hi=>by have:=h.ib i hi;omega,h.idle,λi hi=>⟨by have:=(h.fit i hi).1;omega,λp Z=>by have:=(h.fit i hi).2 p Z;omega⟩⟩
theorem j3.fits(h:j3 y D k)(hD:D<=1000000000000000)(hi:i<y.n):Fit (y.R i) k:=
 ⟨(h.fit i hi).1,by have:=h.drop i hi;omega,λp Z=>(h.fit i hi).2 p (by rw[(h.rn i hi).1]at Z;exact Z)⟩
theorem j3.jB {y:iP} {D k:Nat} (h:j3 y D k) {i:Nat} (hi:i<y.n) {r:iM} {D' k':Nat} (U:D<=D')(hk:k<=k')(V:r.n=3/\r.id=(i:Int)+1)(T:ln r)(hd:0<=r.drop/\r.drop<=D')(hf:Fit r k')
 (S:∀p,p<3->(∀c d,c<y.nc->d<2->(y.C c).e d≠(i,p))->Idle (r.P p)):j3 (y.jB i r) D' k':=by
 have X:∀j,(y.jB i r).R j=if j=i then r else y.R j:=λj=>rfl
 refine⟨h.n1,h.n6,h.c9,h.en,h.ds,h.ms,λj Z=> ?_,λj Z=> ?_,λj Z=> ?_,h.ol,λj Z=>Nat.le_trans (h.ib j Z) U,λj p Z Y hc=> ?_,λj Z=> ?_⟩
 ·rw[X];by_cases e:j=i
  ·rw[ai e];subst e;exact V
  ·rw[af e];exact h.rn j Z
 ·rw[X];by_cases e:j=i
  ·rw[ai e];exact T
  ·rw[af e];exact h.ok j Z
 ·rw[X];by_cases e:j=i
  ·rw[ai e];exact hd
  ·rw[af e];have:=h.drop j Z;omega
 ·rw[X];by_cases e:j=i
  ·rw[ai e];subst e;exact S p Y hc
  ·rw[af e];exact h.idle j p Z Y hc
 ·rw[X];by_cases e:j=i
  ·rw[ai e];exact⟨hf.j8,λp Y=>hf.out p (by rw[V.1];exact Y)⟩
  ·rw[af e];exact⟨by have:=(h.fit j Z).1;omega,λp Y=>by have:=(h.fit j Z).2 p Y;omega⟩
theorem j3.call(h:j3 y D k)(hi:i<y.n)(U:k<=k')(Z:jH (y.R i) r g)(T:ln r)(hf:Fit r k')
 (V:∀p,p<3->(∀c d,c<y.nc->d<2->(y.C c).e d≠(i,p))->Idle ((y.R i).P p)->Idle (r.P p)):j3 (y.jB i r) (D+g) k':=by
 have Y:=h.rn i hi;have h2:=h.drop i hi;have h3:=Z.lo;have h4:=Z.hi;exact h.jB hi eh U ⟨Z.n.trans Y.1,Z.id.trans Y.2⟩ T eh hf (λp X hc=>V p X hc (h.idle i p hi X hc))
theorem j3.lq {y:iP} {D k:Nat} (h:j3 y D k) {c:Nat} {cb:qA} (V:c<y.nc->cb.e=(y.C c).e)(hl:c<y.nc->∀d,d<2->(cb.on d).length<=2000):j3 (y.lq c cb) D k:=by
 have hC:∀x,x<y.nc->((y.lq c cb).C x).e=(y.C x).e:=λx hx=>by
  show(if x=c then cb else y.C x).e=_;by_cases e:x=c
  ·rw[ai e];subst e;exact V hx
  ·rw[af e]
 refine⟨h.n1,h.n6,h.c9,λx d hx hd=>by rw[hC x hx];exact h.en x d hx hd,λx d x' d' hx hd Z X e=>by rw[hC x hx,hC x' Z]at e;exact h.ds x d x' d' hx hd Z X e,h.ms,h.rn,h.ok,h.drop,λx d hx hd=> ?_,h.ib,λi p hi Y hc=>h.idle i p hi Y (λx d hx hd=>by have:=hc x d hx hd;rwa [hC x hx]at this),h.fit⟩;show((if x=c then cb else y.C x).on d).length<=_;by_cases e:x=c
 ·rw[ai e];subst e;exact hl hx d hd
 ·rw[af e];exact h.ol x d hx hd
theorem j3.jb(h:j3 y D k)(X:D<=1000000000000000)(hi:i<y.n):j3 (y.jB i (y.R i).tick) D (k+6):=by
 have Z:=Bf (h.ok i hi) (h.fits X hi) (y.R i).n (Nat.le_refl _);rw[(h.rn i hi).1]at Z;have e:(y.R i).tick=(y.R i).ja 3:=by unfold iM.tick;rw[(h.rn i hi).1]
 rw[e];exact h.call hi eh (jH.ja _ 3) Z.2.1 Z.2.2 (λp _ _ Y=>ER Y 3)
theorem j3.af8(h:j3 y D k)(V:D<=1000000000000000)(hc:c<y.nc)(hd:d<2)(l:List UInt8)(hl:l.length<=2000):j3 (y.jB ((y.C c).e d).1 ((y.R ((y.C c).e d).1).recv ((y.C c).e d).2 l)) (D+2000) (k+4000):=by
 obtain⟨hi,Y⟩:=h.en c d hc hd;have Z:=VC (h.ok _ hi) (h.fits V hi) ((y.C c).e d).2 l;exact h.call hi eh ((jH.recv _ _ l).mono hl) Z.1 (Z.2.mono eh) (λp _ X Y=>j5.recv _ _ l p (λe=>X c d hc hd (by rw[e])) Y)
theorem j3.VE(h:j3 y D k)(V:D<=1000000000000000)(hc:c<y.nc)(hd:d<2)(up:Bool):j3 (y.mT c d up) D (k+1):=by
 obtain⟨hi,Y⟩:=h.en c d hc hd;have Z:=VD (h.ok _ hi) (h.fits V hi) ((y.C c).e d).2 up;exact h.call hi eh (jH.iL _ _ up) Z.1 Z.2 (λp _ X Y=>j5.iL _ _ up p (λe=>X c d hc hd (by rw[e])) Y)
theorem j3.VF(h:j3 y D k)(X:D<=1000000000000000)(hi:i<y.n)(t:Int)(tx:List UInt8):j3 (y.jB i (kd (y.R i) t tx).1) (D+1) (k+1):=by
 have Z:=N2 (h.ok i hi) (h.fits X hi) t tx;exact h.call hi eh (jH.kd _ t tx) Z.1 Z.2 (λp _ _ Y=>Lm t tx Y)
theorem zQ {m:Nat->Int} (Y:1<=id/\id<=6)(U:∀i,i<3->1<=m i/\m i<=20):ln (jN id 3 m):=by
 refine⟨Y,U,λi _=>oj.nobody Y.1,⟨(1,[]),?_,?_⟩,λx hx=> ?_⟩
 ·show(if id=id then μ ((1,[]):PS)else ν)=_;rw[ai rfl]
 ·show oy id 1 [] =0;unfold oy;have X:¬id<1:=eh;have V:¬6<id:=eh;simp[X,V,qt]
 ·have Z:(if x=id then μ ((1,[]):PS)else ν).isSome=true:=hx;by_cases e:x=id
  ·omega
  ·rw[af e]at Z;simp at Z
theorem RJ {m:Nat->Int} (k:Nat):Fit (jN id 3 m) k:=⟨Nat.zero_le _,⟨Int.le_refl _,by show(0:Int)<=_;omega⟩,λ_ _=>Nat.zero_le _⟩
theorem qL(id:Int)(m:Nat->Int)(p:Nat):Idle ((jN id 3 m).P p):=⟨rfl,rfl,rfl⟩
theorem j3.kZ {y:iP} {D k:Nat} (h:j3 y D k)(T:D<=1000000000000000) {c d:Nat} (hc:c<y.nc)(hd:d<2):j3 (y.kZ c d) D k:=by
 obtain⟨hi,V⟩:=h.en c d hc hd;unfold iP.kZ;have hf:=h.fits T hi;have X:=h.ok _ hi;have U:j3 (y.jB ((y.C c).e d).1 ((y.R ((y.C c).e d).1).out ((y.C c).e d).2)) D k:=by
  refine h.jB hi (Nat.le_refl _) (Nat.le_refl _) (h.rn _ hi) (X.iU _ _ rfl (λhi=>X.pe _ hi)) (h.drop _ hi) (hf.iU _ _ (λ_=>Nat.zero_le _)) (λp V Y=> ?_);exact j5.iU _ _ _ p (λe=>Y c d hc hd (by rw[e])) (h.idle _ p hi V Y)
 refine U.lq (λ_=> ?_) (λ_ d' Z=> ?_)
 ·unfold qA.put;split<;>rfl
 ·unfold qA.put;split
  ·rename_i hx
   show(jU (y.C c).on d _ d').length<=2000;by_cases e:d'=d
   ·subst e;rw[iE,aA];exact hx.2
   ·rw[iC _ _ e];exact h.ol c d' hc Z
  ·exact h.ol c d' hc Z
theorem mW(y:iP)(c d:Nat):(y.kZ c d).n=y.n/\(y.kZ c d).nc=y.nc/\(y.kZ c d).ms=y.ms/\(y.kZ c d).j8=y.j8/\∀x,((y.kZ c d).C x).e=(y.C x).e/\((y.kZ c d).C x).iQ=(y.C x).iQ:=by
 refine⟨rfl,rfl,rfl,rfl,λx=> ?_⟩;show(if x=c then(y.C c).put d _ else y.C x).e=_/\(if x=c then(y.C c).put d _ else y.C x).iQ=_;by_cases e:x=c
 ·rw[ai e];subst e;unfold qA.put;split<;>exact⟨rfl,rfl⟩
 ·rw[af e];exact⟨rfl,rfl⟩
theorem j4(y:iP):∀k,(y.j2 k).n=y.n/\(y.j2 k).nc=y.nc/\(y.j2 k).ms=y.ms/\(y.j2 k).j8=y.j8/\∀x,((y.j2 k).C x).e=(y.C x).e/\((y.j2 k).C x).iQ=(y.C x).iQ
 |0=>⟨rfl,rfl,rfl,rfl,λ_=>⟨rfl,rfl⟩⟩
 |k+1=>by
  obtain⟨X,T,V,U,Y⟩:=j4 y k;obtain⟨b1,b2,b3,b4,b5⟩:=mW (y.j2 k) k 0;obtain⟨c1,c2,c3,c4,Z⟩:=mW ((y.j2 k).kZ k 0) k 1;exact⟨c1.trans (b1.trans X),c2.trans (b2.trans T),c3.trans (b3.trans V),c4.trans (b4.trans U),λx=>⟨(Z x).1.trans ((b5 x).1.trans (Y x).1),(Z x).2.trans ((b5 x).2.trans (Y x).2)⟩⟩
theorem j3.j2 {y:iP} {D k:Nat} (h:j3 y D k)(Z:D<=1000000000000000):∀q,q<=y.nc->j3 (y.j2 q) D k
 |0,_=>h
 |q+1,hq=>by
  have X:=j3.j2 h Z q eh;have Y:(y.j2 q).nc=y.nc:=(j4 y q).2.1;have V:=X.kZ Z (c:=q) (d:=0) (by rw[Y];omega) eh;exact V.kZ Z (c:=q) (d:=1) (by show q<(y.j2 q).nc;rw[Y];omega) eh
theorem Bh(y:iP)(c d i p:Nat):((y.kZ c d).R i).P p=if(y.C c).e d=(i,p)then {(y.R i).P p with out:=[] }else(y.R i).P p:=by
 show((jU y.R ((y.C c).e d).1 ((y.R ((y.C c).e d).1).out ((y.C c).e d).2)) i).P p=_;by_cases e:i=((y.C c).e d).1
 ·rw[e,iE];show la _ ((y.C c).e d).2 _ p=_;by_cases Z:p=((y.C c).e d).2
  ·rw[Z,jy,ai rfl]
  ·rw[jq _ _ Z,af (λh=>Z (by rw[h]))]
 ·rw[iC _ _ e,af (λh=>e (by rw[h]))]
theorem wG(c d i p:Nat)(h:(y.C c).e d=(i,p) \/((y.R i).P p).out=[]):(((y.kZ c d).R i).P p).out=[] :=by
 rw[Bh];rcases h with h|h
 ·rw[ai h]
 ·split
  ·rfl
  ·exact h
theorem ES {y:iP} (i p:Nat):∀q,((y.R i).P p).out=[] \/(∃c d,c<q/\d<2/\(y.C c).e d=(i,p))->(((y.j2 q).R i).P p).out=[]
 |0,h=>by
  rcases h with h|⟨c,_,hc,_⟩
  ·exact h
  ·omega
 |q+1,h=>by
  have hs:=j4 y q;have U:=mW (y.j2 q) q 0;by_cases Z:((y.R i).P p).out=[] \/(∃c d,c<q/\d<2/\(y.C c).e d=(i,p))
  ·have ih:=ES i p q Z;exact wG _ _ _ _ (.inr (wG _ _ _ _ (.inr ih)))
  ·rcases h with h|⟨c,d,hc,hd,Y⟩
   ·exact absurd (.inl h) Z
   ·have X:c=q:=by
     rcases Nat.lt_or_ge c q with V|V
     ·exact absurd (.inr ⟨c,d,V,hd,Y⟩) Z
     ·omega
    subst X;have T:d=0 \/d=1:=eh;rcases T with rfl|rfl
    ·exact wG _ _ _ _ (.inr (wG _ _ _ _ (.inl ((hs.2.2.2.2 c).1▸Y))))
    ·refine wG _ _ _ _ (.inl ?_);rw[(U.2.2.2.2 c).1,(hs.2.2.2.2 c).1];exact Y
theorem j3.outs(h:j3 y D k)(hi:i<y.n)(Z:p<3):(((y.j2 y.nc).R i).P p).out=[] :=by
 by_cases hx:∃c d,c<y.nc/\d<2/\(y.C c).e d=(i,p)
 ·exact ES i p _ (.inr hx)
 ·exact ES i p _ (.inl (h.idle i p hi Z (λc d hc hd e=>hx ⟨c,d,hc,hd,e⟩)).out)
theorem nY(y:iP):∀k,(y.mZ k).n=y.n/\(y.mZ k).nc=y.nc/\(y.mZ k).ms=y.ms/\(y.mZ k).C=y.C
 |0=>⟨rfl,rfl,rfl,rfl⟩
 |k+1=>nY y k
theorem wH(y:iP)(i:Nat):∀k,(y.mZ k).R i=(if i<k then {y.R i with j8:=[] }else y.R i)/\(y.mZ k).j8 i=if i<k then y.j8 i++(y.R i).j8 else y.j8 i
 |0=>by simp[iP.mZ]
 |k+1=>by
  obtain⟨V,X⟩:=wH y i k;show jU (y.mZ k).R k {(y.mZ k).R k with j8:=[] } i=_/\jU (y.mZ k).j8 k ((y.mZ k).j8 k++((y.mZ k).R k).j8) i=_;by_cases e:i=k
  ·subst e;rw[iE,iE,V,X,af (Nat.lt_irrefl i),af (Nat.lt_irrefl i),ai (Nat.lt_succ_self i),ai (Nat.lt_succ_self i)];exact⟨rfl,rfl⟩
  ·rw[iC _ _ e,iC _ _ e,V,X];by_cases Y:i<k
   ·have Z:i<k+1:=eh;rw[ai Y,ai Z,ai Y,ai Z];exact⟨rfl,rfl⟩
   ·have Z:¬i<k+1:=eh;rw[af Y,af Z,af Y,af Z];exact⟨rfl,rfl⟩
theorem j3.mZ {y:iP} {D k:Nat} (h:j3 y D k)(q:Nat):j3 (y.mZ q) (D+k) k:=by
 obtain⟨Z,V,J,U⟩:=nY y q;have Y:∀i,((y.mZ q).R i).n=(y.R i).n/\((y.mZ q).R i).id=(y.R i).id/\((y.mZ q).R i).P=(y.R i).P/\((y.mZ q).R i).drop=(y.R i).drop/\((y.mZ q).R i).K=(y.R i).K/\((y.mZ q).R i).j8.length<=(y.R i).j8.length:=λi=>by
  rw[(wH y i q).1];split
  ·exact⟨rfl,rfl,rfl,rfl,rfl,Nat.zero_le _⟩
  ·exact⟨rfl,rfl,rfl,rfl,rfl,Nat.le_refl _⟩
 refine⟨by rw[Z];exact h.n1,by rw[Z];exact h.n6,by rw[V];exact h.c9,λc d hc hd=> ?_,λc d c' d' hc hd Q M=> ?_,λi p hi S=> ?_,λi hi=> ?_,λi hi=> ?_,λi hi=> ?_,λc d hc hd=> ?_,λi hi=> ?_,λi p hi S H=> ?_,λi hi=> ?_⟩
 ·rw[U,Z];rw[V]at hc;exact h.en c d hc hd
 ·rw[U];rw[V]at hc Q;exact h.ds c d c' d' hc hd Q M
 ·rw[J];rw[Z]at hi;exact h.ms i p hi S
 ·rw[Z]at hi;rw[(Y i).1,(Y i).2.1];exact h.rn i hi
 ·rw[Z]at hi;have X:=h.ok i hi;rw[(wH y i q).1];split
  ·exact⟨X.id,X.m,X.pe,X.own,X.Po⟩
  ·exact X
 ·rw[Z]at hi;rw[(Y i).2.2.2.1];have:=h.drop i hi;omega
 ·rw[U];rw[V]at hc;exact h.ol c d hc hd
 ·rw[Z]at hi;rw[(wH y i q).2];have T:=h.ib i hi;have h2:=(h.fit i hi).1;split
  ·rw[aA];omega
  ·omega
 ·rw[Z]at hi;rw[(Y i).2.2.1];exact h.idle i p hi S (λc d hc hd=>by have:=H c d (by rw[V];exact hc) hd;rwa [U]at this)
 ·rw[Z]at hi;have T:=h.fit i hi;rw[(Y i).2.2.1];exact⟨Nat.le_trans (Y i).2.2.2.2.2 T.1,T.2⟩
theorem j3.gather {y:iP} {D k:Nat} (h:j3 y D k)(V:D<=1000000000000000):j3 y.gather (D+k) 0:=by
 unfold iP.gather;obtain⟨s1,s2,s3,s4,s5⟩:=j4 y y.nc;have X:=h.j2 V y.nc (Nat.le_refl _);have Z:=X.mZ y.n;obtain⟨U,e2,e3,e4⟩:=nY (y.j2 y.nc) y.n;refine⟨Z.n1,Z.n6,Z.c9,Z.en,Z.ds,Z.ms,Z.rn,Z.ok,Z.drop,Z.ol,Z.ib,Z.idle,λi hi=> ?_⟩;have Y:i<y.n:=by rw[U,s1]at hi;exact hi
 rw[(wH (y.j2 y.nc) i y.n).1,ai Y];refine⟨Nat.le_refl _,λp T=> ?_⟩;show(((y.j2 y.nc).R i).P p).out.length<=_;rw[h.outs Y T];exact Nat.zero_le _
theorem lP(y:iP):y.gather.n=y.n/\y.gather.nc=y.nc/\y.gather.ms=y.ms/\∀x,(y.gather.C x).e=(y.C x).e/\(y.gather.C x).iQ=(y.C x).iQ:=by
 unfold iP.gather;obtain⟨s1,V,X,s4,Y⟩:=j4 y y.nc;obtain⟨U,T,Z,S⟩:=nY (y.j2 y.nc) y.n;exact⟨U.trans s1,T.trans V,Z.trans X,λx=>by rw[S];exact Y x⟩
theorem j3.jZ {y:iP} {D k:Nat} (h:j3 y D k)(Z:D<=1000000000000000) {c:Nat} (hc:c<y.nc)(up:Bool):j3 (y.jZ c up) D (k+2):=by
 unfold iP.jZ;have Y:j3 (y.lq c {y.C c with iQ:=up,on:=λ_=>[] }) D k:=h.lq (λ_=>rfl) (λ_ _ _=>Nat.zero_le _);exact(Y.VE Z (c:=c) (d:=0) hc eh up).VE Z (c:=c) (d:=1) hc eh up
theorem pD(y:iP)(c:Nat)(up:Bool):(y.jZ c up).n=y.n/\(y.jZ c up).nc=y.nc/\(y.jZ c up).ms=y.ms/\(y.jZ c up).j8=y.j8/\∀x,((y.jZ c up).C x).e=(y.C x).e/\((y.jZ c up).C x).iQ=if x=c then up else(y.C x).iQ:=by
 refine⟨rfl,rfl,rfl,rfl,λx=> ?_⟩;show(if x=c then({y.C c with iQ:=up,on:=λ_=>[] }:qA)else y.C x).e=_/\(if x=c then({y.C c with iQ:=up,on:=λ_=>[] }:qA)else y.C x).iQ=_;by_cases e:x=c
 ·rw[ai e,ai e];subst e;exact⟨rfl,rfl⟩
 ·rw[af e,af e];exact⟨rfl,rfl⟩
theorem j3.jL {D:Nat} (Z:D<=1000000000000000)(up:Bool):∀(l:List Nat) {y:iP} {k:Nat},j3 y D k->(∀c∈l,c<y.nc)->j3 (y.jL up l) D (k+2*l.length)
 |[],_,_,h,_=>h
 |c::l,y,k,h,hl=>by
  have Y:=h.jZ Z (hl c gY) up;have:=j3.jL Z up l Y (λx hx=>hl x (by simp[hx]));exact this.mono (Nat.le_refl _) (by simp;omega)
theorem nj(up:Bool):∀(l:List Nat) (y:iP),(y.jL up l).n=y.n/\(y.jL up l).nc=y.nc/\(y.jL up l).ms=y.ms/\(y.jL up l).j8=y.j8/\∀x,((y.jL up l).C x).e=(y.C x).e
 |[],y=>⟨rfl,rfl,rfl,rfl,λ_=>rfl⟩
 |c::l,y=>by
  obtain⟨Y,X,Z,Q,T⟩:=nj up l (y.jZ c up);obtain⟨g1,U,M,S,V⟩:=pD y c up;exact⟨Y.trans g1,X.trans U,Z.trans M,Q.trans S,λx=>(T x).trans (V x).1⟩
theorem j3.iL {y:iP} {D:Nat} (h:j3 y D 0)(Z:D<=1000000000000000)(i:Int)(up:Bool):j3 (y.iL i up).1 (D+2) 0:=by
 unfold iP.iL;split
 ·exact h.mono eh (Nat.le_refl _)
 ·split
  ·exact h.mono eh (Nat.le_refl _)
  ·exact(h.jZ Z eh up).gather Z
theorem j3.tick {y:iP} {D:Nat} (h:j3 y D 0)(Z:D<=1000000000000000)(i:Int):j3 (y.tick i).1 (D+6) 0:=by
 unfold iP.tick;split
 ·exact h.mono eh (Nat.le_refl _)
 ·exact(h.jb Z eh).gather Z
theorem j3.jo {y:iP} {D k:Nat} (h:j3 y D k)(V:D<=1000000000000000) {c d q:Nat} (hc:c<y.nc)(hd:d<2):j3 (y.jo c d q) (D+2000) (k+4000):=by
 have hl:((y.C c).on d).length<=2000:=h.ol c d hc hd;unfold iP.jo;have Y:j3 (y.lq c {y.C c with on:=jU (y.C c).on d (((y.C c).on d).drop q)}) D k:=h.lq (λ_=>rfl) (λ_ d' X=>by
  show(jU (y.C c).on d _ d').length<=_;by_cases e:d'=d
  ·subst e;rw[iE,dH];omega
  ·rw[iC _ _ e];exact h.ol c d' hc X)
 have Z:=Y.af8 V (c:=c) (d:=1-d) hc eh (((y.C c).on d).take q) (by rw[List.length_take];omega);have e:((y.lq c {y.C c with on:=jU (y.C c).on d (((y.C c).on d).drop q)}).C c).e=(y.C c).e:=by
  show(if c=c then _ else y.C c).e=_;rw[ai rfl]
 rw[e]at Z;exact Z
theorem j3.deliver {y:iP} {D:Nat} (h:j3 y D 0)(hD:D<=100000000000000)(i d many:Int):j3 (y.deliver i d many).1 (D+6000) 0:=by
 unfold iP.deliver;split
 ·exact h.mono eh (Nat.le_refl _)
 ·exact((h.jo eh eh eh).gather eh).mono eh (Nat.le_refl _)
theorem Bi:∀c∈y.lA k,c<y.nc:=λc hc=>by
 unfold iP.lA at hc;exact aQ.1 (List.mem_filter.1 hc).1
theorem yP(y:iP)(k:Nat):(y.lA k).length<=y.nc:=by
 unfold iP.lA;have:=cJ (λc=>(y.C c).iQ&& (((y.C c).e 0).1==k||((y.C c).e 1).1==k)) (List.range y.nc);simpa using this
theorem j3.anew(h:j3 y D k)(i:Nat)(hi:i<y.n):j3 (y.jB i (jN ((i:Int)+1) 3 (y.ms i))) D k:=
 h.jB hi (Nat.le_refl _) (Nat.le_refl _) ⟨rfl,rfl⟩ (zQ (by have:=h.n6;omega) (λp Z=>h.ms i p hi Z)) ⟨Int.le_refl _,by show(0:Int)<=_;omega⟩ (RJ k) (λp _ _=>qL _ _ p)
theorem j3.restart {y:iP} {D:Nat} (h:j3 y D 0)(Z:D<=1000000000000000)(i:Int):j3 (y.restart i).1 (D+36) 0:=by
 unfold iP.restart;split
 ·exact h.mono eh (Nat.le_refl _)
 ·have hl:=yP y (i-1).toNat;have h9:=h.c9;have V:=j3.jL Z false (y.lA (i-1).toNat) h Bi;obtain⟨s1,T,U,s4,s5⟩:=nj false (y.lA (i-1).toNat) y;have Y:=V.anew (i-1).toNat (by rw[s1];omega);have e:(((i-1).toNat:Nat):Int)+1=i:=eh;rw[e,U]at Y;have X:=j3.jL Z true (y.lA (i-1).toNat) Y (λc hc=>by
   show c<(y.jL false (y.lA (i-1).toNat)).nc;rw[T];exact Bi c hc)
  exact(X.gather Z).mono eh (Nat.le_refl _)
theorem j3.send {y:iP} {D:Nat} (h:j3 y D 0)(hD:D<=100000000000000)(f t:Int)(tx:List UInt8):j3 (y.send f t tx).1 (D+2) 0:=by
 unfold iP.send;split
 ·exact h.mono eh (Nat.le_refl _)
 ·split
  ·exact h.mono eh (Nat.le_refl _)
  ·exact(h.VF eh eh t tx).gather eh
