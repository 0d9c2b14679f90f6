import Derived.Test.YtieklnlbljejdaaGreatDoorQ11
open Go.Value renaming int → ι, slice → σ, pointer → π, tuple → τ, nilIface → η
open Go.IntKind renaming i64 → κ
open Go.Ending renaming returned → ρ
open Go.Obj renaming cells → γ
open Option renaming none → ν, some → μ
open Go renaming World → dR, Calls → eT, Value → dT
open Go.Proofs.Tryz renaming prog → eU
open Go.Value renaming ownBlock → dV
open Array renaming size_setIfInBounds → gE, length_toList → gF
open Go.RowKit renaming intOf → eV
open Go.Instr renaming loadAt → fH
open Go.Act renaming put → gj
open List renaming setIfInBounds_toArray → gk, set_cons_zero → gp, set_cons_succ → gq
set_option maxRecDepth 100000
set_option maxHeartbeats 4000000
open Go.Proofs.Tryz
namespace Go.Proofs.YtieklnlbljejdaaGreatDoor
open Go.RowKit St
namespace Rt
variable {B:Nat->Nat} {Bb D RR c d g i k k' n p:Nat} {id:Int} {m:FM} {ms:Nat->Int} {r r':iE} {v:Value} {wb:World} {y:iI}
theorem xZ(p:jl)(up:Bool):((p.iD up).1.m=p.m/\(p.iD up).1.pe=p.pe)/\((p.iD up).2≠0->(p.iD up).1=p):=by
 unfold jl.iD;generalize kL p.L (if up=true then 0 else 1)=e;simp only;by_cases h:e.2.2=0
 ·rw[ae (by simp[h])];exact⟨vN _ _,λe=>absurd rfl e⟩
 ·rw[ag h];exact⟨⟨rfl,rfl⟩,λ_=>rfl⟩
theorem PW(z:Zt)(r:iE)(k:Nat)(t:Int)(tx:ByteArray)(w:dR)(h:lJ w z r)(Y:kU r)(hf:Fit r k)(Q:k<=100000):
 eT eU 27 #[π (μ ⟨z.R,0,ν⟩),ι κ t,.string tx] w λe w'=>e=ρ (jb (j2 r t tx.data.toList).2)/\iw w w' z (j2 r t tx.data.toList).1 r.n:=by
 have hl:tx.data.toList.length=tx.size:=gO;by_cases U:t<1
 ·have Z:j2 r t tx.data.toList=(r,1):=by unfold j2;rw[ag (.inl U)]
  rw[Z];have X:Hid _:=iw.refl h;clear h Y hf
  go_in
  go_wp2
  go_ret;exact⟨rfl,X.out⟩
 ·by_cases V:6<t
  ·have Z:j2 r t tx.data.toList=(r,1):=by unfold j2;rw[ag (.inr (.inl V))]
   rw[Z];have X:Hid _:=iw.refl h;clear h Y hf
   go_in
   go_wp2
   go_ret;exact⟨rfl,X.out⟩
  ·by_cases h3:(20:Int)<(tx.size:Int)
   ·have Z:j2 r t tx.data.toList=(r,1):=by unfold j2;rw[ag (.inr (.inr dU))]
    rw[Z];have X:Hid _:=iw.refl h;clear h Y hf
    go_in
    go_wp2
    go_ret;exact⟨rfl,X.out⟩
   ·have Z:j2 r t tx.data.toList=(r.send (t,8,tx.data.toList),0):=by unfold j2;rw[ae dU]
    rw[Z];have hs:=DK z r k t 8 tx w h Y hf Q dU dU dU;clear h Y hf
    go_in
    go_wp2_with(fail);refine hs.mono ?_;rintro e w1 ⟨rfl,T⟩;clear hs
    go_wp2
    go_ret;exact⟨rfl,T⟩
theorem PX(up:Bool)(z:Zt)(r:iE)(i k:Nat)(w:dR)(h:lJ w z r)(DL:iV w)(M:kU r)(hf:Fit r k)(hk:k<=100000)(hi:i<r.n):
 eT eU 20 #[π (μ ⟨z.R,0,ν⟩),ι κ (i:Int),.bool up] w λe w'=>e=ρ (jb (r.iD i up).2)/\iw w w' z (r.iD i up).1 r.n:=by
 have hh:=vF z r i w h;rw[tJ hi]at hh;have kB:(i:Int)<(r.n:Int):=dU;have KU:(0:Int)<=(i:Int):=dU;have c1:=h.c1;have cl:=h.lt;have gl:=h.FQ;have Z:=Pp up z.g (i*71) (z.B i) (z.v i) (r.P i) w (h.pt i hi) DL (by have:=hf.out i hi;omega);have X:r.iD i up=if((r.P i).iD up).2≠0 then(r,((r.P i).iD up).2)else((r.iK i ((r.P i).iD up).1).meet i nobody,0):=rfl
 have Y:=(xZ (r.P i) up).1;have J:=(xZ (r.P i) up).2;have uJ:r.iK i (r.P i)=r:=by
  have:kR r.P i (r.P i)=r.P:=by
   funext x
   unfold kR;by_cases e:x=i
   ·simp[e]
   ·simp[e]
  show({r with P:=kR r.P i (r.P i)}:iE)=r;rw[this]
 obtain⟨j,u⟩:=fW (((r.P i).iD up).1);obtain⟨f,U⟩:=fW (((r.P i).iD up).2);rw[u,U]at Z X;rw[u]at Y J;rw[U]at J;have G:Hid _:=h;have H:Hid (kU (r.iK i j)):=M.iK i _ Y.1 (λhi=>by rw[Y.2];exact M.pe i hi);clear h M hf DL;by_cases Q:f=0
 ·subst Q;rw[ae gO]at X;rw[X];have e0:jb 0=η:=rfl;rw[e0]at Z⊢
  go_in
  go_wp2_with(fail);refine hh.mono ?_;rintro e w0 ⟨rfl,rfl⟩;clear hh;go_wp2_with(fail);refine Z.mono ?_;rintro e w1 ⟨rfl,T⟩;have V:=G.out.port hi T;have A:eT eU 74 #[π (μ ⟨z.R,0,ν⟩),ι κ (i:Int),.agg #[ι κ 0,.bool false,ι κ 0]] w1 λe w'=>e=ρ (τ #[])/\iw w w' z ((r.iK i j).meet i nobody) r.n:=by
   refine V.call λz1 R1 hl=> ?_;rw[<-hl.R];exact vJ z1 _ i nobody w1 R1 H.out hi (nQ.nobody H.out.id.1)
  clear Z T V;go_wp2_with(fail);refine A.mono ?_;rintro e w2 ⟨rfl,uV⟩;clear A
  go_wp2
  go_ret;exact⟨rfl,uV⟩
 ·rw[ag Q]at X;rw[X];have hb:=J Q;have ee:jb f=.iface 128 (ι κ (f:Int)):=by simp only[jb];rw[ae Q]
  rw[ee]at Z⊢
  go_in
  go_wp2_with(fail);refine hh.mono ?_;rintro e w0 ⟨rfl,rfl⟩;clear hh;go_wp2_with(fail);refine Z.mono ?_;rintro e w1 ⟨rfl,T⟩;have V:=G.out.port hi T;rw[hb,uJ]at V;clear Z T
  go_wp2
  go_ret;exact⟨rfl,V⟩
theorem PY(z:Zt)(r:iE)(w:dR)(h:lJ w z r):
 eT eU 32 #[π (μ ⟨z.R,0,ν⟩)] w λe w'=>e=ρ z.iv/\Row w' 3 z.iv r.jZ.length (qS r.jZ)/\iw w w' z {r with jZ:=[] } r.n:=by
 have c3:=h.c3;have cl:=h.lt;have f3:=h.nN.frozen 3;have Z:Hid _:=h;clear h
 go_in
 go_wp2
 go_ret;refine⟨rfl,Z.out.ib.keep gO (λk Y=>aq _ _ _ k (by show k≠z.R;exact(Z.out.sI k Y).1)),?_⟩;exact Z.out.own (σ ν 0 0) [] r.drop gO rfl rfl rfl (λk _ X _=>aq _ _ _ k X) (Z.out.nN.set 3 _) (Row.nil _ 3) (λk Y=>by simp[dV]at Y)
theorem TQ(z:Zt)(r:iE)(i:Nat)(w:dR)(h:lJ w z r)(hi:i<r.n):
 eT eU 29 #[π (μ ⟨z.R,0,ν⟩),ι κ (i:Int)] w λe w'=>e=ρ (τ #[.string ⟨(r.P i).out.toArray⟩,η])/\iw w w' z (r.out i) r.n:=by
 have hh:=vF z r i w h;rw[tJ hi]at hh;have kB:(i:Int)<(r.n:Int):=dU;have KU:(0:Int)<=(i:Int):=dU;have c1:=h.c1;have cl:=h.lt;have gl:=h.FQ;have Z:=h.pt i hi;have X:=Z.ZS;have f70:=Z.fz 70 dX;have V:=Row.back Z.ou 140 9 5 underlying140 underlying5 underlying9;have U:ll w (w.setCell ⟨z.g,i*71+70,ν⟩ (σ ν 0 0)) z.g (i*71) (z.B i) (z.v i) {r.P i with out:=[] }:=by
  obtain⟨F,hC,hF⟩:=Z.wC;have Y:=(kS.refl w z.g (i*71) 71).set (i*71+70) dU dU (σ ν 0 0);refine⟨⟨σ ν 0 0,⟨⟨F,(hC.set 70 dX (σ ν 0 0)).congr (NH (r.P i) (z.B i) (z.v i) (σ ν 0 0) F []),hF⟩,Z.lk.keep (Y.block _ Z.lk.lt (λe=>Z.gB e.symm)),Row.nil _ 1,gO,Z.ok,Z.gB,by simp[dV],by simp[dV],⟨Z.nz.1,Z.nz.2.1,by simp[dV]⟩⟩,λk Y=>by simp[dV]at Y⟩,⟨Y.os,Y.tape,Y.output,Y.size,λj M T _ _=>Y.block j M T,Y.cell,Y.fz⟩⟩
 have Q:Hid (iw w (w.setCell ⟨z.g,i*71+70,ν⟩ (σ ν 0 0)) z (r.out i) r.n):=h.port hi U;generalize (r.P i).out=L at V⊢;generalize z.v i=v at X V;clear h Z U
 go_in
 go_wp2_with(fail);refine hh.mono ?_;rintro e w0 ⟨rfl,rfl⟩;clear hh
 go_wp2
 go_ret2
 exact⟨rfl,Q.out⟩
def Ah(m mg:Int):jl:=⟨m,⟨255,mg,255,mg,0,0,1,255,0,0,0⟩,([],false,false),nobody,[]⟩
theorem JY(m mg:Int)(w:dR)(hT:iV w)(hm:1<=m/\m<=20)(hg:1<=mg/\mg<=255):
 eT eU 68 #[ι κ m,ι κ mg] w λe w'=>∃B,e=ρ (τ #[.agg (rowOf 71 (wB (Ah m mg) B (σ ν 0 0) LY)),η])/\Lk w' B ((Ah m mg).L.c (σ ν 0 0))/\w.heap.size<B/\eh w w':=by
 have hz:=Md;have qX:=Me;obtain⟨Z,u⟩:=fW (rowOf 71 Z4);have J:Z.size=71:=by rw[<-u];exact lU _ _
 rw[u]at hz;have aih:¬Z= #[] :=λe=>by rw[e]at J;simp at J
 have ba:=gN w (γ Z 142);have h:jc (w.alloc (γ Z 142)) w.heap.size Z 142:=jc.new w _ _;have XQ:=hT.below ba;have U:=Wl 255 mg (w.alloc (γ Z 142)) dU dU dU dU;obtain⟨W0,mT⟩:=fW (w.alloc (γ Z 142));obtain⟨N,hN⟩:=fW (w.heap.size);have hNs:N<W0.heap.size:=by rw[<-mT,<-hN];simp
 rw[mT]at ba h U XQ;rw[hN]at h;have g1:¬m<1:=dU;have g2:¬20<m:=dU;have Cq:Hid _:=mT;have HN:Hid _:=hN;have HB0:Hid _:=h;have HZ:Hid _:=u;clear mT hN h u
 go_in
 go_wp2_with(fail);rw[Cq.out,HN.out];refine U.mono ?_;rintro e w1 ⟨B,rfl,hL,hBg,b1⟩;have Yp:=SP B 255 mg 255 mg 0 0 255 0 0 0 (σ ν 0 0) w1 (XQ.below b1) hL;clear U hL;go_wp2_with(fail);refine Yp.mono ?_;rintro e T ⟨rfl,Q,X⟩;obtain⟨D,hD⟩:=fW ((Z.setIfInBounds 0 (Value.int .i64 m)).setIfInBounds 1 (Value.pointer (μ ⟨B,0,ν⟩)));have H:D.size=71:=by rw[<-hD];simp[J]
 have G:Hid (D=rowOf 71 (wB (Ah m mg) B (σ ν 0 0) LY)):=by
  show _=_;rw[<-hD,<-HZ.out];apply bS;intro j;by_cases M:j<71
  ·rw[rO 71 _ j M,bn,bn,rO 71 _ j M];simp only[gE,lU];by_cases e1:j=1
   ·subst e1;simp[wB]
   ·by_cases e0:j=0
    ·subst e0;simp[wB,Ah]
    ·rw[ae (λe=>e1 e.symm),ae (λe=>e0 e.symm)];congr 1;unfold Z4 wB;simp only[e0,e1,if_false];rfl
  ·rw[a8 (by simp[lU];omega),a8 (by rw[lU];omega)]
 have oI:D.all (·.oneCell')=true:=by rw[G.out];exact Hm Cj.zero rfl
 have A:N≠B:=dU;have V:jc T N Z 142:=by
  have Y:=jc.below HB0.out b1;exact Y.keep (X.block N Y.lt (λe=>A (Option.some.inj e)))
 have hR:jc (T.setRow N D) N D 142:=V.setRow;have Vt:Lk (T.setRow N D) B ((Ah m mg).L.c (σ ν 0 0)):=Q.keep (by simp only[World.setRow];rw[cC,ae A]);have l6:=bL (P:=eU) (T.setRow N D) N 142 142 D (0,0) _ hR underlying142 rfl (by rw[H];exact qX);have iG:Hid (eh w (T.setRow N D)):=by
  have Y:=fY ba b1;have h2:eh w T:=⟨X.os.trans Y.os,X.tape.trans Y.tape,X.output.trans Y.output,Nat.le_trans Y.size X.size,λj M=>(X.block j (Nat.lt_of_lt_of_le M Y.size) (λe=>by have e2:j=B:=Option.some.inj e;have:=HN.out;omega)).trans (Y.block j M)⟩
  exact Go.Proofs.YtieklnlbljejdaaGreatDoor.oe h2 (by have:=HN.out;omega) D
 have HL3:Hid _:=Vt;clear Yp Q X Vt hR;go_wp2_with(first
  |(rw[hD];refine nO _ rfl (.tmp 4) (.tmp 29) 142 rfl rfl N Z D rfl rfl V (by rw[J,H]) (by rw[H];exact qX) oI ?_)
  |(refine nO _ rfl (.tmp 4) (.tmp 29) 142 rfl rfl N Z D rfl rfl V (by rw[J,H]) (by rw[H];exact qX) oI ?_))
 refine aE (v:=τ #[.agg D,η]) (by simp[results,results68,asAddr,l6]) rfl ?_;exact⟨B,by rw[G.out],HL3.out,by have:=HN.out;omega,iG.out⟩
theorem yZ:∀(l:List dT) (k:Nat) (base:Array dT) (j:Nat),k+l.length<=base.size->((l.zipIdx k).foldl (λcs (x:dT×Nat)=>cs.setIfInBounds x.2 x.1) base)[j]? =if k<=j/\j<k+l.length then l[j-k]? else base[j]?
 |[],k,base,j,_=>by
  rw[ae gO];rfl
 |x::l,k,base,j,h=>by
  have X:k+1+l.length<=base.size:=by simp at h;omega
  rw[List.zipIdx_cons,bO,yZ l (k+1) (base.setIfInBounds k x) j (by rw[gE];exact X)];by_cases Y:k+1<=j/\j<k+1+l.length
  ·rw[ag Y,ag (by simp;omega),show j-k=(j-(k+1))+1 by omega,List.getElem?_cons_succ]
  ·rw[ae Y,bn];by_cases Z:k=j
   ·subst Z;rw[ag rfl,ag dU,ag gO];simp
   ·rw[ae Z,ae (by simp;omega)]
theorem DQ(D base:Array dT)(h:base.size=D.size)(n:Nat)(Z:D.size=n):Array.foldl (λcs (x:dT×Nat)=>cs.setIfInBounds x.2 x.1) base D.zipIdx 0 n=D:=by
 have hs:D.zipIdx.size=n:=by rw[Array.size_zipIdx,Z]
 rw[<-hs,<-Array.foldl_toList,Array.toList_zipIdx];apply bS;intro j;rw[yZ D.toList 0 base j (by simp;omega)];by_cases hj:j<D.size
 ·rw[ag (by simp;omega)];simp
 ·rw[ae (by simp;omega),a8 dU,a8 dU]
theorem TR:(eU.info? 142).map (λi=>(i.zero,i.size,i.bytes))=μ (μ (.agg (rowOf 71 Z4)),71,144):=gL
def x5(id:Int)(ms:Nat->Int)(B:Nat->Nat):Nat->List dT
 |0=>[]
 |q+1=>x5 id ms B q++(rowOf 71 (wB (Ah (ms q) (8*id+q+1)) (B q) (.slice none 0 0) LY)).toList
theorem vP(id:Int)(ms:Nat->Int)(B:Nat->Nat):∀q,(x5 id ms B q).length=q*71
 |0=>rfl
 |q+1=>by
  unfold x5;rw[az,vP id ms B q,gF,lU];omega
theorem NU(id:Int)(ms:Nat->Int)(B:Nat->Nat):∀(q i j:Nat),i<q->j<71->(x5 id ms B q)[i*71+j]? =μ (wB (Ah (ms i) (8*id+i+1)) (B i) (σ ν 0 0) LY j)
 |0,i,j,h,_=>dU
 |q+1,i,j,h,hj=>by
  unfold x5;have hl:=vP id ms B q;by_cases e:i=q
  ·subst e;rw[bw dU,hl,show i*71+j-i*71=j by omega];simpa using rO 71 (wB (Ah (ms i) (8*id+i+1)) (B i) (σ ν 0 0) LY) j hj
  ·rw[bJ dU];exact NU id ms B q i j dU hj
structure Making(wb W:dR)(id:Int)(ms:Nat->Int)(q R Bb:Nat)(B:Nat->Nat)(v:dT):Prop where
 nN:jc W R #[ι κ id,v,π (μ ⟨Bb,0,ν⟩),σ ν 0 0,ι κ 0] 135
 row:Row W 71 v q (x5 id ms B q)
 lk:∀i,i<q->Lk W (B i) ((Ah (ms i) (8*id+i+1)).L.c (σ ν 0 0))
 ny:eh wb W
 gR:wb.heap.size<=R
 gB:∀i,i<q->wb.heap.size<=B i/\B i≠R/\v.ownBlock≠μ (B i)
 gV:∀k,v.ownBlock=μ k->wb.heap.size<=k/\k≠R
 dis:∀i j,i<q->j<q->i≠j->B i≠B j
theorem Making.below {wb W W':dR} {id:Int} {ms:Nat->Int} {q R Bb:Nat} {B:Nat->Nat} {v:dT} (h:Making wb W id ms q R Bb B v)(hb:eh W W'):Making wb W' id ms q R Bb B v:=
 ⟨h.nN.below hb,h.row.below hb,λi hi=>(h.lk i hi).below hb,fY h.ny hb,h.gR,h.gB,h.gV,h.dis⟩
theorem DR(id:Int)(ms:Nat->Int)(B B':Nat->Nat):∀q,(∀i,i<q->B i=B' i)->x5 id ms B q=x5 id ms B' q
 |0,_=>rfl
 |q+1,h=>by
  unfold x5;rw[DR id ms B B' q (λi hi=>h i dU),h q dU]
theorem DS(w:dR)(D:Array dT)(t:TypeId)(g:Nat)(Y:w.heap.size=g):∀(j:Nat) (u:dT),D.toList[j]? =μ u->(w.alloc (γ D t)).drew.cell? ((⟨g,0,ν⟩:Addr).add j)=μ u:=by
 subst Y;intro j u Z;rw[add_plain];show(w.alloc (γ D t)).cell? _=_;rw[aj];simpa using Z
theorem Making.add {W2 x1:dR} {q:Nat} {B' g' jn:Nat} {D:Array dT} {o:Obj} (h:Making wb W2 id ms q RR Bb B v)(hD:rowOf 71 (wB (Ah (ms q) (8*id+q+1)) B' (σ ν 0 0) LY)=D)
 (J:Lk W2 B' ((Ah (ms q) (8*id+q+1)).L.c (σ ν 0 0))) (wQ:wb.heap.size<=B') (EG:B'≠RR) (u:v.ownBlock≠μ B') (K0:∀i,i<q->B i≠B')
 (hr:Row x1 71 (σ (μ ⟨g',0,ν⟩) (q+1) jn) (q+1) (x5 id ms B q++D.toList)) (X:(W2.alloc o).drew.grownBy x1 v.ownBlock) (ji:v.ownBlock=μ g' \/(W2.alloc o).drew.heap.size<=g'):
 Making wb (x1.setCell ⟨RR,1,ν⟩ (σ (μ ⟨g',0,ν⟩) (q+1) jn)) id ms (q+1) RR Bb (λi=>if i=q then B' else B i) (σ (μ ⟨g',0,ν⟩) (q+1) jn):=by
 have G:v.ownBlock=μ g' \/W2.heap.size<=g':=ji.imp_right (λe=>Nat.le_trans (by show W2.heap.size<=(W2.alloc o).heap.size;simp) e);have hO:v.ownBlock≠μ RR:=λe=>(h.gV _ e).2 rfl;have H:∀k,k<W2.heap.size->v.ownBlock≠μ k->k≠RR->(x1.setCell ⟨RR,1,ν⟩ (σ (μ ⟨g',0,ν⟩) (q+1) jn)).heap[k]? =W2.heap[k]? :=by
  intro k Y A h2;rw[aq _ _ _ k h2,X.block k (by show k<(W2.alloc o).heap.size;simp;omega) (λe=>A e.symm)];exact aT W2 o k Y
 have qX:W2.heap.size<=x1.heap.size:=Nat.le_trans (by show W2.heap.size<=(W2.alloc o).heap.size;simp) X.size;have hRl:=h.nN.lt;have WH:g'≠RR:=by
  intro e;rcases G with Z|Z
  ·exact hO (by rw[Z,e])
  ·omega
 have Q:=h.ny.size;refine⟨(tI h.nN X hO).set 1 _,?_,λi hi=> ?_,⟨X.os.trans h.ny.os,X.tape.trans h.ny.tape,X.output.trans h.ny.output,Nat.le_trans Q (by simpa using qX),λk Y=> ?_⟩,h.gR,λi hi=> ?_,λk Y=> ?_,λi j hi hj M=> ?_⟩
 ·have Z:x5 id ms (λi=>if i=q then B' else B i) (q+1)=x5 id ms B q++D.toList:=by
   show x5 id ms (λi=>if i=q then B' else B i) q++_=_;rw[DR id ms _ B q (λi hi=>by simp[show i≠q by omega])];simp only[if_true];rw[hD]
  rw[Z];exact hr.keep gO (λk Y=>aq _ _ _ k (by
   have T:g'=k:=by simpa[dV]using Y
   show k≠RR;omega))
 ·by_cases e:i=q
  ·subst e;simp only[if_true];exact J.keep (H B' J.lt u EG)
  ·simp only[e,if_false];have hl:=h.lk i dU;exact hl.keep (H (B i) hl.lt (h.gB i dU).2.2 (h.gB i dU).2.1)
 ·exact(H k dU (λe=>by have:=(h.gV k e).1;omega) (by have:=h.gR;omega)).trans (h.ny.block k Y)
 ·have V:∀k,k<W2.heap.size->v.ownBlock≠μ k->dV (σ (μ ⟨g',0,ν⟩) (q+1) jn)≠μ k:=by
   intro k Y A e;have T:g'=k:=by simpa[dV]using e
   rcases G with Z|Z
   ·exact A (by rw[Z,T])
   ·omega
  by_cases e:i=q
  ·subst e;simp only[if_true];exact⟨wQ,EG,V B' J.lt u⟩
  ·simp only[e,if_false];have hb:=h.gB i dU;exact⟨hb.1,hb.2.1,V (B i) (h.lk i dU).lt hb.2.2⟩
 ·have T:g'=k:=by simpa[dV]using Y
  subst T;refine⟨?_,WH⟩;rcases G with Z|Z
  ·exact(h.gV _ Z).1
  ·omega
 ·by_cases Z:i=q
  ·have U:j≠q:=dU;simp only[Z,U,if_true,if_false];exact λe=>K0 j dU e.symm
  ·by_cases U:j=q
   ·simp only[Z,U,if_true,if_false];exact K0 i dU
   ·simp only[Z,U,if_false];exact h.dis i j dU dU M
theorem WM {m mg:Int} (hg:1<=mg/\mg<=255):yK (Ah m mg).L:=⟨by show wR 1 0 0=true;decide,by show(0:Int)<=0;omega,by show(0:Int)<=255;omega,by show 0<=mg;omega,by show mg<=255;omega,by show 0<=mg;omega,by show mg<=255;omega⟩
def BX(R g cap Bb:Nat)(B:Nat->Nat)(m:FM)(n:Nat):Zt:=⟨R,g,cap,B,λ_=>σ ν 0 0,Bb,{m with no:=λk=>m.no k \/k=R \/k=g \/ ∃i,i<n/\k=B i},σ ν 0 0⟩
theorem Gc {R cap:Nat} (h:(BX R g cap Bb B m n).mine n k):k=R \/k=g \/ ∃i,i<n/\k=B i:=by
 rcases h with e|e|⟨i,hi,e|e⟩|e
 ·exact .inl e
 ·exact .inr (.inl e)
 ·exact .inr (.inr ⟨i,hi,e⟩)
 ·simp[BX,dV]at e
 ·simp[BX,dV]at e
theorem Making.done {W:dR} (h:Making wb W id ms n RR Bb B v)(A:1<=n/\n<=3)(qd:1<=id/\id<=6)(G:iV wb)
 (X:BR wb Bb m k (λx=>if x=id then μ (1,[])else ν) (λ_ x=>if x=id then μ (1,[])else ν)) (V:¬m.no Bb/\¬m.no m.g/\∀b,(b=m.bm \/b∈m.bs)->¬m.no b) (pO:m.bs.length=n):
 ∃g cap,v=σ (μ ⟨g,0,ν⟩) n cap/\lJ W (BX RR g cap Bb B m n) (jE id n ms)/\wb.heap.size<=g:=by
 rcases h.row.2 with⟨_,u⟩|⟨g,cap,rfl,Jk,Ji,ani,hc,hf⟩
 ·omega
 have Y:=h.gV g rfl;have u:=G.lt;have ZY:Bb<wb.heap.size:=by obtain⟨_,_,hF,_⟩:=X.ex;exact hF.lt
 have ZZ:m.g<wb.heap.size:=by obtain⟨_,_,hF,_⟩:=X.ex;exact hF.row.lt _ rfl
 have U:∀j,(j=RR \/j=g \/ ∃i,i<n/\j=B i)->wb.heap.size<=j/\j<W.heap.size:=by
  intro j Z;rcases Z with rfl|rfl|⟨i,hi,rfl⟩
  ·exact⟨h.gR,h.nN.lt⟩
  ·exact⟨Y.1,Jk⟩
  ·exact⟨(h.gB i hi).1,(h.lk i hi).lt⟩
 have G0:=X.still h.ny.size (λj Z _=>h.ny.block j Z) V.1 V.2.1 V.2.2 (λj=>m.no j \/j=RR \/j=g \/ ∃i,i<n/\j=B i) (λj Z=>Z.imp_right (λe=>(U j e).1)) (λj Z=>Z.elim (λe=>Nat.lt_of_lt_of_le (X.Pf j e) h.ny.size) (λe=>(U j e).2));have hlen:=vP id ms B n;refine⟨g,cap,rfl,⟨A.1,A.2,Ji,qd,h.nN,λi hi=> ?_,Row.nil _ 3,G0.six,pO,λj Z=>.inr (Gc Z),⟨λe=> ?_,λe=> ?_,λb hb e=> ?_⟩,⟨λe=>Y.2 e.symm,by have:=h.gR;show RR≠0;omega,λi hi=>⟨(h.gB i hi).2.1,by simp[BX,dV]⟩⟩,λi j hi Z M=>⟨h.dis i j hi Z M,λk J=>by simp[BX,dV]at J⟩,λi j _ _=>by simp[BX,dV],λk J=>by simp[BX,dV]at J,⟨by simp[BX,dV],λb hb e=> ?_⟩⟩,Y.1⟩
 ·have T:i<n:=hi;have Q:=h.gB i T;refine⟨⟨LY,λj Z=>⟨?_,?_⟩,Cj.zero⟩,h.lk i T,Row.nil _ 1,by show(0:Nat)<=_;omega,WM (m:=ms i) (mg:=8*id+i+1) dU,λe=>Q.2.2 (by show μ g=μ (B i);rw[show g=B i from e]),by simp[BX,dV],by simp[BX,dV],⟨by show g≠0;omega,by show B i≠0;omega,by simp[BX,dV]⟩⟩
  ·exact hc (i*71+j) _ (NU id ms B n i j T Z)
  ·exact(hf (i*71+j) (by have:(i+1)*71<=cap*71:=Nat.mul_le_mul_right 71 dU;omega)).2
 ·rcases e with e|e
  ·exact V.1 e
  ·have:=(U _ e).1;have H:wb.heap.size<=Bb:=this;omega
 ·rcases e with e|e
  ·exact V.2.1 e
  ·have:=(U _ e).1;have H:wb.heap.size<=m.g:=this;omega
 ·rcases e with e|e
  ·exact V.2.2 b hb e
  ·have h8:=(U b e).1;have H:=X.mlt b hb;omega
 ·exact pG (G 0 0 dX dX) (X.maps b hb) e.symm
theorem TV(id:Int)(b off n cap:Nat)(ms:Nat->Int)(w:dR)(hT:iV w)(qd:1<=id/\id<=6)(hn:1<=n/\n<=3)(Yn:∀i,i<n->w.cell? ⟨b,off+i,ν⟩=μ (ι κ (ms i)))(hm:∀i,i<n->1<=ms i/\ms i<=20)(X:Nat->Prop)(hX:∀k,X k->k<w.heap.size):
 eT eU 17 #[ι κ id,σ (μ ⟨b,off,ν⟩) n cap] w λe w'=>∃z,e=ρ (τ #[π (μ ⟨z.R,0,ν⟩),η])/\lJ w' z (jE id n ms)/\eh w w'/\(∀k,z.mine n k->w.heap.size<=k)/\w.heap.size<=z.fm.bm/\(∀x∈z.fm.bs,w.heap.size<=x)/\∀k,X k->z.fm.no k:=by
 have hz:=Md;have qX:=Me;obtain⟨i0,hi,od,mK,mL⟩:=aY TR;obtain⟨Zp,Rb⟩:=fW (rowOf 71 Z4);have Ps:Zp.size=71:=by rw[<-Rb];exact lU _ _
 rw[Rb]at hz od;have aih:¬Zp= #[] :=λe=>by rw[e]at Ps;simp at Ps
 have hnb:=Tc n w hn;have g1:¬id<1:=dU;have g2:¬6<id:=dU;clear Rb
 go_in
 go_wp2_with(fail);refine hnb.mono ?_;rintro e w1 ⟨rfl,m,Oy,wQ,b1,m1,m2,m3⟩;have wQ:=wQ.avoid X (λk e=>Nat.lt_of_lt_of_le (hX k e) b1.size);obtain⟨m',WN⟩:∃m':FM,({m with no:=X}:FM)=m':=⟨_,rfl⟩
 have kT:m'.no=X:=by rw[<-WN]
 have Oy:m'.bs.length=n:=by rw[<-WN];exact Oy
 have m1:w.heap.size<=m'.bm:=by rw[<-WN];exact m1
 have m3:∀x∈m'.bs,w.heap.size<=x:=by rw[<-WN];exact m3
 have m2:w.heap.size<=m'.g:=by rw[<-WN];exact m2
 rw[WN]at wQ;have Ri:=JH (w.heap.size+1) m' 0 (λ_=>ν) (λ_ _=>ν) id 1 ν 0 0 [] w1 wQ (rD dU) ⟨rfl,.inl rfl⟩ (λ_=>rfl) dU (by unfold oD;rw[ae dU];rfl);clear hnb;go_wp2_with(fail);refine Ri.mono ?_;rintro e wb ⟨rfl,hBR,hKM⟩;clear Ri;have bb:eh w wb:=jr.below b1 hKM m1 m3;have H0:Making wb (wb.alloc (γ #[ι κ id,σ ν 0 0,π (μ ⟨w.heap.size+1,0,ν⟩),σ ν 0 0,ι κ 0] 135)) id ms 0 wb.heap.size (w.heap.size+1) (λ_=>0) (σ ν 0 0):=⟨jc.new wb _ _,Row.nil _ _,λi hi=>dU,gN _ _,Nat.le_refl _,λi hi=>dU,λk hk=>by simp[dV]at hk,λi j hi=>dU⟩
 have Lb:∀W,eh wb W->∀i,i<n->W.cell? ⟨b,off+i,ν⟩=μ (ι κ (ms i)):=λW hW i hi=>by
  have hc:=(ai (a:=⟨b,off+i,ν⟩) (bb.block b (af _ _ (Yn i hi)))).trans (Yn i hi);exact(ai (a:=⟨b,off+i,ν⟩) (hW.block b (af _ _ hc))).trans hc
 have hTb:iV wb:=hT.below bb;have HBR:Hid _:=hBR;have Z8:Hid _:=bb;have HCM:Hid _:=Lb;have HH0:Hid _:=H0;have Q:Hid (w.heap.size<=m'.bm/\(∀x∈m'.bs,w.heap.size<=x)/\m'.bs.length=n/\(¬m'.no (w.heap.size+1)/\¬m'.no m'.g/\∀b,(b=m'.bm \/b∈m'.bs)->¬m'.no b)/\∀k,X k->m'.no k):=by
  refine⟨m1,m3,Oy,⟨λe=> ?_,λe=> ?_,λb hb e=> ?_⟩,λk hk=>by rw[kT];exact hk⟩
  ·rw[kT]at e;have G:=hX _ e;omega
  ·rw[kT]at e;have G:=hX _ e;omega
  ·rw[kT]at e;have G:=hX _ e;rcases hb with rfl|hb
   ·omega
   ·have h2:=m3 b hb;omega
 obtain⟨Bb,Hv⟩:=fW (w.heap.size+1);rw[Hv]at HH0 HBR Q;clear hBR bb Lb H0 b1 hKM wQ m1 m2 m3 Oy Yn kT WN;go_wp2_with(fail)
 try rw[Hv]
 obtain⟨RR,J⟩:=fW (wb.heap.size);rw[J]at HH0;rw[J];have HRR:Hid _:=J;have l9:=hn.1;have uU:=hn.2;have aim:=qd.1;have aau:=qd.2;clear hn qd J
 go_loopw [39] (λx wr=>∃(q:Nat) (B:Nat->Nat) (v:dT),q<=n/\x=ι κ q/\Making wb wr id ms q RR Bb B v) (λx _=>n-(eV x).toNat)
 case atStart=>exact⟨0,_,_,Nat.zero_le _,rfl,HH0.out⟩
 case round=>
  obtain⟨q,B,v,hq,rfl,M⟩:=hrel;by_cases ka:q<n
  ·have m8:(q:Int)<(n:Int):=dU;have hq0:(0:Int)<=(q:Int):=dU;have hmc:=HCM.out _ M.ny q ka;have Oy:=af _ _ hmc;have hmq:=hm q ka;have hnp:=JY (ms q) (8*id+q+1) wr (hTb.below M.ny) hmq dU;have HM:Hid _:=M;clear M;go_wp2_with(fail);refine hnp.mono ?_;rintro e w1 ⟨B',rfl,hLk,hBg,bN⟩;clear hnp;obtain⟨D,hD⟩:=fW (rowOf 71 (wB (Ah (ms q) (8*id+q+1)) B' (σ ν 0 0) LY));have IB:D.size=71:=by rw[<-hD];exact lU _ _
   have oI:D.all (·.oneCell')=true:=by rw[<-hD];exact Hm Cj.zero rfl
   have hDl:D.toList.length=1*71:=by rw[gF,IB]
   have Yq:∀u∈D.toList,u.oneCell'=true:=λu hu=>(bW.1 oI) u (by simpa using hu);rw[hD];have iZ:=dG w1 Zp D 142;have M1:=HM.out.below bN;have bA:=gN w1 (γ D 142);have M2:=M1.below bA;have hV:jc (w1.alloc (γ D 142)) w1.heap.size D 142:=jc.new _ _ _;have aav:=hLk.below bA;go_wp2_with(refine nO _ rfl (.tmp 11) (.tmp 52) 142 rfl rfl w1.heap.size Zp D rfl rfl (jc.new _ _ _) (by rw[Ps,IB]) (by rw[IB];exact qX) oI ?_;rw[iZ]);obtain⟨W2,nC⟩:=fW (w1.alloc (γ D 142));obtain⟨Y,hY⟩:=fW (w1.heap.size);rw[nC]at M2 hV aav;rw[hY]at hV;rw[nC,hY];have hBf:B'<Y:=by rw[<-hY];exact hLk.lt
   have hMY:wb.heap.size<=B':=by have G:=HM.out.ny.size;omega
   have c1:W2.cell? ⟨RR,1,ν⟩=μ v:=M2.nN.cell 1;have cl:=M2.nN.lt;have nS:=M2.nN;have iQ:=M2.row;have HO:Hid (v.ownBlock≠μ RR):=λe=>(M2.gV _ e).2 rfl;have Pc:Hid _:=M2;have anm:wr.heap.size<B':=hBg;have HOY:Hid (v.ownBlock≠μ Y):=λe=>by have G:=M1.row.lt Y e;omega
   have aio:RR<Y:=by have G:=M1.nN.lt;omega
   clear iZ M1 bA M2 nC hLk bN;have hYR:Y≠RR:=by intro e;have G:=aio;omega
   have PZ:jc (W2.alloc (γ D 142)).drew Y D 142:=jc.below hV (jt (gN _ _));have c1b:(W2.alloc (γ D 142)).drew.cell? ⟨RR,1,ν⟩=μ v:=lV c1;have jY:∀T:dR,jc T Y D 142->(fH 142 (π (μ ⟨Y,0,ν⟩))).run eU T=.ok (.agg D) T:=λT hS=>by
    simp only[fH,Instr.sureAddr,Sem.run_bind,Sem.run_pure,Result.andThen];exact bL T Y 142 142 D (0,0) _ hS underlying142 rfl (by rw[IB];exact qX)
   have lN:B'≠RR:=by have G:=HM.out.nN.lt;omega
   have qO:v.ownBlock≠μ B':=λe=>by have G:=HM.out.row.lt B' e;omega
   have hb4:∀i,i<q->B i≠B':=λi hi e=>by have G:=(HM.out.lk i hi).lt;omega
   have HD:Hid _:=hD;clear hD;refine cg (S:=λx=>jc x Y D 142) gL hV (λA=> ?_);refine jf 0 (μ 57) rfl rfl gL gL gL (λ_ _ _ h=>h) (by rfl) (v:= ?_) ?_ iX ?_
   rotate_left
   ·intro T V
    (try dsimp only at V)
    go_simp
    try with_reducible rfl
   simp only[gj,gk,gp,gq];refine jf 1 (μ 58) rfl rfl gL gL gL (λ_ _ _ h=>h) (by rfl) (v:= ?_) ?_ iX ?_
   rotate_left
   ·intro T V
    (try dsimp only at V)
    go_simp
    try with_reducible rfl
   simp only[gj,gk,gp,gq];refine jf 2 (μ 59) rfl rfl gL gL gL (λ_ _ _ h=>h) (by rfl) (v:= ?_) ?_ iX ?_
   rotate_left
   ·intro T V
    (try dsimp only at V)
    go_simp
    try with_reducible rfl
   simp only[gj,gk,gp,gq];refine jf 3 (μ 60) rfl rfl gL gL gL (λ_ _ _ h=>h) (by rfl) (v:= ?_) ?_ iX ?_
   rotate_left
   ·intro T V
    (try dsimp only at V)
    go_simp
    try with_reducible rfl
   simp only[gj,gk,gp,gq];refine jf 5 (μ 62) rfl rfl gL gL gL (λ_ _ _ h=>h) (by rfl) (v:=.agg D) ?_ iX ?_
   ·intro T V;have h7:=jY T V;simp[execOp,Act.eval,h7]
   simp only[gj,gk,gp,gq];refine aN (rs:=[4,6]) gL gO ?_;refine aF (o:=_) rfl (λK Z=> ?_) (aF (o:=_) rfl (λK Z=> ?_) aM)
   ·go_simp
    (try go_wp2_with(fail))
    refine Z.out _ _ (by exact hV) (λA=> ?_);clear Z K;refine aN (rs:=[6]) gL gO ?_;refine aF (o:=_) rfl (λK Z=> ?_) aM
    go_simp
    rw[DQ D _ (by rw[IB];rfl) 71 IB];refine Z.out _ _ (by exact PZ) (λA=> ?_);clear Z K;refine aN (rs:=[7]) gL gO ?_;refine aF (o:=_) rfl (λK Z=> ?_) aM;refine lv (by rfl) (.tmp 61) (.tmp 63) 133 (by rfl) 142 i0 (.agg Zp) 71 144 underlying133 hi od mK mL Ps dX v q (x5 id ms B q) (by rfl) ((iQ.alloc _).drew) _ 1 1 D.toList (by rfl) hDl dX (DS _ _ _ _ rfl) Yq (by unfold maxLen;omega) dU ?_;intro g' jn x1 kQ H jv;have LL:=tI nS H HO.out;have U:=tI hV H HOY.out;have f1:=LL.frozen 1;have k1:x1.cell? ⟨RR,1,ν⟩=μ v:=LL.cell 1;refine Z.out _ _ (by exact U) (λA=> ?_);clear Z K;refine jf 8 (μ 65) rfl rfl gL gL gL (λ_ _ _ h=>h) (by rfl) (v:= ?_) ?_ iX ?_
    rotate_left
    ·intro T V
     (try dsimp only at V)
     go_simp
     try with_reducible rfl
    simp only[gj,gk];refine jf 9 (μ 66) rfl rfl gL gL gL (λ_ _ _ h=>h) (by rfl) (v:= ?_) ?_ iX ?_
    rotate_left
    ·intro T V
     (try dsimp only at V)
     go_simp
     try with_reducible rfl
    simp only[gj];refine aN (rs:=[10]) gL gO ?_;refine aF (o:=_) rfl (λK Z=> ?_) aM
    go_simp
    (try go_wp2_with(fail))
    refine Z.out _ _ (by exact U.other hYR _) (λA=> ?_);clear Z K;refine cK gL ?_ _;have HAdd:Hid _:=Making.add Pc.out HD.out aav hMY lN qO hb4 kQ H jv;clear kQ H jv LL U f1 k1
    go_wp2
    go_roundw
    case rel=>exact⟨q+1,_,_,dU,by go_num,HAdd.out⟩
    case measure=>simp[eV];omega
   ·go_simp
    rw[DQ D _ (by rw[IB];rfl) 71 IB];refine Z.out _ _ (by exact PZ) (λA=> ?_);clear Z K;refine aN (rs:=[4]) gL gO ?_;refine aF (o:=_) rfl (λK Z=> ?_) aM
    go_simp
    (try go_wp2_with(fail))
    refine Z.out _ _ (by exact PZ) (λA=> ?_);clear Z K;refine aN (rs:=[7]) gL gO ?_;refine aF (o:=_) rfl (λK Z=> ?_) aM;refine lv (by rfl) (.tmp 61) (.tmp 63) 133 (by rfl) 142 i0 (.agg Zp) 71 144 underlying133 hi od mK mL Ps dX v q (x5 id ms B q) (by rfl) ((iQ.alloc _).drew) _ 1 1 D.toList (by rfl) hDl dX (DS _ _ _ _ rfl) Yq (by unfold maxLen;omega) dU ?_;intro g' jn x1 kQ H jv;have LL:=tI nS H HO.out;have U:=tI hV H HOY.out;have f1:=LL.frozen 1;have k1:x1.cell? ⟨RR,1,ν⟩=μ v:=LL.cell 1;refine Z.out _ _ (by exact U) (λA=> ?_);clear Z K;refine jf 8 (μ 65) rfl rfl gL gL gL (λ_ _ _ h=>h) (by rfl) (v:= ?_) ?_ iX ?_
    rotate_left
    ·intro T V
     (try dsimp only at V)
     go_simp
     try with_reducible rfl
    simp only[gj,gk];refine jf 9 (μ 66) rfl rfl gL gL gL (λ_ _ _ h=>h) (by rfl) (v:= ?_) ?_ iX ?_
    rotate_left
    ·intro T V
     (try dsimp only at V)
     go_simp
     try with_reducible rfl
    simp only[gj];refine aN (rs:=[10]) gL gO ?_;refine aF (o:=_) rfl (λK Z=> ?_) aM
    go_simp
    (try go_wp2_with(fail))
    refine Z.out _ _ (by exact U.other hYR _) (λA=> ?_);clear Z K;refine cK gL ?_ _;have HAdd:Hid _:=Making.add Pc.out HD.out aav hMY lN qO hb4 kQ H jv;clear kQ H jv LL U f1 k1
    go_wp2
    go_roundw
    case rel=>exact⟨q+1,_,_,dU,by go_num,HAdd.out⟩
    case measure=>simp[eV];omega
  ·have hqn:q=n:=dU;subst hqn;obtain⟨g,cp,hv,hR,SF⟩:=M.done ⟨l9,uU⟩ ⟨aim,aau⟩ hTb HBR.out Q.out.2.2.2.1 Q.out.2.2.1;have HF:Hid (∃z:Zt,z.R=RR/\lJ wr z (jE id q ms)/\eh w wr/\(∀k,z.mine q k->w.heap.size<=k)/\w.heap.size<=z.fm.bm/\(∀x∈z.fm.bs,w.heap.size<=x)/\∀k,X k->z.fm.no k):=by
    refine⟨_,rfl,hR,fY Z8.out M.ny,λk hk=> ?_,Q.out.1,Q.out.2.1,λk hk=>.inl (Q.out.2.2.2.2 k hk)⟩;have hs:=Z8.out.size;rcases Gc hk with rfl|rfl|⟨i,hi,rfl⟩
    ·have:=M.gR;omega
    ·omega
    ·have:=(M.gB i hi).1;omega
   have yt:¬(q:Int)<(q:Int):=dU;clear M hR SF hv
   go_wp2
   go_ret2
   obtain⟨z,mK,mL⟩:=HF.out;exact⟨z,by rw[mK];rfl,mL⟩
theorem NV:(eU.info? 3).map (λi=>(i.zero,i.size,i.bytes))=μ (μ (ι κ 0),1,8):=gL
def uK(ms:Nat->Int):Nat->List dT
 |0=>[]
 |q+1=>uK ms q++ [.int .i64 (ms q)]
theorem ru(ms:Nat->Int):∀q,(uK ms q).length=q
 |0=>rfl
 |q+1=>by unfold uK;rw[az,ru ms q];rfl
theorem JZ(ms:Nat->Int):∀(q i:Nat),i<q->(uK ms q)[i]? =μ (ι κ (ms i))
 |q+1,i,h=>by
  unfold uK;by_cases e:i<q
  ·rw[bJ (by rw[ru];exact e)];exact JZ ms q i e
  ·have:i=q:=dU;subst this;rw[bw (by rw[ru];exact Nat.le_refl _),ru,Nat.sub_self];rfl
theorem xm(N b i:Nat)(E:List (Int×Int×Int))(ms:Nat->Int)(w:dR)(hc:w.cell? ⟨N,2,ν⟩=μ (.map (μ b)))(hm:nV w b E)(hE:Co E)(hi6:i<6)(ht:∀p:Nat,p<3->(kJ E ((i:Int)+1) (p:Int)).getD 1=ms p/\1<=ms p/\ms p<=20)(hT:iV w)(X:Nat->Prop)(hX:∀k,X k->k<w.heap.size):
 eT eU 96 #[π (μ ⟨N,0,ν⟩),ι κ ((i:Int)+1)] w λe w'=>∃z,e=ρ (τ #[π (μ ⟨z.R,0,ν⟩),η])/\lJ w' z (jE ((i:Int)+1) 3 ms)/\eh w w'/\(∀k,z.mine 3 k->w.heap.size<=k)/\w.heap.size<=z.fm.bm/\(∀x∈z.fm.bs,w.heap.size<=x)/\∀k,X k->z.fm.no k:=by
 obtain⟨i0,hi,od,mK,mL⟩:=aY NV;have Nl:=af _ _ hc;have bl:b<w.heap.size:=by
  obtain⟨es,clock,h1,_⟩:=hm;exact(aw.1 h1).1
 have HL:Hid (∀W,eh w W->∀p:Nat,p<3->(Instr.lookup 184 (.map (μ b)) (.agg #[ι κ ((i:Int)+1),ι κ (p:Int)]) true).run eU W=.ok (τ #[ι κ ((kJ E ((i:Int)+1) (p:Int)).getD 0),.bool (kJ E ((i:Int)+1) (p:Int)).isSome]) W):=by
  intro W u p hp;exact nV.look (hm.keep (u.block b bl)) hE ⟨dU,dU,dU,dU⟩
 have HC:Hid (∀W,eh w W->W.cell? ⟨N,2,ν⟩=μ (.map (μ b))/\N<W.heap.size):=by
  intro W u;exact⟨(ai (a:=⟨N,2,ν⟩) (u.block N Nl)).trans hc,Nat.lt_of_lt_of_le Nl u.size⟩
 have HT:Hid _:=ht;have PO:Hid _:=hT;clear hm hc ht hT
 go_in
 go_wp2
 go_loopw [6,10] (λv x wr=>∃q:Nat,q<=3/\x=ι κ q/\Row wr 1 v q (uK ms q)/\(∀k,v.ownBlock=μ k->w.heap.size<=k)/\eh w wr) (λ_ x _=>3-(eV x).toNat)
 case atStart=>exact⟨0,Nat.zero_le _,rfl,Row.nil _ _,λk Z=>by simp[dV]at Z,au _ _⟩
 case round=>
  obtain⟨q,hq,rfl,Y,ji,V⟩:=hrel;by_cases ka:q<3
  ·have m8:(q:Int)<3:=dU;have h:=HL.out wr V q ka;obtain⟨d2,dl⟩:=HC.out wr V;obtain⟨t1,t2,t3⟩:=HT.out q ka;have HR:Hid _:=Y;have A:Hid _:=ji;have Q:Hid _:=V;clear ji V;cases pX:kJ E ((i:Int)+1) (q:Int)with
   |none=>
    rw[pX]at h t1;have T1:Hid (ms q=1):=t1.symm;have e0:(Option.getD (ν:Option Int) 0)=0:=rfl;have e1:(Option.isSome (ν:Option Int))=false:=rfl;rw[e0,e1]at h;clear pX t1;go_wp2_with(at_builtin;go_must(refine iB _ rfl (.tmp 26) (.tmp 28) 22 rfl 3 i0 (ι κ 0) 1 8 underlying22 hi od mK mL rfl dX u6 q (uK ms q) rfl (Y.alloc _) _ 1 1 [ι κ 1] rfl rfl dX (oX _ _ _) (wu _ _) (by unfold maxLen;omega) dU ?_));intro U J G T H M;have HN:Hid (Row G 1 (σ (μ ⟨U,0,ν⟩) (q+1) J) (q+1) (uK ms (q+1))/\(∀k,dV (σ (μ ⟨U,0,ν⟩) (q+1) J)=μ k->w.heap.size<=k)/\eh w G):=by
     have hs:=Q.out.size;refine⟨by unfold uK;rw[T1.out];exact T,λk Z=> ?_,?_⟩
     ·have:U=k:=by simpa[dV]using Z
      subst this;rcases M with e|e
      ·exact A.out _ e
      ·have:(wr.alloc (γ #[ι κ 1] 3)).heap.size=wr.heap.size+1:=gO;omega
     ·exact(Q.out.alloc hs _).grown H (by simp;omega) (λk Z=>A.out k (by rw[<-Z]))
    clear T H M Y
    go_wp2
    go_roundw
    case rel=>exact⟨q+1,dU,by go_num,HN.out⟩
    case measure=>simp[eV];omega
   |some m=>
    rw[pX]at h t1;have T1:Hid (ms q=m):=t1.symm;have e0:(Option.getD (μ m) 0)=m:=rfl;have e1:(Option.isSome (μ m))=true:=rfl;rw[e0,e1]at h;clear pX t1;go_wp2_with(at_builtin;go_must(refine iB _ rfl (.tmp 26) (.tmp 28) 22 rfl 3 i0 (ι κ 0) 1 8 underlying22 hi od mK mL rfl dX u6 q (uK ms q) rfl (Y.alloc _) _ 1 1 [ι κ m] rfl rfl dX (oX _ _ _) (wu _ _) (by unfold maxLen;omega) dU ?_));intro U J G T H M;have HN:Hid (Row G 1 (σ (μ ⟨U,0,ν⟩) (q+1) J) (q+1) (uK ms (q+1))/\(∀k,dV (σ (μ ⟨U,0,ν⟩) (q+1) J)=μ k->w.heap.size<=k)/\eh w G):=by
     have hs:=Q.out.size;refine⟨by unfold uK;rw[T1.out];exact T,λk Z=> ?_,?_⟩
     ·have:U=k:=by simpa[dV]using Z
      subst this;rcases M with e|e
      ·exact A.out _ e
      ·have:(wr.alloc (γ #[ι κ m] 3)).heap.size=wr.heap.size+1:=gO;omega
     ·exact(Q.out.alloc hs _).grown H (by simp;omega) (λk Z=>A.out k (by rw[<-Z]))
    clear T H M Y
    go_wp2
    go_roundw
    case rel=>exact⟨q+1,dU,by go_num,HN.out⟩
    case measure=>simp[eV];omega
  ·obtain rfl:q=3:=dU;have T:=Y;have Wp:∃g cap,u6=σ (μ ⟨g,0,ν⟩) 3 cap:=by
    rcases Y.2 with⟨_,e2⟩|⟨g,cap,e,_⟩
    ·omega
    ·exact⟨g,cap,e⟩
   obtain⟨g,cap,rfl⟩:=Wp;have iZ:=TV ((i:Int)+1) g 0 3 cap ms wr (iV.below (w:=w) PO.out V) dU dU (λj hj=>by
    have:=Row.cell Y j _ (JZ ms 3 j hj);rw[Nat.zero_add];exact this) (λj hj=>(HT.out j hj).2) X (λk Z=>Nat.lt_of_lt_of_le (hX k Z) V.size)
   have Q:Hid _:=V;have h33:((3:Nat):Int)=3:=rfl;clear Y ji V T;go_wp2_with(fail);refine iZ.mono ?_;rintro e w1 ⟨z,rfl,hz⟩;have HZ:Hid _:=hz;clear iZ hz
   go_wp2
   go_ret2
   have hs:=Q.out.size;obtain⟨z1,z2,z3,z4,z5,z6⟩:=HZ.out;exact⟨z,rfl,z1,fY Q.out z2,λk Z=>Nat.le_trans hs (z3 k Z),Nat.le_trans hs z4,λx hx=>Nat.le_trans hs (z5 x hx),z6⟩
structure Idle(p:jl):Prop where
 st:p.L.st=1
 pe:p.pe=nobody
 out:p.out=[]
structure jx(r r':iE)(k:Nat):Prop where
 n:r'.n=r.n
 id:r'.id=r.id
 lo:r.drop<=r'.drop
 hi:r'.drop<=r.drop+k
theorem jx.refl(r:iE):jx r r 0:=⟨rfl,rfl,Int.le_refl _,dU⟩
theorem jx.mono {l:Nat} (h:jx r r' k)(hl:k<=l):jx r r' l:=⟨h.n,h.id,h.lo,by have:=h.hi;omega⟩
theorem jx.trans {a b c:iE} {k l:Nat} (h:jx a b k)(g:jx b c l):jx a c (k+l):=⟨g.n.trans h.n,g.id.trans h.id,Int.le_trans h.lo g.lo,by have:=h.hi;have:=g.hi;omega⟩
theorem jx.wF(Z:r'.n=r.n)(hi:r'.id=r.id)(hd:r'.drop=r.drop):jx r r' 0:=⟨Z,hi,dU,dU⟩
theorem jx.iK(r:iE)(i:Nat)(p:jl):jx r (r.iK i p) 0:=jx.wF rfl rfl rfl
theorem jx.meet(r:iE)(i:Nat)(q:kN):jx r (r.meet i q) 0:=by
 obtain⟨_,Z,Y,_⟩:=mC r i q;exact jx.wF Y (Cp _ _ _) Z
theorem jx.behind(r:iE)(s:Int):jx r (r.behind s) 0:=by
 obtain⟨_,Z,Y,_⟩:=nW r s;exact jx.wF Y (Ab _ _) Z
theorem jx.send(r:iE)(t:yn):jx r (r.send t) 1:=by
 unfold iE.send;split
 ·exact jx.mono (k:=0) (jx.wF rfl rfl rfl) dU
 ·split
  ·exact⟨rfl,rfl,by simp;omega,gO⟩
  ·exact(jx.iK _ _ _).mono dU
theorem jx.state(r:iE)(i:Nat)(l:List UInt8):jx r (jd r i l) 0:=by
 unfold jd;simp only;split
 ·exact jx.refl r
 ·split
  ·exact jx.behind _ _
  ·split<;>exact jx.wF rfl rfl rfl
theorem jx.link(r:iE)(i:Nat)(c:UInt8)(s:List UInt8):jx r (jS r i c s) 0:=by
 unfold jS;split
 ·exact jx.iK _ _ _
 ·exact jx.refl r
theorem jx.rest(r:iE)(i:Nat)(c:UInt8)(s:List UInt8):jx r (lO r i c s) 1:=by
 unfold lO;split
 ·split
  ·exact(jx.meet _ _ _).mono dU
  ·exact(jx.refl r).mono dU
 ·split
  ·exact(jx.state _ _ _).mono dU
  ·split
   ·unfold kd;simp only;split<;>exact jx.mono (k:=0) (jx.wF rfl rfl rfl) dU
   ·split
    ·unfold qH;split
     ·exact jx.send _ _
     ·exact(jx.refl r).mono dU
    ·exact(jx.refl r).mono dU
theorem jx.take(r:iE)(i:Nat)(c:UInt8)(s:List UInt8):jx r (r.take i c s) 1:=by
 rw[lg];have Z:=jx.link r i c s;split
 ·exact(Z.trans (jx.meet _ _ _)).mono dU
 ·exact(Z.trans (jx.rest _ i c s)).mono dU
theorem jx.takes:∀(l:List (List UInt8)) (r:iE) (i:Nat),jx r (r.takes i l) l.length
 |[],r,_=>jx.refl r
 |t::l,r,i=>by
  show jx r ((jD r i t).takes i l) (l.length+1);have Z:=jx.takes l (jD r i t) i;have Y:jx r (jD r i t) 1:=by
   cases t with
   |nil=>exact jx.mono (jx.refl r) dU
   |cons c s=>exact jx.take r i c s
  exact jx.mono (Y.trans Z) dU
theorem jx.recv(r:iE)(i:Nat)(l:List UInt8):jx r (r.recv i l) l.length:=by
 unfold iE.recv;simp only;have h:=(jx.iK r i {r.P i with rd:=(j9 (r.P i).rd l).2.2}).trans (jx.takes (j9 (r.P i).rd l).1 _ i);refine h.mono ?_;have:=Ck (r.P i).rd l;omega
theorem jx.iD(r:iE)(i:Nat)(up:Bool):jx r (r.iD i up).1 0:=by
 unfold iE.iD;simp only;split
 ·exact jx.refl r
 ·exact((jx.iK r i _).trans (jx.meet _ _ _)).mono dU
theorem jx.iL(r:iE)(i:Nat):jx r (r.iL i) 0:=by
 rw[kP];have Z:jx r (iT r i) 0:=jx.iK _ _ _;split
 ·exact Z.trans (jx.meet _ _ _)
 ·exact(Z.trans (jx.meet _ i _)).trans (jx.iK _ _ _)
theorem jx.iN(r:iE):∀q,jx r (r.iN q) 0
 |0=>jx.refl r
 |q+1=>(jx.iN r q).trans (jx.iL _ _)
theorem jx.j2(r:iE)(t:Int)(tx:List UInt8):jx r (j2 r t tx).1 1:=by
 unfold Rt.j2;split
 ·exact jx.mono (k:=0) (jx.refl r) dU
 ·show jx r (r.send (t,8,tx)) 1;exact jx.send r (t,8,tx)
theorem Hw {m:Nat} (h:kU r)(hf:Fit r k)(i:Nat)(A:List (List UInt8))(rd:kc)(hA:A.length<=m):kU ((r.iK i {r.P i with rd:=rd}).takes i A)/\Fit ((r.iK i {r.P i with rd:=rd}).takes i A) (k+2*m):=by
 have Y:kU (r.iK i {r.P i with rd:=rd}):=h.iK i _ rfl (λhi=>h.pe i hi);have f1:Fit (r.iK i {r.P i with rd:=rd}) k:=hf.iK i _ (λhi=>hf.out i hi);have Z:=Ae A Y f1 i;exact⟨Z.2.1,Z.2.2.mono dU⟩
theorem TW(h:kU r)(hf:Fit r k)(i:Nat)(l:List UInt8):kU (r.recv i l)/\Fit (r.recv i l) (k+2*l.length):=
 Hw h hf i (j9 (r.P i).rd l).1 (j9 (r.P i).rd l).2.2 (Nat.le_trans (Nat.le_add_right _ _) (Ck (r.P i).rd l))
theorem TX(h:kU r)(hf:Fit r k)(i:Nat)(up:Bool):kU (r.iD i up).1/\Fit (r.iD i up).1 (k+1):=by
 have Z:=(xZ (r.P i) up).1;have hl:((r.P i).iD up).1.out.length<=(r.P i).out.length+6000:=by
  unfold jl.iD;have X:=yO (r.P i).L (if up=true then 0 else 1);generalize kL (r.P i).L (if up=true then 0 else 1)=e at X⊢;simp only;by_cases Y:e.2.2=0
  ·rw[ae (by simp[Y])];have h2:=yQ e.2.1 {r.P i with L:=e.1,rd:=([],false,false)};have h4:({r.P i with L:=e.1,rd:=([],false,false)}:jl).out.length=(r.P i).out.length:=rfl;show(({r.P i with L:=e.1,rd:=([],false,false)}:jl).say e.2.1).out.length<=_;omega
  ·rw[ag Y];show(r.P i).out.length<=_;omega
 unfold iE.iD;generalize (r.P i).iD up=e at Z hl⊢;simp only;split
 ·exact⟨h,hf.mono (Nat.le_succ k)⟩
 ·exact⟨(h.iK i _ Z.1 (λhi=>by rw[Z.2];exact h.pe i hi)).meet i (nQ.nobody h.id.1),(hf.grow i _ hl).meet i _⟩
theorem My(h:kU r)(hf:Fit r k)(t:Int)(tx:List UInt8):kU (j2 r t tx).1/\Fit (j2 r t tx).1 (k+1):=by
 unfold Rt.j2;split
 ·exact⟨h,hf.mono (Nat.le_succ k)⟩
 ·exact⟨h.send _,hf.send _⟩
def jV(r r':iE)(i:Nat):Prop:=∀p,p≠i->Idle (r.P p)->Idle (r'.P p)
theorem jV.refl(r:iE)(i:Nat):jV r r i:=λ_ _ h=>h
theorem jV.trans {a b c:iE} (h:jV a b i)(g:jV b c i):jV a c i:=λp Z hi=>g p Z (h p Z hi)
theorem jV.iK(r:iE)(i:Nat)(q:jl):jV r (r.iK i q) i:=λp Z h=>by
 show Idle (kR r.P i q p);rw[jh _ _ Z];exact h
theorem jV.wV(h:r'.P=r.P)(i:Nat):jV r r' i:=λp _ hi=>by rw[h];exact hi
theorem jV.meet(r:iE)(i:Nat)(q:kN):jV r (r.meet i q) i:=λp Z h=>by
 rw[(mC r i q).2.2.2,jh _ _ Z];exact h
theorem Gd(t:yn)(h:Idle (r.P p)):Idle ((r.send t).P p):=by
 unfold iE.send;split
 ·exact h
 ·split
  ·exact h
  ·rename_i b hb
   show Idle (kR r.P b _ p);by_cases e:p=b
   ·subst e;exfalso;split at hb
    ·cases Z:zN (pj r) t.1 with
     |none=>rw[Z]at hb;simp at hb
     |some x=>
      rw[Z]at hb;have Y:jX r.P x.uF r.n=μ p:=hb;have:=(qe Y).2.1;rw[h.pe]at this;exact absurd this dX
    ·simp at hb
   ·rw[jh _ _ e];exact h
theorem jV.send(r:iE)(t:yn)(i:Nat):jV r (r.send t) i:=λ_ _ h=>Gd t h
theorem jV.state(r:iE)(i:Nat)(l:List UInt8):jV r (jd r i l) i:=by
 unfold jd;simp only;split
 ·exact jV.refl r i
 ·split
  ·exact jV.wV (nW _ _).2.2.2 i
  ·split
   ·exact(jV.wV rfl i).trans (jV.iK _ _ _)
   ·exact jV.wV rfl i
theorem jV.take(r:iE)(i:Nat)(c:UInt8)(s:List UInt8):jV r (r.take i c s) i:=by
 rw[lg];have Z:jV r (jS r i c s) i:=by
  unfold jS;split
  ·exact jV.iK _ _ _
  ·exact jV.refl _ _
 split
 ·exact Z.trans (jV.meet _ _ _)
 ·refine Z.trans ?_;unfold lO;split
  ·split
   ·exact jV.meet _ _ _
   ·exact jV.refl _ _
  ·split
   ·exact jV.state _ _ _
   ·split
    ·unfold kd;simp only;split<;>exact jV.wV rfl i
    ·split
     ·unfold qH;split
      ·exact jV.send _ _ _
      ·exact jV.refl _ _
     ·exact jV.refl _ _
theorem jV.takes:∀(l:List (List UInt8)) (r:iE) (i:Nat),jV r (r.takes i l) i
 |[],r,i=>jV.refl r i
 |t::l,r,i=>by
  show jV r ((match t with|[] =>r|c::s=>r.take i c s).takes i l) i;refine jV.trans ?_ (jV.takes l _ i);cases t with
  |nil=>exact jV.refl _ _
  |cons c s=>exact jV.take r i c s
theorem jV.recv(r:iE)(i:Nat)(l:List UInt8):jV r (r.recv i l) i:=by
 unfold iE.recv;simp only;exact(jV.iK r i _).trans (jV.takes _ _ i)
theorem jV.iD(r:iE)(i:Nat)(up:Bool):jV r (r.iD i up).1 i:=by
 unfold iE.iD;simp only;split
 ·exact jV.refl r i
 ·exact(jV.iK r i _).trans (jV.meet _ _ _)
theorem J0 {p:jl} (h:Idle p):p.tick=p:=by
 have Y:iW p.L=(p.L,[]):=by
  have Z:j6 p.L=p.L:=by unfold j6;simp[h.st]
  have X:lh p.L=[] :=by unfold lh;simp[h.st]
  unfold iW;rw[Z,X];simp[h.st]
 unfold jl.tick;rw[Y];rfl
theorem Mz(i:Nat)(h:Idle (r.P p)):Idle ((r.iL i).P p):=by
 rw[kP];by_cases e:p=i
 ·subst e;have Z:(iT r p).P p=r.P p:=by
   show kR r.P p (r.P p).tick p=_;rw[jk,J0 h]
  rw[Z,ag (by rw[h.st];decide),(mC _ _ _).2.2.2,jk,Z];exact⟨h.st,rfl,h.out⟩
 ·have Z:Idle ((iT r i).P p):=by
   show Idle (kR r.P i _ p);rw[jh _ _ e];exact h
  split
  ·exact jV.meet _ _ _ p e Z
  ·exact jV.iK _ i _ p e (jV.meet _ _ _ p e Z)
theorem DT {r:iE} {p:Nat} (h:Idle (r.P p)):∀q,Idle ((r.iN q).P p)
 |0=>h
 |q+1=>Mz q (DT h q)
theorem J1(t:Int)(tx:List UInt8)(h:Idle (r.P p)):Idle ((j2 r t tx).1.P p):=by
 unfold Rt.j2;split
 ·exact h
 ·show Idle ((r.send (t,8,tx)).P p);exact Gd (t,8,tx) h
structure jT(y:iI)(D k:Nat):Prop where
 n1:1<=y.n
 n6:y.n<=6
 c9:y.nc<=9
 en:∀c d,c<y.nc->d<2->((y.C c).e d).1<y.n/\((y.C c).e d).2<3
 ds:∀c d c' d',c<y.nc->d<2->c'<y.nc->d'<2->(y.C c).e d=(y.C c').e d'->c=c'/\d=d'
 ms:∀i p,i<y.n->p<3->1<=y.ms i p/\y.ms i p<=20
 rn:∀i,i<y.n->(y.R i).n=3/\(y.R i).id=(i:Int)+1
 ok:∀i,i<y.n->kU (y.R i)
 drop:∀i,i<y.n->0<=(y.R i).drop/\(y.R i).drop<=D
 ol:∀c d,c<y.nc->d<2->((y.C c).on d).length<=2000
 ib:∀i,i<y.n->(y.jZ i).length<=D
 idle:∀i p,i<y.n->p<3->(∀c d,c<y.nc->d<2->(y.C c).e d≠(i,p))->Idle ((y.R i).P p)
 fit:∀i,i<y.n->(y.R i).jZ.length<=k/\∀p,p<3->((y.R i).P p).out.length<=6000*k
theorem jT.mono {D':Nat} (h:jT y D k)(hD:D<=D')(hk:k<=k'):jT y D' k':=
 ⟨h.n1,h.n6,h.c9,h.en,h.ds,h.ms,h.rn,h.ok,λi hi=>by have:=h.drop i hi;omega,h.ol,λi hi=>by have:=h.ib i hi;omega,h.idle,λi hi=>⟨by have:=(h.fit i hi).1;omega,λp Z=>by have:=(h.fit i hi).2 p Z;omega⟩⟩
theorem jT.fits(h:jT y D k)(hD:D<=1000000000000000)(hi:i<y.n):Fit (y.R i) k:=
 ⟨(h.fit i hi).1,by have:=h.drop i hi;omega,λp Z=>(h.fit i hi).2 p (by rw[(h.rn i hi).1]at Z;exact Z)⟩
theorem jT.jq {y:iI} {D k:Nat} (h:jT y D k) {i:Nat} (hi:i<y.n) {r:iE} {D' k':Nat} (Q:D<=D')(hk:k<=k')(V:r.n=3/\r.id=(i:Int)+1)(T:kU r)(hd:0<=r.drop/\r.drop<=D')(hf:Fit r k')
 (U:∀p,p<3->(∀c d,c<y.nc->d<2->(y.C c).e d≠(i,p))->Idle (r.P p)):jT (y.jq i r) D' k':=by
 have X:∀j,(y.jq i r).R j=if j=i then r else y.R j:=λj=>rfl
 refine⟨h.n1,h.n6,h.c9,h.en,h.ds,h.ms,λj Z=> ?_,λj Z=> ?_,λj Z=> ?_,h.ol,λj Z=>Nat.le_trans (h.ib j Z) Q,λj p Z Y hc=> ?_,λj Z=> ?_⟩
 ·rw[X];by_cases e:j=i
  ·rw[ag e];subst e;exact V
  ·rw[ae e];exact h.rn j Z
 ·rw[X];by_cases e:j=i
  ·rw[ag e];exact T
  ·rw[ae e];exact h.ok j Z
 ·rw[X];by_cases e:j=i
  ·rw[ag e];exact hd
  ·rw[ae e];have:=h.drop j Z;omega
 ·rw[X];by_cases e:j=i
  ·rw[ag e];subst e;exact U p Y hc
  ·rw[ae e];exact h.idle j p Z Y hc
 ·rw[X];by_cases e:j=i
  ·rw[ag e];exact⟨hf.jZ,λp Y=>hf.out p (by rw[V.1];exact Y)⟩
  ·rw[ae e];exact⟨by have:=(h.fit j Z).1;omega,λp Y=>by have:=(h.fit j Z).2 p Y;omega⟩
theorem jT.call(h:jT y D k)(hi:i<y.n)(T:k<=k')(Z:jx (y.R i) r g)(V:kU r)(hf:Fit r k')
 (U:∀p,p<3->(∀c d,c<y.nc->d<2->(y.C c).e d≠(i,p))->Idle ((y.R i).P p)->Idle (r.P p)):jT (y.jq i r) (D+g) k':=by
 have Y:=h.rn i hi;have h2:=h.drop i hi;have h3:=Z.lo;have h4:=Z.hi;exact h.jq hi dU T ⟨Z.n.trans Y.1,Z.id.trans Y.2⟩ V dU hf (λp X hc=>U p X hc (h.idle i p hi X hc))
theorem jT.kX {y:iI} {D k:Nat} (h:jT y D k) {c:Nat} {cb:pT} (Y:c<y.nc->cb.e=(y.C c).e)(hl:c<y.nc->∀d,d<2->(cb.on d).length<=2000):jT (y.kX c cb) D k:=by
 have hC:∀x,x<y.nc->((y.kX c cb).C x).e=(y.C x).e:=λx hx=>by
  show(if x=c then cb else y.C x).e=_;by_cases e:x=c
  ·rw[ag e];subst e;exact Y hx
  ·rw[ae e]
 refine⟨h.n1,h.n6,h.c9,λx d hx hd=>by rw[hC x hx];exact h.en x d hx hd,λx d x' d' hx hd Z X e=>by rw[hC x hx,hC x' Z]at e;exact h.ds x d x' d' hx hd Z X e,h.ms,h.rn,h.ok,h.drop,λx d hx hd=> ?_,h.ib,λi p hi V hc=>h.idle i p hi V (λx d hx hd=>by have:=hc x d hx hd;rwa [hC x hx]at this),h.fit⟩;show((if x=c then cb else y.C x).on d).length<=_;by_cases e:x=c
 ·rw[ag e];subst e;exact hl hx d hd
 ·rw[ae e];exact h.ol x d hx hd
theorem jT.iT(h:jT y D k)(X:D<=1000000000000000)(hi:i<y.n):jT (y.jq i (y.R i).tick) D (k+6):=by
 have Z:=Ag (h.ok i hi) (h.fits X hi) (y.R i).n (Nat.le_refl _);rw[(h.rn i hi).1]at Z;have e:(y.R i).tick=(y.R i).iN 3:=by unfold iE.tick;rw[(h.rn i hi).1]
 rw[e];exact h.call hi dU (jx.iN _ 3) Z.2.1 Z.2.2 (λp _ _ Y=>DT Y 3)
theorem jT.adO(h:jT y D k)(X:D<=1000000000000000)(hc:c<y.nc)(hd:d<2)(l:List UInt8)(hl:l.length<=2000):jT (y.jq ((y.C c).e d).1 ((y.R ((y.C c).e d).1).recv ((y.C c).e d).2 l)) (D+2000) (k+4000):=by
 obtain⟨hi,Z⟩:=h.en c d hc hd;have Y:=TW (h.ok _ hi) (h.fits X hi) ((y.C c).e d).2 l;exact h.call hi dU ((jx.recv _ _ l).mono hl) Y.1 (Y.2.mono dU) (λp _ V Z=>jV.recv _ _ l p (λe=>V c d hc hd (by rw[e])) Z)
theorem jT.TY(h:jT y D k)(X:D<=1000000000000000)(hc:c<y.nc)(hd:d<2)(up:Bool):jT (y.mB c d up) D (k+1):=by
 obtain⟨hi,Z⟩:=h.en c d hc hd;have Y:=TX (h.ok _ hi) (h.fits X hi) ((y.C c).e d).2 up;exact h.call hi dU (jx.iD _ _ up) Y.1 Y.2 (λp _ V Z=>jV.iD _ _ up p (λe=>V c d hc hd (by rw[e])) Z)
theorem jT.T6(h:jT y D k)(X:D<=1000000000000000)(hi:i<y.n)(t:Int)(tx:List UInt8):jT (y.jq i (j2 (y.R i) t tx).1) (D+1) (k+1):=by
 have Z:=My (h.ok i hi) (h.fits X hi) t tx;exact h.call hi dU (jx.j2 _ t tx) Z.1 Z.2 (λp _ _ Y=>J1 t tx Y)
theorem y8 {m:Nat->Int} (Y:1<=id/\id<=6)(U:∀i,i<3->1<=m i/\m i<=20):kU (jE id 3 m):=by
 refine⟨Y,U,λi _=>nQ.nobody Y.1,⟨(1,[]),?_,?_⟩,λx hx=> ?_⟩
 ·show(if id=id then μ ((1,[]):PS)else ν)=_;rw[ag rfl]
 ·show oD id 1 [] =0;unfold oD;have V:¬id<1:=dU;have X:¬6<id:=dU;simp[V,X,qB]
 ·have Z:(if x=id then μ ((1,[]):PS)else ν).isSome=true:=hx;by_cases e:x=id
  ·omega
  ·rw[ae e]at Z;simp at Z
theorem P2 {m:Nat->Int} (k:Nat):Fit (jE id 3 m) k:=⟨Nat.zero_le _,⟨Int.le_refl _,by show(0:Int)<=_;omega⟩,λ_ _=>Nat.zero_le _⟩
theorem qg(id:Int)(m:Nat->Int)(p:Nat):Idle ((jE id 3 m).P p):=⟨rfl,rfl,rfl⟩
theorem jT.kD {y:iI} {D k:Nat} (h:jT y D k)(T:D<=1000000000000000) {c d:Nat} (hc:c<y.nc)(hd:d<2):jT (y.kD c d) D k:=by
 obtain⟨hi,X⟩:=h.en c d hc hd;unfold iI.kD;have hf:=h.fits T hi;have Z:=h.ok _ hi;have U:jT (y.jq ((y.C c).e d).1 ((y.R ((y.C c).e d).1).out ((y.C c).e d).2)) D k:=by
  refine h.jq hi (Nat.le_refl _) (Nat.le_refl _) (h.rn _ hi) (Z.iK _ _ rfl (λhi=>Z.pe _ hi)) (h.drop _ hi) (hf.iK _ _ (λ_=>Nat.zero_le _)) (λp X Y=> ?_);exact jV.iK _ _ _ p (λe=>Y c d hc hd (by rw[e])) (h.idle _ p hi X Y)
 refine U.kX (λ_=> ?_) (λ_ d' V=> ?_)
 ·unfold pT.put;split<;>rfl
 ·unfold pT.put;split
  ·rename_i hx
   show(jK (y.C c).on d _ d').length<=2000;by_cases e:d'=d
   ·subst e;rw[iu,az];exact hx.2
   ·rw[iq _ _ e];exact h.ol c d' hc V
  ·exact h.ol c d' hc V
theorem mD(y:iI)(c d:Nat):(y.kD c d).n=y.n/\(y.kD c d).nc=y.nc/\(y.kD c d).ms=y.ms/\(y.kD c d).jZ=y.jZ/\∀x,((y.kD c d).C x).e=(y.C x).e/\((y.kD c d).C x).iR=(y.C x).iR:=by
 refine⟨rfl,rfl,rfl,rfl,λx=> ?_⟩;show(if x=c then(y.C c).put d _ else y.C x).e=_/\(if x=c then(y.C c).put d _ else y.C x).iR=_;by_cases e:x=c
 ·rw[ag e];subst e;unfold pT.put;split<;>exact⟨rfl,rfl⟩
 ·rw[ae e];exact⟨rfl,rfl⟩
theorem jU(y:iI):∀k,(y.jQ k).n=y.n/\(y.jQ k).nc=y.nc/\(y.jQ k).ms=y.ms/\(y.jQ k).jZ=y.jZ/\∀x,((y.jQ k).C x).e=(y.C x).e/\((y.jQ k).C x).iR=(y.C x).iR
 |0=>⟨rfl,rfl,rfl,rfl,λ_=>⟨rfl,rfl⟩⟩
 |k+1=>by
  obtain⟨X,T,V,U,Z⟩:=jU y k;obtain⟨b1,b2,b3,b4,b5⟩:=mD (y.jQ k) k 0;obtain⟨c1,c2,c3,c4,Y⟩:=mD ((y.jQ k).kD k 0) k 1;exact⟨c1.trans (b1.trans X),c2.trans (b2.trans T),c3.trans (b3.trans V),c4.trans (b4.trans U),λx=>⟨(Y x).1.trans ((b5 x).1.trans (Z x).1),(Y x).2.trans ((b5 x).2.trans (Z x).2)⟩⟩
theorem jT.jQ {y:iI} {D k:Nat} (h:jT y D k)(Z:D<=1000000000000000):∀q,q<=y.nc->jT (y.jQ q) D k
 |0,_=>h
 |q+1,hq=>by
  have V:=jT.jQ h Z q dU;have Y:(y.jQ q).nc=y.nc:=(jU y q).2.1;have X:=V.kD Z (c:=q) (d:=0) (by rw[Y];omega) dU;exact X.kD Z (c:=q) (d:=1) (by show q<(y.jQ q).nc;rw[Y];omega) dU
theorem Ai(y:iI)(c d i p:Nat):((y.kD c d).R i).P p=if(y.C c).e d=(i,p)then {(y.R i).P p with out:=[] }else(y.R i).P p:=by
 show((jK y.R ((y.C c).e d).1 ((y.R ((y.C c).e d).1).out ((y.C c).e d).2)) i).P p=_;by_cases e:i=((y.C c).e d).1
 ·rw[e,iu];show kR _ ((y.C c).e d).2 _ p=_;by_cases Z:p=((y.C c).e d).2
  ·rw[Z,jk,ag rfl]
  ·rw[jh _ _ Z,ae (λh=>Z (by rw[h]))]
 ·rw[iq _ _ e,ae (λh=>e (by rw[h]))]
theorem vQ(c d i p:Nat)(h:(y.C c).e d=(i,p) \/((y.R i).P p).out=[]):(((y.kD c d).R i).P p).out=[] :=by
 rw[Ai];rcases h with h|h
 ·rw[ag h]
 ·split
  ·rfl
  ·exact h
theorem DU {y:iI} (i p:Nat):∀q,((y.R i).P p).out=[] \/(∃c d,c<q/\d<2/\(y.C c).e d=(i,p))->(((y.jQ q).R i).P p).out=[]
 |0,h=>by
  rcases h with h|⟨c,_,hc,_⟩
  ·exact h
  ·omega
 |q+1,h=>by
  have hs:=jU y q;have U:=mD (y.jQ q) q 0;by_cases X:((y.R i).P p).out=[] \/(∃c d,c<q/\d<2/\(y.C c).e d=(i,p))
  ·have ih:=DU i p q X;exact vQ _ _ _ _ (.inr (vQ _ _ _ _ (.inr ih)))
  ·rcases h with h|⟨c,d,hc,hd,Z⟩
   ·exact absurd (.inl h) X
   ·have Y:c=q:=by
     rcases Nat.lt_or_ge c q with V|V
     ·exact absurd (.inr ⟨c,d,V,hd,Z⟩) X
     ·omega
    subst Y;have T:d=0 \/d=1:=dU;rcases T with rfl|rfl
    ·exact vQ _ _ _ _ (.inr (vQ _ _ _ _ (.inl ((hs.2.2.2.2 c).1▸Z))))
    ·refine vQ _ _ _ _ (.inl ?_);rw[(U.2.2.2.2 c).1,(hs.2.2.2.2 c).1];exact Z
theorem jT.outs(h:jT y D k)(hi:i<y.n)(Z:p<3):(((y.jQ y.nc).R i).P p).out=[] :=by
 by_cases hx:∃c d,c<y.nc/\d<2/\(y.C c).e d=(i,p)
 ·exact DU i p _ (.inr hx)
 ·exact DU i p _ (.inl (h.idle i p hi Z (λc d hc hd e=>hx ⟨c,d,hc,hd,e⟩)).out)
theorem nE(y:iI):∀k,(y.lW k).n=y.n/\(y.lW k).nc=y.nc/\(y.lW k).ms=y.ms/\(y.lW k).C=y.C
 |0=>⟨rfl,rfl,rfl,rfl⟩
 |k+1=>nE y k
theorem vR(y:iI)(i:Nat):∀k,(y.lW k).R i=(if i<k then {y.R i with jZ:=[] }else y.R i)/\(y.lW k).jZ i=if i<k then y.jZ i++(y.R i).jZ else y.jZ i
 |0=>by simp[iI.lW]
 |k+1=>by
  obtain⟨V,X⟩:=vR y i k;show jK (y.lW k).R k {(y.lW k).R k with jZ:=[] } i=_/\jK (y.lW k).jZ k ((y.lW k).jZ k++((y.lW k).R k).jZ) i=_;by_cases e:i=k
  ·subst e;rw[iu,iu,V,X,ae (Nat.lt_irrefl i),ae (Nat.lt_irrefl i),ag (Nat.lt_succ_self i),ag (Nat.lt_succ_self i)];exact⟨rfl,rfl⟩
  ·rw[iq _ _ e,iq _ _ e,V,X];by_cases Y:i<k
   ·have Z:i<k+1:=dU;rw[ag Y,ag Z,ag Y,ag Z];exact⟨rfl,rfl⟩
   ·have Z:¬i<k+1:=dU;rw[ae Y,ae Z,ae Y,ae Z];exact⟨rfl,rfl⟩
theorem jT.lW {y:iI} {D k:Nat} (h:jT y D k)(q:Nat):jT (y.lW q) (D+k) k:=by
 obtain⟨Z,V,J,U⟩:=nE y q;have X:∀i,((y.lW q).R i).n=(y.R i).n/\((y.lW q).R i).id=(y.R i).id/\((y.lW q).R i).P=(y.R i).P/\((y.lW q).R i).drop=(y.R i).drop/\((y.lW q).R i).K=(y.R i).K/\((y.lW q).R i).jZ.length<=(y.R i).jZ.length:=λi=>by
  rw[(vR y i q).1];split
  ·exact⟨rfl,rfl,rfl,rfl,rfl,Nat.zero_le _⟩
  ·exact⟨rfl,rfl,rfl,rfl,rfl,Nat.le_refl _⟩
 refine⟨by rw[Z];exact h.n1,by rw[Z];exact h.n6,by rw[V];exact h.c9,λc d hc hd=> ?_,λc d c' d' hc hd M H=> ?_,λi p hi T=> ?_,λi hi=> ?_,λi hi=> ?_,λi hi=> ?_,λc d hc hd=> ?_,λi hi=> ?_,λi p hi T G=> ?_,λi hi=> ?_⟩
 ·rw[U,Z];rw[V]at hc;exact h.en c d hc hd
 ·rw[U];rw[V]at hc M;exact h.ds c d c' d' hc hd M H
 ·rw[J];rw[Z]at hi;exact h.ms i p hi T
 ·rw[Z]at hi;rw[(X i).1,(X i).2.1];exact h.rn i hi
 ·rw[Z]at hi;have Y:=h.ok i hi;rw[(vR y i q).1];split
  ·exact⟨Y.id,Y.m,Y.pe,Y.own,Y.Pr⟩
  ·exact Y
 ·rw[Z]at hi;rw[(X i).2.2.2.1];have:=h.drop i hi;omega
 ·rw[U];rw[V]at hc;exact h.ol c d hc hd
 ·rw[Z]at hi;rw[(vR y i q).2];have Q:=h.ib i hi;have h2:=(h.fit i hi).1;split
  ·rw[az];omega
  ·omega
 ·rw[Z]at hi;rw[(X i).2.2.1];exact h.idle i p hi T (λc d hc hd=>by have:=G c d (by rw[V];exact hc) hd;rwa [U]at this)
 ·rw[Z]at hi;have Q:=h.fit i hi;rw[(X i).2.2.1];exact⟨Nat.le_trans (X i).2.2.2.2.2 Q.1,Q.2⟩
theorem jT.gather {y:iI} {D k:Nat} (h:jT y D k)(T:D<=1000000000000000):jT y.gather (D+k) 0:=by
 unfold iI.gather;obtain⟨s1,s2,s3,s4,s5⟩:=jU y y.nc;have U:=h.jQ T y.nc (Nat.le_refl _);have Z:=U.lW y.n;obtain⟨V,e2,e3,e4⟩:=nE (y.jQ y.nc) y.n;refine⟨Z.n1,Z.n6,Z.c9,Z.en,Z.ds,Z.ms,Z.rn,Z.ok,Z.drop,Z.ol,Z.ib,Z.idle,λi hi=> ?_⟩;have Y:i<y.n:=by rw[V,s1]at hi;exact hi
 rw[(vR (y.jQ y.nc) i y.n).1,ag Y];refine⟨Nat.le_refl _,λp X=> ?_⟩;show(((y.jQ y.nc).R i).P p).out.length<=_;rw[h.outs Y X];exact Nat.zero_le _
theorem ln(y:iI):y.gather.n=y.n/\y.gather.nc=y.nc/\y.gather.ms=y.ms/\∀x,(y.gather.C x).e=(y.C x).e/\(y.gather.C x).iR=(y.C x).iR:=by
 unfold iI.gather;obtain⟨s1,T,Z,s4,U⟩:=jU y y.nc;obtain⟨Y,Q,V,X⟩:=nE (y.jQ y.nc) y.n;exact⟨Y.trans s1,Q.trans T,V.trans Z,λx=>by rw[X];exact U x⟩
theorem jT.jP {y:iI} {D k:Nat} (h:jT y D k)(Z:D<=1000000000000000) {c:Nat} (hc:c<y.nc)(up:Bool):jT (y.jP c up) D (k+2):=by
 unfold iI.jP;have Y:jT (y.kX c {y.C c with iR:=up,on:=λ_=>[] }) D k:=h.kX (λ_=>rfl) (λ_ _ _=>Nat.zero_le _);exact(Y.TY Z (c:=c) (d:=0) hc dU up).TY Z (c:=c) (d:=1) hc dU up
theorem oS(y:iI)(c:Nat)(up:Bool):(y.jP c up).n=y.n/\(y.jP c up).nc=y.nc/\(y.jP c up).ms=y.ms/\(y.jP c up).jZ=y.jZ/\∀x,((y.jP c up).C x).e=(y.C x).e/\((y.jP c up).C x).iR=if x=c then up else(y.C x).iR:=by
 refine⟨rfl,rfl,rfl,rfl,λx=> ?_⟩;show(if x=c then({y.C c with iR:=up,on:=λ_=>[] }:pT)else y.C x).e=_/\(if x=c then({y.C c with iR:=up,on:=λ_=>[] }:pT)else y.C x).iR=_;by_cases e:x=c
 ·rw[ag e,ag e];subst e;exact⟨rfl,rfl⟩
 ·rw[ae e,ae e];exact⟨rfl,rfl⟩
theorem jT.jB {D:Nat} (Z:D<=1000000000000000)(up:Bool):∀(l:List Nat) {y:iI} {k:Nat},jT y D k->(∀c∈l,c<y.nc)->jT (y.jB up l) D (k+2*l.length)
 |[],_,_,h,_=>h
 |c::l,y,k,h,hl=>by
  have Y:=h.jP Z (hl c gO) up;have:=jT.jB Z up l Y (λx hx=>hl x (by simp[hx]));exact this.mono (Nat.le_refl _) (by simp;omega)
theorem mI(up:Bool):∀(l:List Nat) (y:iI),(y.jB up l).n=y.n/\(y.jB up l).nc=y.nc/\(y.jB up l).ms=y.ms/\(y.jB up l).jZ=y.jZ/\∀x,((y.jB up l).C x).e=(y.C x).e
 |[],y=>⟨rfl,rfl,rfl,rfl,λ_=>rfl⟩
 |c::l,y=>by
  obtain⟨X,Z,T,V,Y⟩:=mI up l (y.jP c up);obtain⟨g1,U,M,J,Q⟩:=oS y c up;exact⟨X.trans g1,Z.trans U,T.trans M,V.trans J,λx=>(Y x).trans (Q x).1⟩
theorem jT.iD {y:iI} {D:Nat} (h:jT y D 0)(Z:D<=1000000000000000)(i:Int)(up:Bool):jT (y.iD i up).1 (D+2) 0:=by
 unfold iI.iD;split
 ·exact h.mono dU (Nat.le_refl _)
 ·split
  ·exact h.mono dU (Nat.le_refl _)
  ·exact(h.jP Z dU up).gather Z
theorem jT.tick {y:iI} {D:Nat} (h:jT y D 0)(Z:D<=1000000000000000)(i:Int):jT (y.tick i).1 (D+6) 0:=by
 unfold iI.tick;split
 ·exact h.mono dU (Nat.le_refl _)
 ·exact(h.iT Z dU).gather Z
theorem jT.jg {y:iI} {D k:Nat} (h:jT y D k)(Y:D<=1000000000000000) {c d q:Nat} (hc:c<y.nc)(hd:d<2):jT (y.jg c d q) (D+2000) (k+4000):=by
 have hl:((y.C c).on d).length<=2000:=h.ol c d hc hd;unfold iI.jg;have X:jT (y.kX c {y.C c with on:=jK (y.C c).on d (((y.C c).on d).drop q)}) D k:=h.kX (λ_=>rfl) (λ_ d' V=>by
  show(jK (y.C c).on d _ d').length<=_;by_cases e:d'=d
  ·subst e;rw[iu,dw];omega
  ·rw[iq _ _ e];exact h.ol c d' hc V)
 have Z:=X.adO Y (c:=c) (d:=1-d) hc dU (((y.C c).on d).take q) (by rw[List.length_take];omega);have e:((y.kX c {y.C c with on:=jK (y.C c).on d (((y.C c).on d).drop q)}).C c).e=(y.C c).e:=by
  show(if c=c then _ else y.C c).e=_;rw[ag rfl]
 rw[e]at Z;exact Z
theorem jT.deliver {y:iI} {D:Nat} (h:jT y D 0)(hD:D<=100000000000000)(i d many:Int):jT (y.deliver i d many).1 (D+6000) 0:=by
 unfold iI.deliver;split
 ·exact h.mono dU (Nat.le_refl _)
 ·exact((h.jg dU dU dU).gather dU).mono dU (Nat.le_refl _)
theorem Aj:∀c∈y.k7 k,c<y.nc:=λc hc=>by
 unfold iI.k7 at hc;exact aS.1 (List.mem_filter.1 hc).1
theorem x6(y:iI)(k:Nat):(y.k7 k).length<=y.nc:=by
 unfold iI.k7;have:=cE (λc=>(y.C c).iR&& (((y.C c).e 0).1==k||((y.C c).e 1).1==k)) (List.range y.nc);simpa using this
theorem jT.anew(h:jT y D k)(i:Nat)(hi:i<y.n):jT (y.jq i (jE ((i:Int)+1) 3 (y.ms i))) D k:=
 h.jq hi (Nat.le_refl _) (Nat.le_refl _) ⟨rfl,rfl⟩ (y8 (by have:=h.n6;omega) (λp Z=>h.ms i p hi Z)) ⟨Int.le_refl _,by show(0:Int)<=_;omega⟩ (P2 k) (λp _ _=>qg _ _ p)
theorem jT.restart {y:iI} {D:Nat} (h:jT y D 0)(Z:D<=1000000000000000)(i:Int):jT (y.restart i).1 (D+36) 0:=by
 unfold iI.restart;split
 ·exact h.mono dU (Nat.le_refl _)
 ·have hl:=x6 y (i-1).toNat;have h9:=h.c9;have V:=jT.jB Z false (y.k7 (i-1).toNat) h Aj;obtain⟨s1,T,X,s4,s5⟩:=mI false (y.k7 (i-1).toNat) y;have Y:=V.anew (i-1).toNat (by rw[s1];omega);have e:(((i-1).toNat:Nat):Int)+1=i:=dU;rw[e,X]at Y;have U:=jT.jB Z true (y.k7 (i-1).toNat) Y (λc hc=>by
   show c<(y.jB false (y.k7 (i-1).toNat)).nc;rw[T];exact Aj c hc)
  exact(U.gather Z).mono dU (Nat.le_refl _)
theorem jT.send {y:iI} {D:Nat} (h:jT y D 0)(hD:D<=100000000000000)(f t:Int)(tx:List UInt8):jT (y.send f t tx).1 (D+2) 0:=by
 unfold iI.send;split
 ·exact h.mono dU (Nat.le_refl _)
 ·split
  ·exact h.mono dU (Nat.le_refl _)
  ·exact(h.T6 dU dU t tx).gather dU
