import Derived.Test.YtieklnlbljejdaaGreatDoorT19
open Go.Value renaming int → ι, slice → σ, pointer → π, tuple → τ, nilIface → η
open Go.IntKind renaming i64 → κ
open Go.Ending renaming returned → ρ
open Go.Obj renaming cells → γ
open Option renaming none → ν, some → μ
open Go renaming World → dN, Value → dO
open Go.Proofs.Tryz renaming prog → eN
open Array renaming size_setIfInBounds → gA, length_toList → gE
open Go.Value renaming ownBlock → dQ
open Go.RowKit renaming intOf → eP
open Go.Instr renaming loadAt → fe
open Go.Act renaming put → gh
open List renaming setIfInBounds_toArray → gj, set_cons_zero → gk, set_cons_succ → gp
set_option maxRecDepth 100000
set_option maxHeartbeats 4000000
open Go.Proofs.Tryz
namespace Go.Proofs.YtieklnlbljejdaaGreatDoor
open Go.RowKit St
namespace Rt
variable {B:Nat->Nat} {Bb RR k n:Nat} {id:Int} {m:FM} {ms:Nat->Int} {v:Value} {wb:World}
def yK(m mg:Int):jb:=⟨m,⟨255,mg,255,mg,0,0,1,255,0,0,0⟩,([],false,false),nobody,[]⟩
theorem Hu(m mg:Int)(w:dN)(hT:iQ w)(hm:1<=m/\m<=20)(hg:1<=mg/\mg<=255):
 Calls eN 68 #[ι κ m,ι κ mg] w λe w'=>∃B,e=ρ (τ #[.agg (rowOf 71 (uU (yK m mg) B (σ ν 0 0) JO)),η])/\Lk w' B ((yK m mg).L.c (σ ν 0 0))/\w.heap.size<B/\dV w w':=by
 have hz:=J8;have pY:=J9;obtain⟨Z,y⟩:=fP (rowOf 71 XE);have Q:Z.size=71:=by rw[<-y];exact lF _ _
 rw[y]at hz;have af2:¬Z= #[] :=λe=>by rw[e]at Q;simp at Q
 have ba:=gM w (γ Z 142);have E:iM (w.alloc (γ Z 142)) w.heap.size Z 142:=iM.new w _ _;have Vr:=hT.below ba;have V:=TW 255 mg (w.alloc (γ Z 142)) dP dP dP dP;obtain⟨W0,t⟩:=fP (w.alloc (γ Z 142));obtain⟨N,u⟩:=fP (w.heap.size);have hNs:N<W0.heap.size:=by rw[<-t,<-u];simp
 rw[t]at ba E V Vr;rw[u]at E;have g1:¬m<1:=dP;have g2:¬20<m:=dP;have Av:Hid _:=t;have A:Hid _:=u;have h:Hid _:=E;have HZ:Hid _:=y;clear t u E y
 go_in
 go_wp2_with(fail);rw[Av.out,A.out];refine V.mono ?_;rintro e w1 ⟨B,rfl,hL,hBg,b1⟩;have VZ:=Qc B 255 mg 255 mg 0 0 255 0 0 0 (σ ν 0 0) w1 (Vr.below b1) hL;clear V hL;go_wp2_with(fail);refine VZ.mono ?_;rintro e T ⟨rfl,J,U⟩;obtain⟨D,hD⟩:=fP ((Z.setIfInBounds 0 (Value.int .i64 m)).setIfInBounds 1 (Value.pointer (μ ⟨B,0,ν⟩)));have S:D.size=71:=by rw[<-hD];simp[Q]
 have M:Hid (D=rowOf 71 (uU (yK m mg) B (σ ν 0 0) JO)):=by
  show _=_;rw[<-hD,<-HZ.out];apply bq;intro j;by_cases G:j<71
  ·rw[qJ 71 _ j G,aX,aX,qJ 71 _ j G];simp only[gA,lF];by_cases e1:j=1
   ·subst e1;simp[uU]
   ·by_cases e0:j=0
    ·subst e0;simp[uU,yK]
    ·rw[ae (λe=>e1 e.symm),ae (λe=>e0 e.symm)];congr 1;unfold XE uU;simp only[e0,e1,if_false];rfl
  ·rw[aV (by simp[lF];omega),aV (by rw[lF];omega)]
 have oP:D.all (·.oneCell')=true:=by rw[M.out];exact E4 Ao.zero rfl
 have H:N≠B:=dP;have X:iM T N Z 142:=by
  have Y:=iM.below h.out b1;exact Y.keep (U.block N Y.lt (λe=>H (Option.some.inj e)))
 have hR:iM (T.setRow N D) N D 142:=X.setRow;have Tb:Lk (T.setRow N D) B ((yK m mg).L.c (σ ν 0 0)):=J.keep (by simp only[World.setRow];rw[cu,ae H]);have l6:=bI (P:=eN) (T.setRow N D) N 142 142 D (0,0) _ hR underlying142 rfl (by rw[S];exact pY);have iA:Hid (dV w (T.setRow N D)):=by
  have Y:=gD ba b1;have h2:dV w T:=⟨U.os.trans Y.os,U.tape.trans Y.tape,U.output.trans Y.output,Nat.le_trans Y.size U.size,λj G=>(U.block j (Nat.lt_of_lt_of_le G Y.size) (λe=>by have e2:j=B:=Option.some.inj e;have:=A.out;omega)).trans (Y.block j G)⟩
  exact Go.Proofs.YtieklnlbljejdaaGreatDoor.nK h2 (by have:=A.out;omega) D
 have HL3:Hid _:=Tb;clear VZ J U Tb hR;go_wp2_with(first
  |(rw[hD];refine ng _ rfl (.tmp 4) (.tmp 29) 142 rfl rfl N Z D rfl rfl X (by rw[Q,S]) (by rw[S];exact pY) oP ?_)
  |(refine ng _ rfl (.tmp 4) (.tmp 29) 142 rfl rfl N Z D rfl rfl X (by rw[Q,S]) (by rw[S];exact pY) oP ?_))
 refine aA (v:=τ #[.agg D,η]) (by simp[results,results68,asAddr,l6]) rfl ?_;exact⟨B,by rw[M.out],HL3.out,by have:=A.out;omega,iA.out⟩
theorem xI:∀(l:List dO) (k:Nat) (base:Array dO) (j:Nat),k+l.length<=base.size->((l.zipIdx k).foldl (λcs (x:dO×Nat)=>cs.setIfInBounds x.2 x.1) base)[j]? =if k<=j/\j<k+l.length then l[j-k]? else base[j]?
 |[],k,base,j,_=>by
  rw[ae gN];rfl
 |x::l,k,base,j,h=>by
  have X:k+1+l.length<=base.size:=by simp at h;omega
  rw[List.zipIdx_cons,bJ,xI l (k+1) (base.setIfInBounds k x) j (by rw[gA];exact X)];by_cases Z:k+1<=j/\j<k+1+l.length
  ·rw[ag Z,ag (by simp;omega),show j-k=(j-(k+1))+1 by omega,List.getElem?_cons_succ]
  ·rw[ae Z,aX];by_cases Y:k=j
   ·subst Y;rw[ag rfl,ag dP,ag gN];simp
   ·rw[ae Y,ae (by simp;omega)]
theorem BZ(D base:Array dO)(h:base.size=D.size)(n:Nat)(Z:D.size=n):Array.foldl (λcs (x:dO×Nat)=>cs.setIfInBounds x.2 x.1) base D.zipIdx 0 n=D:=by
 have hs:D.zipIdx.size=n:=by rw[Array.size_zipIdx,Z]
 rw[<-hs,<-Array.foldl_toList,Array.toList_zipIdx];apply bq;intro j;rw[xI D.toList 0 base j (by simp;omega)];by_cases hj:j<D.size
 ·rw[ag (by simp;omega)];simp
 ·rw[ae (by simp;omega),aV dP,aV dP]
theorem Rq:(eN.info? 142).map (λi=>(i.zero,i.size,i.bytes))=μ (μ (.agg (rowOf 71 XE)),71,144):=gJ
def wE(id:Int)(ms:Nat->Int)(B:Nat->Nat):Nat->List dO
 |0=>[]
 |q+1=>wE id ms B q++(rowOf 71 (uU (yK (ms q) (8*id+q+1)) (B q) (.slice none 0 0) JO)).toList
theorem ux(id:Int)(ms:Nat->Int)(B:Nat->Nat):∀q,(wE id ms B q).length=q*71
 |0=>rfl
 |q+1=>by
  unfold wE;rw[ay,ux id ms B q,gE,lF];omega
theorem LW(id:Int)(ms:Nat->Int)(B:Nat->Nat):∀(q i j:Nat),i<q->j<71->(wE id ms B q)[i*71+j]? =μ (uU (yK (ms i) (8*id+i+1)) (B i) (σ ν 0 0) JO j)
 |0,i,j,h,_=>dP
 |q+1,i,j,h,hj=>by
  unfold wE;have hl:=ux id ms B q;by_cases e:i=q
  ·subst e;rw[bk dP,hl,show i*71+j-i*71=j by omega];simpa using qJ 71 (uU (yK (ms i) (8*id+i+1)) (B i) (σ ν 0 0) JO) j hj
  ·rw[bG dP];exact LW id ms B q i j dP hj
structure Making(wb W:dN)(id:Int)(ms:Nat->Int)(q R Bb:Nat)(B:Nat->Nat)(v:dO):Prop where
 m9:iM W R #[ι κ id,v,π (μ ⟨Bb,0,ν⟩),σ ν 0 0,ι κ 0] 135
 row:Row W 71 v q (wE id ms B q)
 lk:∀i,i<q->Lk W (B i) ((yK (ms i) (8*id+i+1)).L.c (σ ν 0 0))
 nI:dV wb W
 gR:wb.heap.size<=R
 gB:∀i,i<q->wb.heap.size<=B i/\B i≠R/\v.ownBlock≠μ (B i)
 gV:∀k,v.ownBlock=μ k->wb.heap.size<=k/\k≠R
 dis:∀i j,i<q->j<q->i≠j->B i≠B j
theorem Making.below {wb W W':dN} {id:Int} {ms:Nat->Int} {q R Bb:Nat} {B:Nat->Nat} {v:dO} (h:Making wb W id ms q R Bb B v)(hb:dV W W'):Making wb W' id ms q R Bb B v:=
 ⟨h.m9.below hb,h.row.below hb,λi hi=>(h.lk i hi).below hb,gD h.nI hb,h.gR,h.gB,h.gV,h.dis⟩
theorem B0(id:Int)(ms:Nat->Int)(B B':Nat->Nat):∀q,(∀i,i<q->B i=B' i)->wE id ms B q=wE id ms B' q
 |0,_=>rfl
 |q+1,h=>by
  unfold wE;rw[B0 id ms B B' q (λi hi=>h i dP),h q dP]
theorem B1(w:dN)(D:Array dO)(t:TypeId)(g:Nat)(Z:w.heap.size=g):∀(j:Nat) (u:dO),D.toList[j]? =μ u->(w.alloc (γ D t)).drew.cell? ((⟨g,0,ν⟩:Addr).add j)=μ u:=by
 subst Z;intro j u Y;rw[add_plain];show(w.alloc (γ D t)).cell? _=_;rw[aj];simpa using Y
theorem Making.add {W2 x1:dN} {q:Nat} {B' g' jd:Nat} {D:Array dO} {o:Obj} (h:Making wb W2 id ms q RR Bb B v)(hD:rowOf 71 (uU (yK (ms q) (8*id+q+1)) B' (σ ν 0 0) JO)=D)
 (M:Lk W2 B' ((yK (ms q) (8*id+q+1)).L.c (σ ν 0 0))) (vp:wb.heap.size<=B') (E:B'≠RR) (y:v.ownBlock≠μ B') (A:∀i,i<q->B i≠B')
 (hr:Row x1 71 (σ (μ ⟨g',0,ν⟩) (q+1) jd) (q+1) (wE id ms B q++D.toList)) (X:(W2.alloc o).drew.grownBy x1 v.ownBlock) (iY:v.ownBlock=μ g' \/(W2.alloc o).drew.heap.size<=g'):
 Making wb (x1.setCell ⟨RR,1,ν⟩ (σ (μ ⟨g',0,ν⟩) (q+1) jd)) id ms (q+1) RR Bb (λi=>if i=q then B' else B i) (σ (μ ⟨g',0,ν⟩) (q+1) jd):=by
 have G:v.ownBlock=μ g' \/W2.heap.size<=g':=iY.imp_right (λe=>Nat.le_trans (by show W2.heap.size<=(W2.alloc o).heap.size;simp) e);have u:v.ownBlock≠μ RR:=λe=>(h.gV _ e).2 rfl;have S:∀k,k<W2.heap.size->v.ownBlock≠μ k->k≠RR->(x1.setCell ⟨RR,1,ν⟩ (σ (μ ⟨g',0,ν⟩) (q+1) jd)).heap[k]? =W2.heap[k]? :=by
  intro k Y Q h2;rw[ak _ _ _ k h2,X.block k (by show k<(W2.alloc o).heap.size;simp;omega) (λe=>Q e.symm)];exact aQ W2 o k Y
 have pY:W2.heap.size<=x1.heap.size:=Nat.le_trans (by show W2.heap.size<=(W2.alloc o).heap.size;simp) X.size;have hRl:=h.m9.lt;have t:g'≠RR:=by
  intro e;rcases G with Z|Z
  ·exact u (by rw[Z,e])
  ·omega
 have H:=h.nI.size;refine⟨(rU h.m9 X u).set 1 _,?_,λi hi=> ?_,⟨X.os.trans h.nI.os,X.tape.trans h.nI.tape,X.output.trans h.nI.output,Nat.le_trans H (by simpa using pY),λk Y=> ?_⟩,h.gR,λi hi=> ?_,λk Y=> ?_,λi j hi hj J=> ?_⟩
 ·have Z:wE id ms (λi=>if i=q then B' else B i) (q+1)=wE id ms B q++D.toList:=by
   show wE id ms (λi=>if i=q then B' else B i) q++_=_;rw[B0 id ms _ B q (λi hi=>by simp[show i≠q by omega])];simp only[if_true];rw[hD]
  rw[Z];exact hr.keep gN (λk Y=>ak _ _ _ k (by
   have T:g'=k:=by simpa[dQ]using Y
   show k≠RR;omega))
 ·by_cases e:i=q
  ·subst e;simp only[if_true];exact M.keep (S B' M.lt y E)
  ·simp only[e,if_false];have hl:=h.lk i dP;exact hl.keep (S (B i) hl.lt (h.gB i dP).2.2 (h.gB i dP).2.1)
 ·exact(S k dP (λe=>by have:=(h.gV k e).1;omega) (by have:=h.gR;omega)).trans (h.nI.block k Y)
 ·have V:∀k,k<W2.heap.size->v.ownBlock≠μ k->dQ (σ (μ ⟨g',0,ν⟩) (q+1) jd)≠μ k:=by
   intro k Y Q e;have T:g'=k:=by simpa[dQ]using e
   rcases G with Z|Z
   ·exact Q (by rw[Z,T])
   ·omega
  by_cases e:i=q
  ·subst e;simp only[if_true];exact⟨vp,E,V B' M.lt y⟩
  ·simp only[e,if_false];have hb:=h.gB i dP;exact⟨hb.1,hb.2.1,V (B i) (h.lk i dP).lt hb.2.2⟩
 ·have T:g'=k:=by simpa[dQ]using Y
  subst T;refine⟨?_,t⟩;rcases G with Z|Z
  ·exact(h.gV _ Z).1
  ·omega
 ·by_cases Z:i=q
  ·have U:j≠q:=dP;simp only[Z,U,if_true,if_false];exact λe=>A j dP e.symm
  ·by_cases U:j=q
   ·simp only[Z,U,if_true,if_false];exact A i dP
   ·simp only[Z,U,if_false];exact h.dis i j dP dP J
theorem Uz {m mg:Int} (hg:1<=mg/\mg<=255):yb (yK m mg).L:=⟨by show vq 1 0 0=true;decide,by show(0:Int)<=0;omega,by show(0:Int)<=255;omega,by show 0<=mg;omega,by show mg<=255;omega,by show 0<=mg;omega,by show mg<=255;omega⟩
def Ac(R g cap Bb:Nat)(B:Nat->Nat)(m:FM)(n:Nat):Zt:=⟨R,g,cap,B,λ_=>σ ν 0 0,Bb,{m with no:=λk=>m.no k \/k=R \/k=g \/ ∃i,i<n/\k=B i},σ ν 0 0⟩
theorem DY {R g cap:Nat} (h:(Ac R g cap Bb B m n).mine n k):k=R \/k=g \/ ∃i,i<n/\k=B i:=by
 rcases h with e|e|⟨i,hi,e|e⟩|e
 ·exact .inl e
 ·exact .inr (.inl e)
 ·exact .inr (.inr ⟨i,hi,e⟩)
 ·simp[Ac,dQ]at e
 ·simp[Ac,dQ]at e
theorem Making.done {W:dN} (h:Making wb W id ms n RR Bb B v)(G:1<=n/\n<=3)(t:1<=id/\id<=6)(H:iQ wb)
 (X:BR wb Bb m k (λx=>if x=id then μ (1,[])else ν) (λ_ x=>if x=id then μ (1,[])else ν)) (V:¬m.no Bb/\¬m.no m.g/\∀b,(b=m.bm \/b∈m.bs)->¬m.no b) (u:m.bs.length=n):
 ∃g cap,v=σ (μ ⟨g,0,ν⟩) n cap/\k8 W (Ac RR g cap Bb B m n) (jt id n ms)/\wb.heap.size<=g:=by
 rcases h.row.2 with⟨_,y⟩|⟨g,cap,rfl,A,D,akM,hc,hf⟩
 ·omega
 have Y:=h.gV g rfl;have y:=H.lt;have Xz:Bb<wb.heap.size:=by obtain⟨_,_,hF,_⟩:=X.ex;exact hF.lt
 have XA:m.g<wb.heap.size:=by obtain⟨_,_,hF,_⟩:=X.ex;exact hF.row.lt _ rfl
 have U:∀j,(j=RR \/j=g \/ ∃i,i<n/\j=B i)->wb.heap.size<=j/\j<W.heap.size:=by
  intro j Z;rcases Z with rfl|rfl|⟨i,hi,rfl⟩
  ·exact⟨h.gR,h.m9.lt⟩
  ·exact⟨Y.1,A⟩
  ·exact⟨(h.gB i hi).1,(h.lk i hi).lt⟩
 have E:=X.still h.nI.size (λj Z _=>h.nI.block j Z) V.1 V.2.1 V.2.2 (λj=>m.no j \/j=RR \/j=g \/ ∃i,i<n/\j=B i) (λj Z=>Z.imp_right (λe=>(U j e).1)) (λj Z=>Z.elim (λe=>Nat.lt_of_lt_of_le (X.Nk j e) h.nI.size) (λe=>(U j e).2));have hlen:=ux id ms B n;refine⟨g,cap,rfl,⟨G.1,G.2,D,t,h.m9,λi hi=> ?_,Row.nil _ 3,E.six,u,λj Z=>.inr (DY Z),⟨λe=> ?_,λe=> ?_,λb hb e=> ?_⟩,⟨λe=>Y.2 e.symm,by have:=h.gR;show RR≠0;omega,λi hi=>⟨(h.gB i hi).2.1,by simp[Ac,dQ]⟩⟩,λi j hi Z S=>⟨h.dis i j hi Z S,λk Q=>by simp[Ac,dQ]at Q⟩,λi j _ _=>by simp[Ac,dQ],λk Q=>by simp[Ac,dQ]at Q,⟨by simp[Ac,dQ],λb hb e=> ?_⟩⟩,Y.1⟩
 ·have M:i<n:=hi;have T:=h.gB i M;refine⟨⟨JO,λj Z=>⟨?_,?_⟩,Ao.zero⟩,h.lk i M,Row.nil _ 1,by show(0:Nat)<=_;omega,Uz (m:=ms i) (mg:=8*id+i+1) dP,λe=>T.2.2 (by show μ g=μ (B i);rw[show g=B i from e]),by simp[Ac,dQ],by simp[Ac,dQ],⟨by show g≠0;omega,by show B i≠0;omega,by simp[Ac,dQ]⟩⟩
  ·exact hc (i*71+j) _ (LW id ms B n i j M Z)
  ·exact(hf (i*71+j) (by have:(i+1)*71<=cap*71:=Nat.mul_le_mul_right 71 dP;omega)).2
 ·rcases e with e|e
  ·exact V.1 e
  ·have:=(U _ e).1;have J:wb.heap.size<=Bb:=this;omega
 ·rcases e with e|e
  ·exact V.2.1 e
  ·have:=(U _ e).1;have J:wb.heap.size<=m.g:=this;omega
 ·rcases e with e|e
  ·exact V.2.2 b hb e
  ·have h8:=(U b e).1;have J:=X.mlt b hb;omega
 ·exact oO (H 0 0 dS dS) (X.maps b hb) e.symm
theorem Ru(id:Int)(b off n cap:Nat)(ms:Nat->Int)(w:dN)(hT:iQ w)(qw:1<=id/\id<=6)(hn:1<=n/\n<=3)(VW:∀i,i<n->w.cell? ⟨b,off+i,ν⟩=μ (ι κ (ms i)))(hm:∀i,i<n->1<=ms i/\ms i<=20)(X:Nat->Prop)(hX:∀k,X k->k<w.heap.size):
 Calls eN 17 #[ι κ id,σ (μ ⟨b,off,ν⟩) n cap] w λe w'=>∃z,e=ρ (τ #[π (μ ⟨z.R,0,ν⟩),η])/\k8 w' z (jt id n ms)/\dV w w'/\(∀k,z.mine n k->w.heap.size<=k)/\w.heap.size<=z.fm.bm/\(∀x∈z.fm.bs,w.heap.size<=x)/\∀k,X k->z.fm.no k:=by
 have hz:=J8;have pY:=J9;obtain⟨i0,hi,nH,l8,mZ⟩:=aT Rq;obtain⟨Zp,O4⟩:=fP (rowOf 71 XE);have Ny:Zp.size=71:=by rw[<-O4];exact lF _ _
 rw[O4]at hz nH;have af2:¬Zp= #[] :=λe=>by rw[e]at Ny;simp at Ny
 have hnb:=QI n w hn;have g1:¬id<1:=dP;have g2:¬6<id:=dP;clear O4
 go_in
 go_wp2_with(fail);refine hnb.mono ?_;rintro e J ⟨rfl,m,MD,vp,b1,m1,m2,m3⟩;have vp:=vp.avoid X (λk e=>Nat.lt_of_lt_of_le (hX k e) b1.size);obtain⟨m',t⟩:∃m':FM,({m with no:=X}:FM)=m':=⟨_,rfl⟩
 have lE:m'.no=X:=by rw[<-t]
 have MD:m'.bs.length=n:=by rw[<-t];exact MD
 have m1:w.heap.size<=m'.bm:=by rw[<-t];exact m1
 have m3:∀x∈m'.bs,w.heap.size<=x:=by rw[<-t];exact m3
 have m2:w.heap.size<=m'.g:=by rw[<-t];exact m2
 rw[t]at vp;have V5:=Hd (w.heap.size+1) m' 0 (λ_=>ν) (λ_ _=>ν) id 1 ν 0 0 [] J vp (qy dP) ⟨rfl,.inl rfl⟩ (λ_=>rfl) dP (by unfold ox;rw[ae dP];rfl);clear hnb;go_wp2_with(fail);refine V5.mono ?_;rintro e wb ⟨rfl,hBR,hKM⟩;clear V5;have bb:dV w wb:=jc.below b1 hKM m1 m3;have H0:Making wb (wb.alloc (γ #[ι κ id,σ ν 0 0,π (μ ⟨w.heap.size+1,0,ν⟩),σ ν 0 0,ι κ 0] 135)) id ms 0 wb.heap.size (w.heap.size+1) (λ_=>0) (σ ν 0 0):=⟨iM.new wb _ _,Row.nil _ _,λi hi=>dP,gM _ _,Nat.le_refl _,λi hi=>dP,λk hk=>by simp[dQ]at hk,λi j hi=>dP⟩
 have Jh:∀W,dV wb W->∀i,i<n->W.cell? ⟨b,off+i,ν⟩=μ (ι κ (ms i)):=λW hW i hi=>by
  have hc:=(ai (a:=⟨b,off+i,ν⟩) (bb.block b (af _ _ (VW i hi)))).trans (VW i hi);exact(ai (a:=⟨b,off+i,ν⟩) (hW.block b (af _ _ hc))).trans hc
 have hTb:iQ wb:=hT.below bb;have HBR:Hid _:=hBR;have Un:Hid _:=bb;have HCM:Hid _:=Jh;have y:Hid _:=H0;have ZO:Hid (w.heap.size<=m'.bm/\(∀x∈m'.bs,w.heap.size<=x)/\m'.bs.length=n/\(¬m'.no (w.heap.size+1)/\¬m'.no m'.g/\∀b,(b=m'.bm \/b∈m'.bs)->¬m'.no b)/\∀k,X k->m'.no k):=by
  refine⟨m1,m3,MD,⟨λe=> ?_,λe=> ?_,λb hb e=> ?_⟩,λk hk=>by rw[lE];exact hk⟩
  ·rw[lE]at e;have T:=hX _ e;omega
  ·rw[lE]at e;have T:=hX _ e;omega
  ·rw[lE]at e;have T:=hX _ e;rcases hb with rfl|hb
   ·omega
   ·have h2:=m3 b hb;omega
 obtain⟨Bb,NZ⟩:=fP (w.heap.size+1);rw[NZ]at y HBR ZO;clear hBR bb Jh H0 b1 hKM vp m1 m2 m3 MD VW lE t;go_wp2_with(fail)
 try rw[NZ]
 obtain⟨RR,X4⟩:=fP (wb.heap.size);rw[X4]at y;rw[X4];have HRR:Hid _:=X4;have lT:=hn.1;have wP:=hn.2;have af7:=qw.1;have X5:=qw.2;clear hn qw X4
 go_loopw [39] (λx wr=>∃(q:Nat) (B:Nat->Nat) (v:dO),q<=n/\x=ι κ q/\Making wb wr id ms q RR Bb B v) (λx _=>n-(eP x).toNat)
 case atStart=>exact⟨0,_,_,Nat.zero_le _,rfl,y.out⟩
 case round=>
  obtain⟨q,B,v,hq,rfl,Q⟩:=hrel;by_cases kc:q<n
  ·have nh:(q:Int)<(n:Int):=dP;have hq0:(0:Int)<=(q:Int):=dP;have hmc:=HCM.out _ Q.nI q kc;have MD:=af _ _ hmc;have hmq:=hm q kc;have hnp:=Hu (ms q) (8*id+q+1) wr (hTb.below Q.nI) hmq dP;have HM:Hid _:=Q;clear Q;go_wp2_with(fail);refine hnp.mono ?_;rintro e J ⟨B',rfl,X6,hBg,bN⟩;clear hnp;obtain⟨D,hD⟩:=fP (rowOf 71 (uU (yK (ms q) (8*id+q+1)) B' (σ ν 0 0) JO));have H:D.size=71:=by rw[<-hD];exact lF _ _
   have oP:D.all (·.oneCell')=true:=by rw[<-hD];exact E4 Ao.zero rfl
   have hDl:D.toList.length=1*71:=by rw[gE,H]
   have Wa:∀u∈D.toList,u.oneCell'=true:=λu hu=>(bR.1 oP) u (by simpa using hu);rw[hD];have iO:=dE J Zp D 142;have M1:=HM.out.below bN;have bA:=gM J (γ D 142);have G:=M1.below bA;have hV:iM (J.alloc (γ D 142)) J.heap.size D 142:=iM.new _ _ _;have X7:=X6.below bA;go_wp2_with(refine ng _ rfl (.tmp 11) (.tmp 52) 142 rfl rfl J.heap.size Zp D rfl rfl (iM.new _ _ _) (by rw[Ny,H]) (by rw[H];exact pY) oP ?_;rw[iO]);obtain⟨W2,mW⟩:=fP (J.alloc (γ D 142));obtain⟨Y,hY⟩:=fP (J.heap.size);rw[mW]at G hV X7;rw[hY]at hV;rw[mW,hY];have hBf:B'<Y:=by rw[<-hY];exact X6.lt
   have hMY:wb.heap.size<=B':=by have T:=HM.out.nI.size;omega
   have c1:W2.cell? ⟨RR,1,ν⟩=μ v:=G.m9.cell 1;have cl:=G.m9.lt;have nj:=G.m9;have iJ:=G.row;have HO:Hid (v.ownBlock≠μ RR):=λe=>(G.gV _ e).2 rfl;have Ni:Hid _:=G;have akQ:wr.heap.size<B':=hBg;have HOY:Hid (v.ownBlock≠μ Y):=λe=>by have T:=M1.row.lt Y e;omega
   have af8:RR<Y:=by have T:=M1.m9.lt;omega
   clear iO M1 bA G mW X6 bN;have hYR:Y≠RR:=by intro e;have T:=af8;omega
   have Hv:iM (W2.alloc (γ D 142)).drew Y D 142:=iM.below hV (iZ (gM _ _));have c1b:(W2.alloc (γ D 142)).drew.cell? ⟨RR,1,ν⟩=μ v:=lH c1;have jX:∀U:dN,iM U Y D 142->(fe 142 (π (μ ⟨Y,0,ν⟩))).run eN U=.ok (.agg D) U:=λU hS=>by
    simp only[fe,Instr.sureAddr,Sem.run_bind,Sem.run_pure,Result.andThen];exact bI U Y 142 142 D (0,0) _ hS underlying142 rfl (by rw[H];exact pY)
   have lR:B'≠RR:=by have T:=HM.out.m9.lt;omega
   have rO:v.ownBlock≠μ B':=λe=>by have T:=HM.out.row.lt B' e;omega
   have hb4:∀i,i<q->B i≠B':=λi hi e=>by have T:=(HM.out.lk i hi).lt;omega
   have HD:Hid _:=hD;clear hD;refine bW (S:=λx=>iM x Y D 142) gJ hV (λE=> ?_);refine iR 0 (μ 57) rfl rfl gJ gJ gJ (λ_ _ _ h=>h) (by rfl) (v:= ?_) ?_ iL ?_
   rotate_left
   ·intro U V
    (try dsimp only at V)
    go_simp
    try with_reducible rfl
   simp only[gh,gj,gk,gp];refine iR 1 (μ 58) rfl rfl gJ gJ gJ (λ_ _ _ h=>h) (by rfl) (v:= ?_) ?_ iL ?_
   rotate_left
   ·intro U V
    (try dsimp only at V)
    go_simp
    try with_reducible rfl
   simp only[gh,gj,gk,gp];refine iR 2 (μ 59) rfl rfl gJ gJ gJ (λ_ _ _ h=>h) (by rfl) (v:= ?_) ?_ iL ?_
   rotate_left
   ·intro U V
    (try dsimp only at V)
    go_simp
    try with_reducible rfl
   simp only[gh,gj,gk,gp];refine iR 3 (μ 60) rfl rfl gJ gJ gJ (λ_ _ _ h=>h) (by rfl) (v:= ?_) ?_ iL ?_
   rotate_left
   ·intro U V
    (try dsimp only at V)
    go_simp
    try with_reducible rfl
   simp only[gh,gj,gk,gp];refine iR 5 (μ 62) rfl rfl gJ gJ gJ (λ_ _ _ h=>h) (by rfl) (v:=.agg D) ?_ iL ?_
   ·intro U V;have h7:=jX U V;simp[execOp,Act.eval,h7]
   simp only[gh,gj,gk,gp];refine aN (rs:=[4,6]) gJ gN ?_;refine aB (o:=_) rfl (λK Z=> ?_) (aB (o:=_) rfl (λK Z=> ?_) aJ)
   ·go_simp
    (try go_wp2_with(fail))
    refine Z.out _ _ (by exact hV) (λE=> ?_);clear Z K;refine aN (rs:=[6]) gJ gN ?_;refine aB (o:=_) rfl (λK Z=> ?_) aJ
    go_simp
    rw[BZ D _ (by rw[H];rfl) 71 H];refine Z.out _ _ (by exact Hv) (λE=> ?_);clear Z K;refine aN (rs:=[7]) gJ gN ?_;refine aB (o:=_) rfl (λK Z=> ?_) aJ;refine kQ (by rfl) (.tmp 61) (.tmp 63) 133 (by rfl) 142 i0 (.agg Zp) 71 144 underlying133 hi nH l8 mZ Ny dS v q (wE id ms B q) (by rfl) ((iJ.alloc _).drew) _ 1 1 D.toList (by rfl) hDl dS (B1 _ _ _ _ rfl) Wa (by unfold maxLen;omega) dP ?_;intro g' jd x1 kD M jj;have A:=rU nj M HO.out;have X8:=rU hV M HOY.out;have f1:=A.frozen 1;have k1:x1.cell? ⟨RR,1,ν⟩=μ v:=A.cell 1;refine Z.out _ _ (by exact X8) (λE=> ?_);clear Z K;refine iR 8 (μ 65) rfl rfl gJ gJ gJ (λ_ _ _ h=>h) (by rfl) (v:= ?_) ?_ iL ?_
    rotate_left
    ·intro U V
     (try dsimp only at V)
     go_simp
     try with_reducible rfl
    simp only[gh,gj];refine iR 9 (μ 66) rfl rfl gJ gJ gJ (λ_ _ _ h=>h) (by rfl) (v:= ?_) ?_ iL ?_
    rotate_left
    ·intro U V
     (try dsimp only at V)
     go_simp
     try with_reducible rfl
    simp only[gh];refine aN (rs:=[10]) gJ gN ?_;refine aB (o:=_) rfl (λK Z=> ?_) aJ
    go_simp
    (try go_wp2_with(fail))
    refine Z.out _ _ (by exact X8.other hYR _) (λE=> ?_);clear Z K;refine cD gJ ?_ _;have HAdd:Hid _:=Making.add Ni.out HD.out X7 hMY lR rO hb4 kD M jj;clear kD M jj A X8 f1 k1
    go_wp2
    go_roundw
    case rel=>exact⟨q+1,_,_,dP,by go_num,HAdd.out⟩
    case measure=>simp[eP];omega
   ·go_simp
    rw[BZ D _ (by rw[H];rfl) 71 H];refine Z.out _ _ (by exact Hv) (λE=> ?_);clear Z K;refine aN (rs:=[4]) gJ gN ?_;refine aB (o:=_) rfl (λK Z=> ?_) aJ
    go_simp
    (try go_wp2_with(fail))
    refine Z.out _ _ (by exact Hv) (λE=> ?_);clear Z K;refine aN (rs:=[7]) gJ gN ?_;refine aB (o:=_) rfl (λK Z=> ?_) aJ;refine kQ (by rfl) (.tmp 61) (.tmp 63) 133 (by rfl) 142 i0 (.agg Zp) 71 144 underlying133 hi nH l8 mZ Ny dS v q (wE id ms B q) (by rfl) ((iJ.alloc _).drew) _ 1 1 D.toList (by rfl) hDl dS (B1 _ _ _ _ rfl) Wa (by unfold maxLen;omega) dP ?_;intro g' jd x1 kD M jj;have A:=rU nj M HO.out;have X8:=rU hV M HOY.out;have f1:=A.frozen 1;have k1:x1.cell? ⟨RR,1,ν⟩=μ v:=A.cell 1;refine Z.out _ _ (by exact X8) (λE=> ?_);clear Z K;refine iR 8 (μ 65) rfl rfl gJ gJ gJ (λ_ _ _ h=>h) (by rfl) (v:= ?_) ?_ iL ?_
    rotate_left
    ·intro U V
     (try dsimp only at V)
     go_simp
     try with_reducible rfl
    simp only[gh,gj];refine iR 9 (μ 66) rfl rfl gJ gJ gJ (λ_ _ _ h=>h) (by rfl) (v:= ?_) ?_ iL ?_
    rotate_left
    ·intro U V
     (try dsimp only at V)
     go_simp
     try with_reducible rfl
    simp only[gh];refine aN (rs:=[10]) gJ gN ?_;refine aB (o:=_) rfl (λK Z=> ?_) aJ
    go_simp
    (try go_wp2_with(fail))
    refine Z.out _ _ (by exact X8.other hYR _) (λE=> ?_);clear Z K;refine cD gJ ?_ _;have HAdd:Hid _:=Making.add Ni.out HD.out X7 hMY lR rO hb4 kD M jj;clear kD M jj A X8 f1 k1
    go_wp2
    go_roundw
    case rel=>exact⟨q+1,_,_,dP,by go_num,HAdd.out⟩
    case measure=>simp[eP];omega
  ·have hqn:q=n:=dP;subst hqn;obtain⟨g,cp,hv,hR,Pt⟩:=Q.done ⟨lT,wP⟩ ⟨af7,X5⟩ hTb HBR.out ZO.out.2.2.2.1 ZO.out.2.2.1;have HF:Hid (∃z:Zt,z.R=RR/\k8 wr z (jt id q ms)/\dV w wr/\(∀k,z.mine q k->w.heap.size<=k)/\w.heap.size<=z.fm.bm/\(∀x∈z.fm.bs,w.heap.size<=x)/\∀k,X k->z.fm.no k):=by
    refine⟨_,rfl,hR,gD Un.out Q.nI,λk hk=> ?_,ZO.out.1,ZO.out.2.1,λk hk=>.inl (ZO.out.2.2.2.2 k hk)⟩;have hs:=Un.out.size;rcases DY hk with rfl|rfl|⟨i,hi,rfl⟩
    ·have:=Q.gR;omega
    ·omega
    ·have:=(Q.gB i hi).1;omega
   have zN:¬(q:Int)<(q:Int):=dP;clear Q hR Pt hv
   go_wp2
   go_ret2
   obtain⟨z,l8,mZ⟩:=HF.out;exact⟨z,by rw[l8];rfl,mZ⟩
theorem LX:(eN.info? 3).map (λi=>(i.zero,i.size,i.bytes))=μ (μ (ι κ 0),1,8):=gJ
def tr(ms:Nat->Int):Nat->List dO
 |0=>[]
 |q+1=>tr ms q++ [.int .i64 (ms q)]
theorem qo(ms:Nat->Int):∀q,(tr ms q).length=q
 |0=>rfl
 |q+1=>by unfold tr;rw[ay,qo ms q];rfl
theorem Hw(ms:Nat->Int):∀(q i:Nat),i<q->(tr ms q)[i]? =μ (ι κ (ms i))
 |q+1,i,h=>by
  unfold tr;by_cases e:i<q
  ·rw[bG (by rw[qo];exact e)];exact Hw ms q i e
  ·have:i=q:=dP;subst this;rw[bk (by rw[qo];exact Nat.le_refl _),qo,Nat.sub_self];rfl
theorem vI(N b i:Nat)(E:List (Int×Int×Int))(ms:Nat->Int)(w:dN)(hc:w.cell? ⟨N,2,ν⟩=μ (.map (μ b)))(hm:nA w b E)(hE:Ar E)(hi6:i<6)(ht:∀p:Nat,p<3->(jF E ((i:Int)+1) (p:Int)).getD 1=ms p/\1<=ms p/\ms p<=20)(hT:iQ w)(X:Nat->Prop)(hX:∀k,X k->k<w.heap.size):
 Calls eN 96 #[π (μ ⟨N,0,ν⟩),ι κ ((i:Int)+1)] w λe w'=>∃z,e=ρ (τ #[π (μ ⟨z.R,0,ν⟩),η])/\k8 w' z (jt ((i:Int)+1) 3 ms)/\dV w w'/\(∀k,z.mine 3 k->w.heap.size<=k)/\w.heap.size<=z.fm.bm/\(∀x∈z.fm.bs,w.heap.size<=x)/\∀k,X k->z.fm.no k:=by
 obtain⟨i0,hi,nH,l8,mZ⟩:=aT LX;have Nl:=af _ _ hc;have bl:b<w.heap.size:=by
  obtain⟨es,clock,h1,_⟩:=hm;exact(au.1 h1).1
 have HL:Hid (∀W,dV w W->∀p:Nat,p<3->(Instr.lookup 184 (.map (μ b)) (.agg #[ι κ ((i:Int)+1),ι κ (p:Int)]) true).run eN W=.ok (τ #[ι κ ((jF E ((i:Int)+1) (p:Int)).getD 0),.bool (jF E ((i:Int)+1) (p:Int)).isSome]) W):=by
  intro W D p hp;exact nA.look (hm.keep (D.block b bl)) hE ⟨dP,dP,dP,dP⟩
 have HC:Hid (∀W,dV w W->W.cell? ⟨N,2,ν⟩=μ (.map (μ b))/\N<W.heap.size):=by
  intro W D;exact⟨(ai (a:=⟨N,2,ν⟩) (D.block N Nl)).trans hc,Nat.lt_of_lt_of_le Nl D.size⟩
 have HT:Hid _:=ht;have NR:Hid _:=hT;clear hm hc ht hT
 go_in
 go_wp2
 go_loopw [6,10] (λv x wr=>∃q:Nat,q<=3/\x=ι κ q/\Row wr 1 v q (tr ms q)/\(∀k,v.ownBlock=μ k->w.heap.size<=k)/\dV w wr) (λ_ x _=>3-(eP x).toNat)
 case atStart=>exact⟨0,Nat.zero_le _,rfl,Row.nil _ _,λk Z=>by simp[dQ]at Z,aq _ _⟩
 case round=>
  obtain⟨q,hq,rfl,Y,iY,V⟩:=hrel;by_cases kc:q<3
  ·have nh:(q:Int)<3:=dP;have y:=HL.out wr V q kc;obtain⟨d2,dl⟩:=HC.out wr V;obtain⟨t1,t2,t3⟩:=HT.out q kc;have HR:Hid _:=Y;have G:Hid _:=iY;have U:Hid _:=V;clear iY V;cases A:jF E ((i:Int)+1) (q:Int)with
   |none=>
    rw[A]at y t1;have t:Hid (ms q=1):=t1.symm;have h:(Option.getD (ν:Option Int) 0)=0:=rfl;have e1:(Option.isSome (ν:Option Int))=false:=rfl;rw[h,e1]at y;clear A t1;go_wp2_with(at_builtin;go_must(refine iu _ rfl (.tmp 26) (.tmp 28) 22 rfl 3 i0 (ι κ 0) 1 8 underlying22 hi nH l8 mZ rfl dS u6 q (tr ms q) rfl (Y.alloc _) _ 1 1 [ι κ 1] rfl rfl dS (pg _ _ _) (uP _ _) (by unfold maxLen;omega) dP ?_));intro T Q J S M H;have u:Hid (Row J 1 (σ (μ ⟨T,0,ν⟩) (q+1) Q) (q+1) (tr ms (q+1))/\(∀k,dQ (σ (μ ⟨T,0,ν⟩) (q+1) Q)=μ k->w.heap.size<=k)/\dV w J):=by
     have hs:=U.out.size;refine⟨by unfold tr;rw[t.out];exact S,λk Z=> ?_,?_⟩
     ·have:T=k:=by simpa[dQ]using Z
      subst this;rcases H with e|e
      ·exact G.out _ e
      ·have:(wr.alloc (γ #[ι κ 1] 3)).heap.size=wr.heap.size+1:=gN;omega
     ·exact(U.out.alloc hs _).grown M (by simp;omega) (λk Z=>G.out k (by rw[<-Z]))
    clear S M H Y
    go_wp2
    go_roundw
    case rel=>exact⟨q+1,dP,by go_num,u.out⟩
    case measure=>simp[eP];omega
   |some m=>
    rw[A]at y t1;have t:Hid (ms q=m):=t1.symm;have h:(Option.getD (μ m) 0)=m:=rfl;have e1:(Option.isSome (μ m))=true:=rfl;rw[h,e1]at y;clear A t1;go_wp2_with(at_builtin;go_must(refine iu _ rfl (.tmp 26) (.tmp 28) 22 rfl 3 i0 (ι κ 0) 1 8 underlying22 hi nH l8 mZ rfl dS u6 q (tr ms q) rfl (Y.alloc _) _ 1 1 [ι κ m] rfl rfl dS (pg _ _ _) (uP _ _) (by unfold maxLen;omega) dP ?_));intro T Q J S M H;have u:Hid (Row J 1 (σ (μ ⟨T,0,ν⟩) (q+1) Q) (q+1) (tr ms (q+1))/\(∀k,dQ (σ (μ ⟨T,0,ν⟩) (q+1) Q)=μ k->w.heap.size<=k)/\dV w J):=by
     have hs:=U.out.size;refine⟨by unfold tr;rw[t.out];exact S,λk Z=> ?_,?_⟩
     ·have:T=k:=by simpa[dQ]using Z
      subst this;rcases H with e|e
      ·exact G.out _ e
      ·have:(wr.alloc (γ #[ι κ m] 3)).heap.size=wr.heap.size+1:=gN;omega
     ·exact(U.out.alloc hs _).grown M (by simp;omega) (λk Z=>G.out k (by rw[<-Z]))
    clear S M H Y
    go_wp2
    go_roundw
    case rel=>exact⟨q+1,dP,by go_num,u.out⟩
    case measure=>simp[eP];omega
  ·obtain rfl:q=3:=dP;have S:=Y;have Ub:∃g cap,u6=σ (μ ⟨g,0,ν⟩) 3 cap:=by
    rcases Y.2 with⟨_,e2⟩|⟨g,cap,e,_⟩
    ·omega
    ·exact⟨g,cap,e⟩
   obtain⟨g,cap,rfl⟩:=Ub;have iO:=Ru ((i:Int)+1) g 0 3 cap ms wr (iQ.below (w:=w) NR.out V) dP dP (λj hj=>by
    have:=Row.cell Y j _ (Hw ms 3 j hj);rw[Nat.zero_add];exact this) (λj hj=>(HT.out j hj).2) X (λk Z=>Nat.lt_of_lt_of_le (hX k Z) V.size)
   have U:Hid _:=V;have h33:((3:Nat):Int)=3:=rfl;clear Y iY V S;go_wp2_with(fail);refine iO.mono ?_;rintro e w1 ⟨z,rfl,hz⟩;have HZ:Hid _:=hz;clear iO hz
   go_wp2
   go_ret2
   have hs:=U.out.size;obtain⟨z1,z2,z3,z4,z5,z6⟩:=HZ.out;exact⟨z,rfl,z1,gD U.out z2,λk Z=>Nat.le_trans hs (z3 k Z),Nat.le_trans hs z4,λx hx=>Nat.le_trans hs (z5 x hx),z6⟩
