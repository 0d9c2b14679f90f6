import Derived.Test.YtieklnlbljejdaaGreatDoorT20
import Derived.Test.YtieklnlbljejdaaGreatDoorT23
open Go.Value renaming int → ι, slice → σ, pointer → π, tuple → τ, nilIface → η
open Go.IntKind renaming i64 → κ
open Go.Ending renaming returned → ρ
open Go.Obj renaming cells → γ
open Option renaming none → ν, some → μ
open Go renaming World → dN, Calls → eM
open Go.Proofs.Tryz renaming prog → eN
open List renaming range → fG, append_nil → gH, length_append → eD, length_cons → eE, length_nil → eQ
open Go.RowKit renaming intOf → eP
open Go.Value renaming ownBlock → dQ, cells → eZ
open Classical renaming choose → gK
set_option maxRecDepth 100000
set_option maxHeartbeats 4000000
open Go.Proofs.Tryz
namespace Go.Proofs.YtieklnlbljejdaaGreatDoor
open Go.RowKit St
namespace Rt
variable {a:Option Addr} {r:iy} {w:World} {z:Zt}
def o9(l:List Nat):List Value:=l.map λ(n:Nat)=>Value.int .i64 (n:Int)
def qW(n:iB)(k c:Nat):Bool:=(n.C c).jr&& (((n.C c).e 0).1==k||((n.C c).e 1).1==k)
theorem Fe(y:Yt)(n:iB)(k:Nat)(w:dN)(h:jl w y n):
 eM eN 115 #[π (μ ⟨y.N,0,ν⟩),ι κ ((k:Int)+1)] w λe w'=>∃v,e=ρ v/\Row w' 1 v (n.kH k).length (o9 (n.kH k))/\(∀b,v.ownBlock=μ b->w.heap.size<=b)/\dV w w':=by
 obtain⟨i0,hi,nH,l8,mZ⟩:=aT LX;have c3:=h.k3;obtain⟨a,cp,tU,HJ⟩:=h.XM;rw[tU]at c3;have cl:=h.vH;have c9:=h.c9;obtain⟨nc,J⟩:=fP (n.nc);have HGC:Hid (∀c,c<nc->∃g,y.gC=μ g/\a=μ ⟨g,0,ν⟩):=by
  show∀c,_->_;rw[<-J];exact HJ
 have HF:Hid (∀W q g,dV w W->q<nc->y.gC=μ g->∃T E c0 S n1 c1,W.cell? ⟨g,q*7,ν⟩=μ (ι κ ((((n.C q).e 0).1:Int)+1))/\W.cell? ⟨g,q*7+1,ν⟩=μ (ι κ (((n.C q).e 0).2:Int))/\W.cell? ⟨g,q*7+2,ν⟩=μ (ι κ ((((n.C q).e 1).1:Int)+1))/\W.cell? ⟨g,q*7+3,ν⟩=μ (ι κ (((n.C q).e 1).2:Int))/\W.cell? ⟨g,q*7+4,ν⟩=μ (.bool (n.C q).jr)/\W.cell? ⟨g,q*7+5,ν⟩=μ (σ T E c0)/\W.cell? ⟨g,q*7+6,ν⟩=μ (σ S n1 c1)/\g<W.heap.size):=by
  intro W q g hb hq hg;have R:=h.below hb;have hC:=R.rc g hg q (by rw[J];exact hq);obtain⟨T,c0,e0⟩:=Row.shape (R.ob q 0 (by rw[J];exact hq) dS);obtain⟨S,c1,e1⟩:=Row.shape (R.ob q 1 (by rw[J];exact hq) dS);refine⟨T,((n.C q).on 0).length,c0,S,((n.C q).on 1).length,c1,hC.cell 0 dS,hC.cell 1 dS,hC.cell 2 dS,hC.cell 3 dS,hC.cell 4 dS,?_,?_,hC.lt dS⟩
  ·rw[<-e0];exact hC.cell 5 dS
  ·rw[<-e1];exact hC.cell 6 dS
 have HE:Hid (n.kH k=(fG nc).filter (qW n k)):=by
  show _=_;rw[<-J];rfl
 rw[J]at c3 c9;clear h HJ tU J
 go_in
 go_wp2
 go_loopw [5,13] (λv x wr=>∃q:Nat,q<=nc/\x=ι κ q/\Row wr 1 v ((fG q).filter (qW n k)).length (o9 ((fG q).filter (qW n k)))/\(∀b,v.ownBlock=μ b->w.heap.size<=b)/\dV w wr) (λ_ x _=>nc-(eP x).toNat)
 case atStart=>exact⟨0,Nat.zero_le _,rfl,Row.nil _ _,λb hb=>by simp[dQ]at hb,aq _ _⟩
 case round=>
  obtain⟨q,hq,rfl,Y,iY,D⟩:=hrel;by_cases kc:q<nc
  ·have nh:(q:Int)<(nc:Int):=dP;have hq0:(0:Int)<=(q:Int):=dP;obtain⟨g,hg,rfl⟩:=HGC.out q kc;obtain⟨T,E,c0,S,n1,c1,k0,k1,k2,k3,k4,k5,k6,gl⟩:=HF.out wr q g D kc hg;have HP:Hid ((fG (q+1)).filter (qW n k)=(fG q).filter (qW n k)++if qW n k q=true then [q]else []):=by
    show _=_;rw[cH,bX];congr 1;by_cases e:qW n k q=true
    ·rw[ag e,List.filter_cons_of_pos e];rfl
    ·rw[ae e,List.filter_cons_of_neg e];rfl
   have Z:qW n k q=((n.C q).jr&& (((n.C q).e 0).1==k||((n.C q).e 1).1==k)):=rfl;have HR:Hid _:=Y;have H:Hid _:=iY;have U:Hid _:=D;clear iY D hg;obtain⟨L,G⟩:=fP ((fG q).filter (qW n k));have hLq:L.length<=q:=by
    rw[<-G];have:=cy (qW n k) (fG q);simpa using this
   rw[G]at Y HP;generalize ((n.C q).e 0).1=V at k0 Z;generalize ((n.C q).e 1).1=r1 at k2 Z;generalize ((n.C q).e 0).2=p0 at k1;generalize ((n.C q).e 1).2=p1 at k3;generalize (n.C q).jr=jr at k4 Z;cases jr with
   |false=>
    have Yk:True:=trivial;have Dd:True:=trivial;have X:qW n k q=false:=by rw[Z];first|rfl|simp[Yk,Dd]
    have Q:Hid (Row (wr.alloc (γ #[ι κ ((V:Int)+1),ι κ (p0:Int),ι κ ((r1:Int)+1),ι κ (p1:Int),.bool false,σ T E c0,σ S n1 c1] 197)) 1 u5 ((fG (q+1)).filter (qW n k)).length (o9 ((fG (q+1)).filter (qW n k)))/\(∀b,u5.ownBlock=μ b->w.heap.size<=b)/\dV w (wr.alloc (γ #[ι κ ((V:Int)+1),ι κ (p0:Int),ι κ ((r1:Int)+1),ι κ (p1:Int),.bool false,σ T E c0,σ S n1 c1] 197))):=by
     rw[HP.out,X];simp only[Bool.false_eq_true,if_false,gH];exact⟨Y.alloc _,H.out,U.out.alloc U.out.size _⟩
    clear Y Z X G
    go_wp2
    go_roundw
    case rel=>exact⟨q+1,dP,by go_num,Q.out⟩
    case measure=>simp[eP];omega
   |true=>
    by_cases h0:V=k
    ·rw[h0]at k0 Z;have X:qW n k q=true:=by rw[Z];simp
     go_wp2_with(at_builtin;go_must(refine iu _ rfl (.tmp 36) (.tmp 38) 22 rfl 3 i0 (ι κ 0) 1 8 underlying22 hi nH l8 mZ rfl dS u5 L.length (o9 L) rfl ((Y.alloc _).alloc _) _ 1 1 [ι κ (q:Int)] rfl rfl dS (wj _ _ _ _ gN) (uP _ _) (by unfold maxLen;omega) dP ?_));intro M A j u t xj;have Q:Hid (Row j 1 (σ (μ ⟨M,0,ν⟩) (L.length+1) A) ((fG (q+1)).filter (qW n k)).length (o9 ((fG (q+1)).filter (qW n k)))/\(∀b,dQ (σ (μ ⟨M,0,ν⟩) (L.length+1) A)=μ b->w.heap.size<=b)/\dV w j):=by
      have hs:=U.out.size;rw[HP.out,X];simp only[if_true,eD,eE,eQ];refine⟨?_,λb hb=> ?_,?_⟩
      ·have e9:o9 (L++ [q])=o9 L++ [ι κ (q:Int)] :=by simp[o9]
       rw[e9];exact u
      ·have:M=b:=by simpa[dQ]using hb
       subst this;rcases xj with e|e
       ·exact H.out _ e
       ·(try simp at e)
        omega
      ·exact((U.out.alloc hs _).alloc (by simp;omega) _).grown t (by simp;omega) (λb hb=>H.out b (by rw[<-hb]))
     clear u t xj Y Z X G
     go_wp2
     go_roundw
     case rel=>exact⟨q+1,dP,by go_num,Q.out⟩
     case measure=>simp[eP];omega
    ·have Yk:(V==k)=false:=by simpa using h0
     have hz:¬((V:Int)+1=(k:Int)+1):=dP;have hz':((V:Int)+1==(k:Int)+1)=false:=by simpa using hz
     have UF:¬((V:Int)=(k:Int)):=dP;by_cases h1:r1=k
     ·rw[h1]at k2 Z;have X:qW n k q=true:=by rw[Z];simp
      go_wp2_with(at_builtin;go_must(refine iu _ rfl (.tmp 36) (.tmp 38) 22 rfl 3 i0 (ι κ 0) 1 8 underlying22 hi nH l8 mZ rfl dS u5 L.length (o9 L) rfl ((Y.alloc _).alloc _) _ 1 1 [ι κ (q:Int)] rfl rfl dS (wj _ _ _ _ gN) (uP _ _) (by unfold maxLen;omega) dP ?_));intro M A j u t xj;have Q:Hid (Row j 1 (σ (μ ⟨M,0,ν⟩) (L.length+1) A) ((fG (q+1)).filter (qW n k)).length (o9 ((fG (q+1)).filter (qW n k)))/\(∀b,dQ (σ (μ ⟨M,0,ν⟩) (L.length+1) A)=μ b->w.heap.size<=b)/\dV w j):=by
       have hs:=U.out.size;rw[HP.out,X];simp only[if_true,eD,eE,eQ];refine⟨?_,λb hb=> ?_,?_⟩
       ·have e9:o9 (L++ [q])=o9 L++ [ι κ (q:Int)] :=by simp[o9]
        rw[e9];exact u
       ·have:M=b:=by simpa[dQ]using hb
        subst this;rcases xj with e|e
        ·exact H.out _ e
        ·(try simp at e)
         omega
       ·exact((U.out.alloc hs _).alloc (by simp;omega) _).grown t (by simp;omega) (λb hb=>H.out b (by rw[<-hb]))
      clear u t xj Y Z X G
      go_wp2
      go_roundw
      case rel=>exact⟨q+1,dP,by go_num,Q.out⟩
      case measure=>simp[eP];omega
     ·have Dd:(r1==k)=false:=by simpa using h1
      have hy:¬((r1:Int)+1=(k:Int)+1):=dP;have oQ:((r1:Int)+1==(k:Int)+1)=false:=by simpa using hy
      have hy3:¬((r1:Int)=(k:Int)):=dP;have X:qW n k q=false:=by rw[Z];first|rfl|simp[Yk,Dd]
      have Q:Hid (Row (wr.alloc (γ #[ι κ ((V:Int)+1),ι κ (p0:Int),ι κ ((r1:Int)+1),ι κ (p1:Int),.bool true,σ T E c0,σ S n1 c1] 197)) 1 u5 ((fG (q+1)).filter (qW n k)).length (o9 ((fG (q+1)).filter (qW n k)))/\(∀b,u5.ownBlock=μ b->w.heap.size<=b)/\dV w (wr.alloc (γ #[ι κ ((V:Int)+1),ι κ (p0:Int),ι κ ((r1:Int)+1),ι κ (p1:Int),.bool true,σ T E c0,σ S n1 c1] 197))):=by
       rw[HP.out,X];simp only[Bool.false_eq_true,if_false,gH];exact⟨Y.alloc _,H.out,U.out.alloc U.out.size _⟩
      clear Y Z X G
      go_wp2
      go_roundw
      case rel=>exact⟨q+1,dP,by go_num,Q.out⟩
      case measure=>simp[eP];omega
  ·obtain rfl:q=nc:=dP;have HW:Hid (Row wr 1 u5 (n.kH k).length (o9 (n.kH k))/\(∀b,u5.ownBlock=μ b->w.heap.size<=b)/\dV w wr):=by
    show _/\_/\_;rw[HE.out];exact⟨Y,iY,D⟩
   have zN:¬(q:Int)<(q:Int):=dP;clear Y iY D
   go_wp2
   go_ret;exact⟨_,rfl,HW.out⟩
theorem k8.wz(h:k8 w z r)(Z:r.n=3) {b:Nat} (hb:z.nZ b):b<w.heap.size:=by
 rcases hb with e|e|e
 ·have:=h.yD b;rw[Z]at this;exact this e
 ·exact h.bs.mlt b (.inl e)
 ·exact h.bs.mlt b (.inr e)
theorem k8.Ic(h:k8 w z r)(Y:r.n=3) {g:Nat} (Z:z.fm.no g/\¬z.mine 3 g)(j:Nat)(v:Value):k8 (w.setCell ⟨g,j,ν⟩ v) (z.plus λ_=>False) r:=by
 refine h.besides gN (λk _ hc=>ak _ _ _ k (λe=> ?_)) _ (λk e=>e.elim);have e':k=g:=e;subst e';rcases hc with hc|hc
 ·exact hc Z.1
 ·rw[Y]at hc;exact Z.2 hc
theorem jl.renew {W0 W2 W3:dN} {y y1:Yt} {n n3:iB} {k:Nat} (h0:jl W0 y n)(hk:k<n.n)(hb:dV W0 W2)(hz:k8 W2 z r)(hr:r.n=3/\r.id=(k:Int)+1)
 (h:∀b,z.nZ b->W0.heap.size<=b) (ZU:∀b,y.all n.n b \/y.ext b->z.fm.no b) (Bf:y.same y1) (Ym:∀b,y1.all n.n b↔y.all n.n b) (wU:∀b,y1.ext b↔y.ext b \/z.nZ b)
 (hW:il W2 W3 y1 n3 n.n) (M:n3.n=n.n):
 ∃y2,jl (W3.setCell ⟨y.gR,k,ν⟩ (π (μ ⟨z.R,0,ν⟩))) y2 (n3.jg k r)/\y.same y2/\(∀b,y2.all n.n b->y.all n.n b \/z.nZ b \/W2.heap.size<=b)/\(∀b,y2.ext b↔y.ext b)/\vG W0 (W3.setCell ⟨y.gR,k,ν⟩ (π (μ ⟨z.R,0,ν⟩))) y n.n:=by
 obtain⟨y',R',s',UA,t⟩:=hW.ex;have H:=hW.kept;have Uu:y'.gR=y.gR:=s'.gR.trans Bf.gR;have Yn:y'.bM=y.bM:=s'.bM.trans Bf.bM;have agq:∀b,z.nZ b->b<W2.heap.size:=λb e=>hz.wz hr.1 e;have nS:∀b,y'.all n.n b->y.all n.n b \/W2.heap.size<=b:=λb e=>(UA b e).imp_left (Ym b).1;have RE:∀b,y.all n.n b->b<W0.heap.size:=λb e=>h0.zy e;have agr:∀b,y'.all n.n b->b<W3.heap.size:=λb e=>R'.zy (by rw[M];exact e);obtain⟨X,I6⟩:∃X:Nat->Prop,X=λb=>W2.heap.size<=b/\b<W3.heap.size/\y'.all n.n b:=⟨_,rfl⟩
 have hX:∀b,X b->W2.heap.size<=b/\b<W3.heap.size:=λb e=>by rw[I6]at e;exact⟨e.1,e.2.1⟩
 have UF:k8 W3 (z.plus X) r:=by
  refine hz.besides H.size (λb G hc=>H.block b G (λe=> ?_)) X hX;have Y:=(Ym b).1 e;rcases hc with hc|hc
  ·exact hc (ZU b (.inl Y))
  ·rw[hr.1]at hc;have:=h b (.inl hc);have:=RE b Y;omega
 have iO:∀b,y'.all n.n b->(z.fm.no b \/X b)/\¬z.mine 3 b:=λb e=>by
  rcases nS b e with Y|Y
  ·exact⟨.inl (ZU b (.inl Y)),λV=>by have:=h b (.inl V);have:=RE b Y;omega⟩
  ·exact⟨.inr (by rw[I6];exact⟨Y,agr b e,e⟩),λV=>by have:=agq b (.inl V);omega⟩
 have Kw:y'.own y.gR:=⟨.R,by rw[<-Uu];rfl⟩
 have ab3:(z.plus X).fm.no y.gR/\¬(z.plus X).mine 3 y.gR:=iO y.gR (.inl Kw);obtain⟨T,D⟩:=fP (W3.setCell ⟨y.gR,k,ν⟩ (π (μ ⟨z.R,0,ν⟩)));have TK:k8 T ((z.plus X).plus λ_=>False) r:=by rw[<-D];exact UF.Ic hr.1 ab3 k _
 have C6:∀j,j<n.n->k8 T ((y'.z j).plus λ_=>False) (n3.R j):=λj U=>by
  rw[<-D];exact(R'.rt j (by rw[M];exact U)).Ic (R'.rn j (by rw[M];exact U)).1 (R'.away j (by rw[M];exact U) y.gR (.inl Kw)) k _
 have nj:∀b,b≠y.gR->T.heap[b]? =W3.heap[b]? :=λb e=>by rw[<-D];exact ak _ _ _ b e
 have pY:T.heap.size=W3.heap.size:=by rw[<-D];simp
 have hat:∀l b,y'.at l=μ b->l≠ .R->T.heap[b]? =W3.heap[b]? :=λl b e hl=>nj b (λY=>R'.uq e (show y'.at .R=μ y'.gR from rfl) hl (by rw[Uu];exact Y));obtain⟨Z,hZ⟩:∃Z:Nat->Zt,Z=λj=>if j=k then(z.plus X).plus λ_=>False else(y'.z j).plus λ_=>False:=⟨_,rfl⟩
 have Q:Z k=(z.plus X).plus λ_=>False:=by rw[hZ];simp
 have Uj:∀j,j≠k->Z j=(y'.z j).plus λ_=>False:=λj U=>by rw[hZ];simp[U]
 have S:∀j b,(Z j).nZ b->(j=k/\z.nZ b) \/(j≠k/\(y'.z j).nZ b):=λj b e=>by
  by_cases ej:j=k
  ·subst ej;rw[Q]at e;exact .inl ⟨rfl,e⟩
  ·rw[Uj j ej]at e;exact .inr ⟨ej,e⟩
 have ab4:vG W0 T y n.n:=by
  have b1:Below 0 W3 T:=by rw[<-D];exact(aq 0 W3).setCell (Nat.zero_le _) _
  refine⟨b1.os.trans (H.os.trans hb.os),b1.tape.trans (H.tape.trans hb.tape),b1.output.trans (H.output.trans hb.output),by rw[pY];exact Nat.le_trans hb.size H.size,λb G hn=> ?_⟩;have Y:b≠y.gR:=λe=>hn (.inl ⟨.R,by rw[e];rfl⟩);rw[nj b Y,H.block b (Nat.lt_of_lt_of_le G hb.size) (λe=>hn ((Ym b).1 e)),hb.block b G]
 rw[D];refine⟨{y' with z:=Z,ext:=λb=>y'.ext b/\¬z.nZ b},⟨R'.n1,R'.n6,R'.c9,R'.m9.keep (hat .N _ rfl (λe=>nomatch e)),?_,R'.ri.keep (hat .I _ rfl (λe=>nomatch e)),λg hg c hc=>(R'.rc g hg c hc).keep (hat .C _ hg (λe=>nomatch e)),R'.gc,?_,?_,?_,λj U=>(R'.ib j U).keep dP (λb e=>hat (.ib j) b e (λe=>nomatch e)),λc d hc hd=>(R'.ob c d hc hd).keep dP (λb e=>hat (.on c d) b e (λe=>nomatch e)),R'.ol,R'.en,R'.inj,?_,λb e=>R'.nx b e.1,⟨R'.nM.1,λe=>R'.nM.2.1 e.1,?_⟩,R'.z0⟩,Yt.wy Bf (Yt.wy s' ⟨rfl,rfl,rfl,rfl,rfl,rfl,rfl,rfl⟩),?_,?_,ab4⟩
 ·have A:=R'.rr.set k (by rw[M];exact hk) (π (μ ⟨z.R,0,ν⟩));rw[Uu,Nat.zero_add,D]at A;show oV T y'.gR 0 n3.n _;rw[Uu];refine A.congr λj U=> ?_;show qV _ k _ j=π (μ ⟨(Z j).R,0,ν⟩);by_cases e:j=k
  ·subst e;rw[Q];unfold qV;simp;rfl
  ·rw[Uj j e,jn _ _ e];rfl
 ·obtain⟨E,A,h2⟩:=R'.mp;refine⟨E,A.keep (nj y'.bM (λe=>R'.nM.1 ?_)),h2⟩;rw[e];exact Kw
 ·intro j U;show k8 T (Z j) (jy n3.R k r j);by_cases e:j=k
  ·subst e;rw[Q,ij];exact TK
  ·rw[Uj j e,gW _ _ e];exact C6 j (by rw[<-M];exact U)
 ·intro j U;show(jy n3.R k r j).n=3/\(jy n3.R k r j).id=(j:Int)+1;by_cases e:j=k
  ·subst e;rw[ij];exact hr
  ·rw[gW _ _ e];exact R'.rn j U
 ·intro i hi b G;have kV:i<n.n:=by rw[<-M];exact hi
  show(Z i).fm.no b/\¬(Z i).mine 3 b;by_cases ei:i=k
  ·subst ei;rw[Q];have u:(z.fm.no b \/X b)/\¬z.mine 3 b:=by
    rcases G with e|e|⟨j,U,jq,e⟩
    ·exact iO b (.inl e)
    ·have Y:=(t b).1 e.1;rcases(wU b).1 Y with V|V
     ·exact⟨.inl (ZU b (.inr V)),λJ=>e.2 (.inl J)⟩
     ·exact absurd V e.2
    ·rcases S j b e with⟨Y,_⟩|⟨Y,V⟩
     ·exact absurd Y jq
     ·exact iO b (.inr ⟨j,by rw[<-M];exact U,V⟩)
   exact⟨.inl u.1,u.2⟩
  ·rw[Uj i ei];have u:(y'.z i).fm.no b/\¬(y'.z i).mine 3 b:=by
    rcases G with e|e|⟨j,U,jq,e⟩
    ·exact R'.away i hi b (.inl e)
    ·exact R'.away i hi b (.inr (.inl e.1))
    ·rcases S j b e with⟨Y,V⟩|⟨Y,V⟩
     ·exact R'.away i hi b (.inr (.inl ((t b).2 ((wU b).2 (.inr V)))))
     ·exact R'.away i hi b (.inr (.inr ⟨j,U,jq,V⟩))
   exact⟨.inl u.1,u.2⟩
 ·intro i hi e;show False;rcases S i _ e with⟨_,V⟩|⟨_,V⟩
  ·have J:=h _ V;have A:=h0.DP;have e4:W0.heap.size<=y'.bM:=J;rw[Yn]at e4;omega
  ·exact R'.nM.2.2 i hi V
 ·intro b e;rcases e with e|⟨j,U,e⟩
  ·rcases nS b (.inl e)with Y|Y
   ·exact .inl Y
   ·exact .inr (.inr Y)
  ·rcases S j b e with⟨_,V⟩|⟨_,V⟩
   ·exact .inr (.inl V)
   ·rcases nS b (.inr ⟨j,U,V⟩)with Y|Y
    ·exact .inl Y
    ·exact .inr (.inr Y)
 ·intro b;constructor
  ·rintro⟨Y,V⟩;rcases(wU b).1 ((t b).1 Y)with J|J
   ·exact J
   ·exact absurd J V
  ·intro e;refine⟨(t b).2 ((wU b).2 (.inl e)),λV=> ?_⟩;have A:=h0.lt (.inr e);have h2:=h b V;omega
theorem Cb(up:Bool):∀(l:List Nat) (y:iB) (c:Nat),y.jo up (l++ [c])=(y.jo up l).jC c up
 |[],_,_=>rfl
 |_::l,_,c=>Cb up l _ c
theorem RF(l:List Nat)(j:Nat)(h:j<l.length):(o9 l)[j]? =μ (ι κ (l[j] :Int)):=by simp[o9,h]
theorem xL(Z:dN)(y:Yt)(T M:iB)(D m:Nat)(up:Bool)(L:List Nat)(G:jl Z y T)(S:T.n=m)(u:iQ Z)(t:jN M D 20)(A:D<=900000000)(X:∀c∈L,c<M.nc)(hl:L.length<=9)(Y:M.n=m)(q:Nat)(U:q<L.length)(W:dN)(V:il Z W y (M.jo up (L.take q)) m):
 eM eN 113 #[π (μ ⟨y.N,0,ν⟩),ι κ (L[q] :Int),.bool up] W λe w'=>e=ρ (τ #[])/\il Z w' y (M.jo up (L.take (q+1))) m:=by
 have J:=V.tab G S u;obtain⟨h,s2,s3,s4,s5⟩:=l7 up (L.take q) M;have j:=jN.jo dP up (L.take q) t (λc hc=>X c (List.mem_of_mem_take hc));have hlq:(L.take q).length<=q:=bV _ _;have H:M.jo up (L.take (q+1))=(M.jo up (L.take q)).jC L[q] up:=by
  rw[aw U,Cb]
 rw[H];refine V.call λy1 Q E=> ?_;rw[<-E.N];have:=D3 y1 _ D _ L[q] up W Q J j A dP (by rw[s2];exact X _ (aD U));rw[h,Y]at this;exact this
theorem Ig(y:Yt)(n:iB)(D:Nat)(i:Int)(w:dN)(h:jl w y n)(hT:iQ w)(iC:jN n D 0)(hD:D<=900000000):
 eM eN 62 #[π (μ ⟨y.N,0,ν⟩),ι κ i] w λe w'=>e=ρ (iP (n.restart i).2)/\il w w' y (n.restart i).1 n.n:=by
 have hh:=pH y n i w h;rcases wC i n.n with⟨hn,hi⟩|⟨k,hk,rfl⟩
 ·have hE:n.restart i=(n,6):=by unfold iB.restart;rw[ag hi]
  rw[hE];rw[hn]at hh;have j:Hid _:=il.refl h;clear h iC hT
  go_in
  go_wp2_with(fail);refine hh.mono ?_;rintro e w1 ⟨rfl,rfl⟩;clear hh
  go_wp2
  go_ret;exact⟨rfl,j.out⟩
 ·rw[xF hk]at hh;have n6:=h.n6;obtain⟨L,hL⟩:=fP (n.kH k);have hE:n.restart ((k:Int)+1)=((((n.jo false L).jg k (jt ((k:Int)+1) 3 (n.ms k))).jo true L).gather,0):=by
   unfold iB.restart;have e1:((k:Int)+1-1).toNat=k:=dP;rw[ae dP,e1,hL]
  rw[hE];have e0:iP 0=η:=rfl;rw[e0];obtain⟨E,hEm,hET,hEO⟩:=h.mp;have LD:=vI y.N y.bM k E (n.ms k) w h.k2 hEm hEO dP (λp hp=>hET k p hk hp) hT (λb=>y.all n.n b \/y.ext b) (λb hb=>hb.elim (λe=>h.zy e) (λe=>h.lt (.inr e)));have hLl:L.length<=9:=by
   rw[<-hL];exact Nat.le_trans (wG n k) h.c9
  have hLc:∀c∈L,c<n.nc:=λc hc=>by rw[<-hL]at hc;exact yL c hc
  have RG:Hid (∀W,dV w W->eM eN 115 #[π (μ ⟨y.N,0,ν⟩),ι κ ((k:Int)+1)] W λe w'=>∃v,e=ρ v/\Row w' 1 v L.length (o9 L)/\(∀b,v.ownBlock=μ b->W.heap.size<=b)/\dV W w'):=by
   intro W X;have:=Fe y n k W (h.below X);rw[hL]at this;exact this
  have HH:Hid _:=h;have HT:Hid _:=hT;have PO:Hid _:=iC;have HK:Hid _:=hk;have J:Hid _:=hLc;clear h hT iC hEm hET hEO hE hL hLc
  go_in
  go_wp2_with(fail);refine hh.mono ?_;rintro e w1 ⟨rfl,rfl⟩;clear hh;go_wp2_with(fail);refine LD.mono ?_;rintro e W1 ⟨z,rfl,l8,jV,UF,hz4,hz5,hz6⟩;have hca:=RG.out W1 jV;have HZ1:Hid _:=l8;have CS:Hid _:=jV;have UG:Hid (∀b,z.nZ b->w.heap.size<=b):=by
   intro b hb;rcases hb with e|e|e
   ·exact UF b e
   ·rw[e];exact hz4
   ·exact hz5 b e
  have HZX:Hid (∀b,y.all n.n b \/y.ext b->z.fm.no b):=λb hb=>hz6 b hb;clear LD l8 jV UF hz4 hz5 hz6;go_wp2_with(fail);refine hca.mono ?_;rintro e S ⟨v,rfl,iJ,iY,lR⟩;clear hca;have RH:dV w S:=gD CS.out lR;have mZ:k8 S z (jt ((k:Int)+1) 3 (n.ms k)):=HZ1.out.below lR;have sv:(jt ((k:Int)+1) 3 (n.ms k)).n=3/\(jt ((k:Int)+1) 3 (n.ms k)).id=(k:Int)+1:=⟨rfl,rfl⟩
  have Dx:∀b,z.nZ b->b<W1.heap.size:=λb e=>HZ1.out.wz rfl e;obtain⟨y1,R1,s1,Ym,wU⟩:=HH.out.beside RH.size (λb qp _=>RH.block b qp) z.nZ (λb e=>⟨UG.out b e,Nat.lt_of_lt_of_le (Dx b e) lR.size⟩);have TJ:iQ S:=iQ.below (w:=w) HT.out RH;have Wg:jN n D 20:=PO.out.mono (Nat.le_refl _) dP;obtain⟨a,cp,XJ⟩:=Row.shape iJ;subst XJ;have ZV:Hid (∀b,dQ (σ a L.length cp)=μ b->W1.heap.size<=b/\b<S.heap.size):=λb hb=>⟨iY b hb,iJ.lt b hb⟩
  have TC:Hid _:=iJ;have ZT:Hid (il S S y1 (n.jo false (L.take 0)) n.n):=il.refl R1;have HPl:Hid (∀q W,(hq:q<L.length)->il S W y1 (n.jo false (L.take q)) n.n->eM eN 113 #[π (μ ⟨y.N,0,ν⟩),ι κ (L[q] :Int),.bool false] W λe w'=>e=ρ (τ #[])/\il S w' y1 (n.jo false (L.take (q+1))) n.n):=by
   intro q W hq X;rw[<-s1.N];exact xL S y1 n n D n.n false L R1 rfl TJ Wg hD J.out hLl rfl q hq W X
  have Ht:Hid (∀q W M,(hq:q<L.length)->il S W y1 M n.n->∃g,a=μ ⟨g,0,ν⟩/\W.cell? ⟨g,q,ν⟩=μ (ι κ (L[q] :Int))):=by
   intro q W M hq X;rcases TC.out.2 with⟨_,e2⟩|⟨g,c,e,_,_,_,hc,_⟩
   ·omega
   ·have ea:a=μ ⟨g,0,ν⟩:=(bC e).1;have hg:=ZV.out g (by rw[ea];rfl);refine⟨g,ea,(ai (a:=⟨g,q,ν⟩) (X.kept.block g hg.2 (λe3=> ?_))).trans (hc q _ (RF L q hq))⟩;have Z:=HH.out.zy ((Ym g).1 e3);have h2:=CS.out.size;omega
  have HR1:Hid _:=R1;have Yo:Hid _:=s1;have HA1:Hid _:=Ym;have VT:Hid _:=wU;have HZ2:Hid _:=mZ;have ab9:Hid _:=RH;have HFL:Hid _:=Dx;have HT2:Hid _:=TJ;have I5:Hid _:=lR;obtain⟨len,hlen⟩:=fP (L.length);have Ff:Hid _:=hlen;rw[hlen]at hLl;clear iJ iY RH mZ sv Dx R1 s1 Ym wU TJ lR Wg
  go_wp2
  go_loopw [31] (λx wr=>∃q:Nat,q<=len/\x=ι κ q/\il S wr y1 (n.jo false (L.take q)) n.n) (λx _=>len-(eP x).toNat)
  case atStart=>exact⟨0,Nat.zero_le _,rfl,ZT.out⟩
  case round=>
   obtain⟨q,hq,rfl,Y⟩:=hrel;obtain⟨V,rfl⟩:∃V,V=wr:=⟨_,rfl⟩
   by_cases kc:q<len
   ·have nh:(q:Int)<(len:Int):=dP;have hq0:(0:Int)<=(q:Int):=dP;have hqL:q<L.length:=by rw[Ff.out];exact kc
    obtain⟨g,rfl,hcell⟩:=Ht.out q V _ hqL Y;have gl:=af _ _ hcell;have u:=HPl.out q V hqL Y;generalize L[q] =cq at hcell u;clear Y;go_wp2_with(fail);refine u.mono ?_;rintro e w1 ⟨rfl,G⟩;have j:Hid _:=G;clear u G
    go_wp2
    go_roundw
    case rel=>exact⟨q+1,dP,by go_num,j.out⟩
    case measure=>simp[eP];omega
   ·have zN:¬(q:Int)<(len:Int):=dP;obtain rfl:q=len:=dP;have e9:L.take q=L:=by rw[<-Ff.out];exact cR
    rw[e9]at Y;obtain⟨n3,vE⟩:=fP (n.jo false L);obtain⟨A,p2,p3,p4,p5⟩:=l7 false L n;rw[vE]at Y A p2;have aca:jN n3 D 20:=by
     rw[<-vE];exact(jN.jo dP false L PO.out J.out).mono (Nat.le_refl _) (by rw[Ff.out];omega)
    obtain⟨H,R2,s2,ha2,he2,rD⟩:=jl.renew HH.out HK.out ab9.out HZ2.out ⟨rfl,rfl⟩ UG.out HZX.out Yo.out HA1.out VT.out Y A;have RI:=aca.anew k (by rw[A];exact HK.out);have e8:n3.ms k=n.ms k:=by rw[<-vE,p3]
    rw[e8]at RI;obtain⟨T,Q⟩:=fP (n3.jg k (jt ((k:Int)+1) 3 (n.ms k)));rw[Q]at R2 RI;have RJ:T.n=n.n:=by rw[<-Q];exact A
    have Yp:T.nc=n.nc:=by rw[<-Q];exact p2
    have d0:=Y.k0;have dl:=Y.lt;rw[Yo.out.N,Yo.out.gR,Yo.out.rH,A]at d0;rw[Yo.out.N]at dl;obtain⟨Rk,hRk⟩:=Y.ptr (i:=k) (by rw[A];exact HK.out);rw[Yo.out.gR]at hRk;have gRl:=af _ _ hRk;have gRf:V.frozen? ⟨y.gR,k,ν⟩=false:=by
     obtain⟨y9,R9,s9,_,_⟩:=Y.ex;have Z:=R9.rr.fz k (by rw[A];exact HK.out);rw[Nat.zero_add,s9.gR,Yo.out.gR]at Z;exact Z
    have SN:=yM HK.out n6;have hki:(k:Int)<(n.n:Int):=dP;have FO:(0:Int)<=(k:Int):=dP;have hTV:iQ V:=Y.tab HR1.out rfl HT2.out;obtain⟨U,sK⟩:=fP (V.setCell ⟨y.gR,k,ν⟩ (π (μ ⟨z.R,0,ν⟩)));rw[sK]at R2 rD;have agt:y.gR≠0:=λe=>HH.out.z0 ⟨.R,by rw[<-e];rfl⟩;have hT4:iQ U:=λe s he hs=>by
     rw[<-sK,aP _ _ _ _ (λe1=>agt (congrArg Addr.block e1))];exact hTV e s he hs
    have ak1:U.heap.size=V.heap.size:=by rw[<-sK];simp
    have hVs:=Y.kept.size;have acd:Hid (∀q' W M,(TQ:q'<L.length)->il U W H M n.n->∃g,a=μ ⟨g,0,ν⟩/\W.cell? ⟨g,q',ν⟩=μ (ι κ (L[q'] :Int))):=by
     intro q' W M TQ X;obtain⟨g,ea,hc⟩:=Ht.out q' V _ TQ Y;have hg:=ZV.out g (by rw[ea];rfl);have Bf:=CS.out.size;have Pt:g≠y.gR:=λe=>by
      have:=HH.out.NF;omega
     refine⟨g,ea,(ai (a:=⟨g,q',ν⟩) (X.kept.block g dP (λe3=> ?_))).trans ?_⟩
     ·rcases ha2 g e3 with Z|Z|Z
      ·have:=HH.out.zy Z;omega
      ·have:=HFL.out g Z;omega
      ·omega
     ·rw[<-sK,aP _ _ _ _ (λe1=>Pt (congrArg Addr.block e1).symm)];exact hc
    have HP2:Hid (il U U H (T.jo true (L.take 0)) n.n):=by
     show il _ _ _ _ _;rw[<-RJ];exact il.refl R2
    have agu:Hid (∀q' W,(TQ:q'<L.length)->il U W H (T.jo true (L.take q')) n.n->eM eN 113 #[π (μ ⟨y.N,0,ν⟩),ι κ (L[q'] :Int),.bool true] W λe w'=>e=ρ (τ #[])/\il U w' H (T.jo true (L.take (q'+1))) n.n):=by
     intro q' W TQ X;rw[<-s2.N];exact xL U H T T D n.n true L R2 RJ hT4 RI hD (λc hc=>by rw[Yp];exact J.out c hc) (by rw[Ff.out];exact hLl) RJ q' TQ W X
    have HG:Hid (∀W,il U W H (T.jo true L) n.n->eM eN 111 #[π (μ ⟨y.N,0,ν⟩)] W λe w'=>e=ρ (τ #[])/\il U w' H (T.jo true L).gather n.n):=by
     intro W X;refine X.call λy3 R3 s3=> ?_;rw[<-s2.N,<-s3.N];have h5:=jN.jo dP true L RI (λc hc=>by rw[Yp];exact J.out c hc);have h6:=qM y3 _ D _ W R3 h5 dP (by rw[Ff.out];omega);rw[(l7 true L T).1,RJ]at h6;exact h6
    have X2:Hid (∀W,il U W H (T.jo true L).gather n.n->il w W y ((((n.jo false L).jg k (jt ((k:Int)+1) 3 (n.ms k))).jo true L).gather) n.n):=by
     intro W X;rw[vE,Q];refine il.py rD s2 (λb e=> ?_) he2 X;rcases ha2 b e with Z|Z|Z
     ·exact .inl Z
     ·exact .inr (UG.out b Z)
     ·exact .inr (Nat.le_trans ab9.out.size Z)
    have Kr:Hid _:=sK;clear Y R2 s2 ha2 he2 rD aca RI vE Q RJ Yp hTV hT4 sK A p2 p3 p4 p5 e8 Ht HPl ZT;go_wp2_with(fail);rw[Kr.out]
    go_loopw [49] (λx wr=>∃q':Nat,q'<=q/\x=ι κ q'/\il U wr H (T.jo true (L.take q')) n.n) (λx _=>q-(eP x).toNat)
    case atStart=>exact⟨0,Nat.zero_le _,rfl,HP2.out⟩
    case round=>
     obtain⟨t,ht,rfl,JJ⟩:=hrel;by_cases N7:t<q
     ·have ab1:(t:Int)<(q:Int):=dP;have ht0:(0:Int)<=(t:Int):=dP;have htL:t<L.length:=by rw[Ff.out];exact N7
      obtain⟨g,rfl,hcell⟩:=acd.out t wr _ htL JJ;have gl:=af _ _ hcell;have u:=agu.out t wr htL JJ;generalize L[t] =cq at hcell u;clear JJ;go_wp2_with(fail);refine u.mono ?_;rintro e w1 ⟨rfl,G⟩;have j:Hid _:=G;clear u G
      go_wp2
      go_roundw
      case rel=>exact⟨t+1,dP,by go_num,j.out⟩
      case measure=>simp[eP];omega
     ·have Yj:¬(t:Int)<(q:Int):=dP;obtain rfl:t=q:=dP;rw[e9]at JJ;have hg:=HG.out wr JJ;clear JJ;go_wp2_with(fail);refine hg.mono ?_;rintro e w1 ⟨rfl,G⟩;have j:Hid _:=X2.out _ G;clear hg G
      go_wp2
      go_ret;exact⟨rfl,j.out⟩
def Ae(w:dN)(a:Option Addr)(L:List oH):Prop:=∀j,(hj:j<L.length)->∃b off,a=μ ⟨b,off,ν⟩/\w.cell? ⟨b,off+j*5,ν⟩=μ (ι κ L[j].a)/\w.cell? ⟨b,off+j*5+1,ν⟩=μ (ι κ L[j].pa)/\w.cell? ⟨b,off+j*5+2,ν⟩=μ (ι κ L[j].b)/\w.cell? ⟨b,off+j*5+3,ν⟩=μ (ι κ L[j].pb)/\w.cell? ⟨b,off+j*5+4,ν⟩=μ (ι κ L[j].m)
theorem Ae.below {w':dN} {L:List oH} (h:Ae w a L)(hb:dV w w'):Ae w' a L:=λj S=>by
 obtain⟨b,off,e,Y,X,V,U,T⟩:=h j S;have Z:=hb.block b (af _ _ Y);exact⟨b,off,e,(ai (a:=⟨b,off+j*5,ν⟩) Z).trans Y,(ai (a:=⟨b,off+j*5+1,ν⟩) Z).trans X,(ai (a:=⟨b,off+j*5+2,ν⟩) Z).trans V,(ai (a:=⟨b,off+j*5+3,ν⟩) Z).trans U,(ai (a:=⟨b,off+j*5+4,ν⟩) Z).trans T⟩
theorem RK:(eN.info? 193).map (·.size)=μ 4:=gJ
theorem Cc(a pa b pb m:Int)(w:dN):eM eN 97 #[.agg #[ι κ a,ι κ pa,ι κ b,ι κ pb,ι κ m]] w λe w'=>e=ρ (.agg #[ι κ a,ι κ pa,ι κ b,ι κ pb])/\dV w w':=by
 have Z:iM ((w.alloc (γ #[ι κ a,ι κ pa,ι κ b,ι κ pb,ι κ m] 81)).alloc (γ #[ι κ a,ι κ pa,ι κ b,ι κ pb] 193)) (w.heap.size+1) #[ι κ a,ι κ pa,ι κ b,ι κ pb] 193:=by
  have:=iM.new (w.alloc (γ #[ι κ a,ι κ pa,ι κ b,ι κ pb,ι κ m] 81)) #[ι κ a,ι κ pa,ι κ b,ι κ pb] 193;simpa using this
 have hb:dV w ((w.alloc (γ #[ι κ a,ι κ pa,ι κ b,ι κ pb,ι κ m] 81)).alloc (γ #[ι κ a,ι κ pa,ι κ b,ι κ pb] 193)):=(gM _ _).alloc gN _;have Y:=bI (P:=eN) _ (w.heap.size+1) 193 193 #[ι κ a,ι κ pa,ι κ b,ι κ pb] (0,0) _ Z underlying193 rfl RK
 go_in
 go_wp2_with(fail);refine aA (v:=.agg #[ι κ a,ι κ pa,ι κ b,ι κ pb]) (by simp[results,results97,asAddr,Y]) rfl ?_;exact⟨rfl,hb⟩
theorem uS(r p many:Int)(w:dN):eM eN 154 #[.agg #[ι κ r,ι κ p],ι κ many] w λe w'=>e=ρ (.bool (nR many r p))/\dV w w':=by
 have hb:=gM w (γ #[ι κ r,ι κ p] 192);unfold nR;by_cases Z:1<=r
 ·by_cases Y:r<=many
  ·by_cases X:0<=p
   ·by_cases V:p<3
    ·have hv:(decide (1<=r)&&decide (r<=many)&&decide (0<=p)&&decide (p<3))=true:=by simp[Z,Y,X,V]
     rw[hv];clear hv
     go_in
     go_wp2
     go_ret;exact⟨by first|rfl|(simp;omega),hb⟩
    ·have hv:(decide (1<=r)&&decide (r<=many)&&decide (0<=p)&&decide (p<3))=false:=by simp[V]
     rw[hv];clear hv
     go_in
     go_wp2
     go_ret;exact⟨by first|rfl|(simp;omega),hb⟩
   ·have hv:(decide (1<=r)&&decide (r<=many)&&decide (0<=p)&&decide (p<3))=false:=by simp[X]
    rw[hv];clear hv
    go_in
    go_wp2
    go_ret;exact⟨by first|rfl|(simp;omega),hb⟩
  ·have hv:(decide (1<=r)&&decide (r<=many)&&decide (0<=p)&&decide (p<3))=false:=by simp[Y]
   rw[hv];clear hv
   go_in
   go_wp2
   go_ret;exact⟨by first|rfl|(simp;omega),hb⟩
 ·have hv:(decide (1<=r)&&decide (r<=many)&&decide (0<=p)&&decide (p<3))=false:=by simp[Z]
  rw[hv];clear hv
  go_in
  go_wp2
  go_ret;exact⟨by first|rfl|(simp;omega),hb⟩
open Go.ChangeShapes Go.WideShapes Go.ChangeAt
theorem Ih {H:Type} {enc:TypeId×Value->H} {W:dN} {n cap:Nat} {d:DataW H} {ps:List MemPlace}
 (h:DataW.Trod enc eN W 0 (λ_=>true) true 61 (σ a n cap) d ps):
 ∃L:List oH,Ae W a L/\L.length=n/\n<=maxLen:=by
 obtain⟨fuel,hf⟩:=h;rcases dc underlying61 hf with⟨hcs,_⟩|⟨x,len,cp,m',n',D,Pl,hcs,_,hl,hm,t,_,hx⟩
 ·simp[eZ]at hcs;obtain⟨rfl,rfl,rfl⟩:=hcs;exact⟨[],λj X=>by simp at X,rfl,dS⟩
 ·simp[eZ]at hcs;obtain⟨rfl,rfl,rfl⟩:=hcs;simp at t;have ce:(eN).cellsOf 81=5:=gJ;rw[ce]at hx;have each:∀i,i<n->∃q:oH,W.cell? (x.add (i*5))=μ (ι κ q.a)/\W.cell? (x.add (i*5+1))=μ (ι κ q.pa)/\W.cell? (x.add (i*5+2))=μ (ι κ q.b)/\W.cell? (x.add (i*5+3))=μ (ι κ q.pb)/\W.cell? (x.add (i*5+4))=μ (ι κ q.m):=by
   intro i hi;obtain⟨cs',h1,h2⟩:=hx i dP;obtain⟨_,hlen,hcell⟩:=World.cells?_some h1;obtain⟨xs,k,hk,hxy,_,Mu,Z⟩:=cN underlying81 h2
   match xs,Mu,cs',hlen with
   |[y0,y1,y2,y3,y4],_,[v0,v1,v2,v3,v4],_=>
    have g0:=Z 0 _ rfl;have g1:=Z 1 _ rfl;have T:=Z 2 _ rfl;have S:=Z 3 _ rfl;have M:=Z 4 _ rfl;have ci:(eN).cellsOf 3=1:=gJ;simp[ci]at g0 g1 T S M;obtain⟨i0,f0,_,_⟩:=aW underlying3 g0;obtain⟨i1,f1,_,_⟩:=aW underlying3 g1;obtain⟨i2,f2,_,_⟩:=aW underlying3 T;obtain⟨i3,V,_,_⟩:=aW underlying3 S;obtain⟨i4,U,_,_⟩:=aW underlying3 M;simp at f0 f1 f2 V U;subst f0 f1 f2 V U;have c0:=hcell 0 dP;have c1:=hcell 1 dP;have c2:=hcell 2 dP;have c3:=hcell 3 dP;have c4:=hcell 4 dP;rw[Go.Deep.add_add]at c0 c1 c2 c3 c4;exact⟨⟨i0,i1,i2,i3,i4⟩,c0,c1,c2,c3,c4⟩
  obtain⟨Q,J⟩:∃Q:Nat->oH,∀i,i<n->W.cell? (x.add (i*5))=μ (ι κ (Q i).a)/\W.cell? (x.add (i*5+1))=μ (ι κ (Q i).pa)/\W.cell? (x.add (i*5+2))=μ (ι κ (Q i).b)/\W.cell? (x.add (i*5+3))=μ (ι κ (Q i).pb)/\W.cell? (x.add (i*5+4))=μ (ι κ (Q i).m):=by
   refine⟨λi=>if hi:i<n then gK (each i hi)else⟨0,0,0,0,0⟩,λi hi=> ?_⟩;show W.cell? _=μ (ι κ (if hi:i<n then gK (each i hi)else⟨0,0,0,0,0⟩:oH).a)/\W.cell? _=μ (ι κ (if hi:i<n then gK (each i hi)else⟨0,0,0,0,0⟩:oH).pa)/\W.cell? _=μ (ι κ (if hi:i<n then gK (each i hi)else⟨0,0,0,0,0⟩:oH).b)/\W.cell? _=μ (ι κ (if hi:i<n then gK (each i hi)else⟨0,0,0,0,0⟩:oH).pb)/\W.cell? _=μ (ι κ (if hi:i<n then gK (each i hi)else⟨0,0,0,0,0⟩:oH).m);rw[dif_pos hi];exact Classical.choose_spec (each i hi)
  refine⟨(fG n).map Q,λj X=> ?_,gN,dP⟩;have u:j<n:=by simpa using X
  obtain⟨b,off,Y⟩:=x;obtain⟨G,q1,q2,E,A⟩:=J j u;have y:Y=ν:=by simpa[Addr.add]using cQ (J 0 dP).1
  subst y;have hg:((fG n).map Q)[j] =Q j:=gN;rw[hg];rw[lW]at G q1 q2 E A;exact⟨b,off,rfl,G,by simpa[Nat.add_assoc]using q1,by simpa[Nat.add_assoc]using q2,by simpa[Nat.add_assoc]using E,by simpa[Nat.add_assoc]using A⟩
