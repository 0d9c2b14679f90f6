import Derived.Test.YtieklnlbljejdaaGreatDoorC03
open Go.Value renaming int → ι, slice → σ, pointer → π, tuple → τ, nilIface → η, ownBlock → eh
open Go.IntKind renaming i64 → κ, u8 → fI
open Go.Ending renaming returned → ρ
open Go.Obj renaming cells → γ
open Option renaming none → ν, some → μ
open Go.Proofs.Tryz renaming prog → eY
open Go renaming World → dX, Calls → eX, Value → dY
open Go.RowKit renaming intOf → eZ, wrap64 → fX
open List renaming length_cons → eQ, length_append → eP, length_nil → eR, foldl_nil → fY, map_cons → eI, map_nil → eM
open ByteArray renaming empty → fG
set_option maxRecDepth 100000
set_option maxHeartbeats 4000000
open Go.Proofs.Tryz
namespace Go.Proofs.YtieklnlbljejdaaGreatDoor
open Go.RowKit Plain
variable {F G:Nat->Value} {ao:Option Addr} {cp g j k lo m o:Nat} {d e:Bool} {l:List UInt8} {ob:Obj} {ok:List jJ} {u v:Value} {w w' w1 wr x1:World}
theorem aaC:(eY.info? 5).map (λi=>(i.zero,i.size,i.bytes))=μ (μ (.int .u8 0),1,1):=gS
theorem KZ(s:ByteArray)(w:dX)(hs:s.size<=60):
 eX eY 197 #[.string s] w λe w'=>e=ρ (τ #[.string ⟨(lM s.data.toList).toArray⟩,η])/\eB w w':=by
 obtain⟨i0,hi,og,mZ,mc⟩:=aW aaC;have hle:¬(60:Int)<(s.size:Int):=dZ;have hsl:=Plain.MS s.data.toList;obtain⟨cap,C,fr,afA,iV⟩:=Ge (P:=eY) (w.alloc (γ #[.int .u8 126] 5)) 9 140 5 s underlying9 underlying140 underlying5 (by unfold maxLen;omega);have rS:(w.alloc (γ #[.int .u8 126] 5)).heap.size=w.heap.size+1:=gU;rw[rS]at iV;obtain⟨L,hL⟩:∃L,L=lU s.data.toList:=⟨_,rfl⟩
 have hLl:L.length=s.size+2:=by rw[hL,oz];rfl
 go_in
 go_wp2_with(first
  |(go_at_call 210;refine(O3 _ _ ?hx).mono ?_;(case hx=>unfold maxLen;omega);rintro e w' ⟨rfl,rfl⟩)
  |(at_builtin;go_must(refine iG _ rfl (.tmp 16) (.tmp 22) 140 rfl 5 i0 (.int .u8 0) 1 1 underlying140 hi og mZ mc rfl ew (.slice (some ⟨w.heap.size+1,0,none⟩) s.size cap) s.size (iP s.data.toList) rfl ?r1 _ 2 2 (iP [Ku s.data.toList,Kv s.data.toList]) rfl rfl ew ?c1 ?c2 ?c3 ?c4 ?_)))
 case r1=>exact(iV.alloc _).drew
 case c1=>
  intro j u hu;rw[add_plain,World.cell?_drew];have h2:=aq ((w.alloc (γ #[ι fI 126] 5)).alloc (γ C 5 fr)) #[ι fI (↑(sum s.data.toList) %256),ι fI (↑(sum s.data.toList)/256)] 5 (0,0) j;have h3:((w.alloc (γ #[ι fI 126] 5)).alloc (γ C 5 fr)).heap.size=w.heap.size+1+1:=gU;rw[h3]at h2;rw[h2,<-G5,<-G6];simpa[iP]using hu
 case c2=>intro u hu;simp[iP]at hu;rcases hu with rfl|rfl<;>rfl
 case c3=>unfold maxLen;omega
 case c4=>omega
 intro g1 CK w1 BW kD jE;have xh:eB w w1:=by
  refine Below.grown ?_ kD ?_ ?_;{exact((((au _ _).alloc (Nat.le_refl _) _).alloc gU _).alloc (by simp;omega) _).drew};{simp;omega};{intro k hk;simp[eh]at hk;omega}
 have K0:w.heap.size<g1:=by
  rcases jE with h|h
  {simp[eh]at h;omega};{omega}
 have uf:Row w1 1 (σ (μ ⟨w.heap.size,0,ν⟩) 1 1) 1 (iP [126]):=by
  refine Row.kept (row:=μ (w.heap.size+1)) ?q1 kD ?q2
  case q1=>exact(((Row.made w 1 5 #[.int .u8 126] (0,0) 1 1 (iP [126]) rfl rfl (Nat.le_refl _) ew (.inl rfl) (by simp[iP])).alloc _).alloc _).drew
  case q2=>
   intro k hk;have uI:w.heap.size=k:=by simpa[eh]using hk
   intro e;have e':w.heap.size+1=k:=by simpa using e
   omega
 have hS:Row w1 1 (σ (μ ⟨g1,0,ν⟩) (s.size+2) CK) (s.size+2) (iP L):=by
  rw[hL,lU,lI];exact BW
 clear BW kD jE iV afA
 go_wp2
 go_loopw [5,25] (λv i wr=>∃(k g cp:Nat) (E:List UInt8),E=126::sA (L.take k)/\k<=L.length/\i=ι κ k/\v=σ (μ ⟨g,0,ν⟩) E.length cp/\Row wr 1 v E.length (iP E)/\
  Row wr 1 (σ (μ ⟨g1,0,ν⟩) (s.size+2) CK) (s.size+2) (iP L)/\w.heap.size<=g/\g≠g1/\eB w wr)
  (λ_ i _=>L.length-(eZ i).toNat)
 case atStart=>exact⟨0,w.heap.size,1,[126],rfl,Nat.zero_le _,rfl,rfl,uf,hS,Nat.le_refl _,dZ,xh⟩
 case round=>
  obtain⟨k,g,cp,E,Nx,hk,rfl,rfl,J,M,Kh,US,H⟩:=hrel;have Pv:E.length<=1+2*62:=by
   have h1:=Dg (L.take k);have h2:(L.take k).length<=62:=by simp;omega
   rw[Nx];simp only[eQ];omega
  have HE:Hid _:=Nx;clear Nx;clear uf hS xh;have m1:E.length+1<=maxLen:=by unfold maxLen;omega
  have m2:E.length+2<=maxLen:=by unfold maxLen;omega
  have b1:(E.length+1)*1<=140737488355328:=dZ;have b2:(E.length+2)*1<=140737488355328:=dZ;by_cases kA:k<L.length
  ·have hcell:=M.cell k _ (yj L k kA);have hx:=aaf L[k];have HN:Hid (126::sA (L.take (k+1))=E++CN L[k]):=by
    have:L.take (k+1)=L.take k++ [L[k]] :=aA kA;rw[HE.out,this,QH];rfl
   have HC:Hid (rT L[k] =true↔_):=QI L[k];obtain⟨c,hc⟩:∃c,c=L[k] :=⟨_,rfl⟩
   rw[<-hc]at hcell hx HN HC;clear hc;have hT:∀(T:rT c=true) (D A:Nat) (Z:dX),Row Z 1 (σ (μ ⟨D,0,ν⟩) (E.length+2) A) (E.length+2) (iP E++ [.int .u8 125,.int .u8 ((c^^^32).toNat:Int)])->
    Row Z 1 (σ (μ ⟨D,0,ν⟩) (126::sA (L.take (k+1))).length A) (126::sA (L.take (k+1))).length (iP (126::sA (L.take (k+1))))/\(126::sA (L.take (k+1))).length=E.length+2:=by
    intro T D A Z hr;rw[HN.out];have e1:CN c=[125,c^^^32] :=by simp[CN,T]
    rw[e1];refine⟨?_,gU⟩;rw[lI,az];exact hr
   have hO:∀(T:¬rT c=true) (D A:Nat) (Z:dX),Row Z 1 (σ (μ ⟨D,0,ν⟩) (E.length+1) A) (E.length+1) (iP E++ [.int .u8 (c.toNat:Int)])->
    Row Z 1 (σ (μ ⟨D,0,ν⟩) (126::sA (L.take (k+1))).length A) (126::sA (L.take (k+1))).length (iP (126::sA (L.take (k+1))))/\(126::sA (L.take (k+1))).length=E.length+1:=by
    intro T D A Z hr;rw[HN.out];have e1:CN c=[c] :=by simp[CN,T]
    rw[e1];refine⟨?_,gU⟩;rw[lI,az];exact hr
   by_cases h1:((c.toNat:Int)==126)=true
   ·have T:rT c=true:=HC.out.mpr (.inl (by simpa using h1));go_wp2_with(at_builtin;go_must(refine iG _ rfl (.tmp 39) (.tmp 42) 140 rfl 5 i0 (.int .u8 0) 1 1 underlying140 hi og mZ mc rfl ew _ E.length (iP E) rfl (J.alloc _) _ 2 2 [.int .u8 125,.int .u8 ((c^^^32).toNat:Int)] rfl rfl ew (pI _ _ _ _) (lL _ _ _ _) m2 b2 ?_));intro U cap2 Z V X Y;obtain⟨y,Q⟩:=hT T U cap2 Z V;have R:=vM X Y M Kh US H;have S:Hid _:=Q;clear Q X Y V J M H hcell hx
    go_wp2
    go_roundw
    case rel=>exact⟨k+1,U,cap2,_,rfl,dZ,by go_num,by rw[S.out],by rw[<-S.out];exact y,R.1,R.2.1,R.2.2.1,R.2.2.2⟩
    case measure=>simp[eZ];omega
   ·have yy:((c.toNat:Int)==126)=false:=by simpa using h1
    by_cases h2:((c.toNat:Int)==125)=true
    ·have T:rT c=true:=HC.out.mpr (.inr (.inl (by simpa using h2)));go_wp2_with(at_builtin;go_must(refine iG _ rfl (.tmp 39) (.tmp 42) 140 rfl 5 i0 (.int .u8 0) 1 1 underlying140 hi og mZ mc rfl ew _ E.length (iP E) rfl (J.alloc _) _ 2 2 [.int .u8 125,.int .u8 ((c^^^32).toNat:Int)] rfl rfl ew (pI _ _ _ _) (lL _ _ _ _) m2 b2 ?_));intro U cap2 Z V X Y;obtain⟨y,Q⟩:=hT T U cap2 Z V;have R:=vM X Y M Kh US H;have S:Hid _:=Q;clear Q X Y V J M H hcell hx
     go_wp2
     go_roundw
     case rel=>exact⟨k+1,U,cap2,_,rfl,dZ,by go_num,by rw[S.out],by rw[<-S.out];exact y,R.1,R.2.1,R.2.2.1,R.2.2.2⟩
     case measure=>simp[eZ];omega
    ·have AQ:((c.toNat:Int)==125)=false:=by simpa using h2
     by_cases h3:(c.toNat:Int)<32
     ·have T:rT c=true:=HC.out.mpr (.inr (.inr h3));go_wp2_with(at_builtin;go_must(refine iG _ rfl (.tmp 39) (.tmp 42) 140 rfl 5 i0 (.int .u8 0) 1 1 underlying140 hi og mZ mc rfl ew _ E.length (iP E) rfl (J.alloc _) _ 2 2 [.int .u8 125,.int .u8 ((c^^^32).toNat:Int)] rfl rfl ew (pI _ _ _ _) (lL _ _ _ _) m2 b2 ?_));intro U cap2 Z V X Y;obtain⟨y,Q⟩:=hT T U cap2 Z V;have R:=vM X Y M Kh US H;have S:Hid _:=Q;clear Q X Y V J M H hcell hx
      go_wp2
      go_roundw
      case rel=>exact⟨k+1,U,cap2,_,rfl,dZ,by go_num,by rw[S.out],by rw[<-S.out];exact y,R.1,R.2.1,R.2.2.1,R.2.2.2⟩
      case measure=>simp[eZ];omega
     ·have T:¬rT c=true:=by
       rw[HC.out];simp at yy AQ;omega
      go_wp2_with(at_builtin;go_must(refine iG _ rfl (.tmp 44) (.tmp 46) 140 rfl 5 i0 (.int .u8 0) 1 1 underlying140 hi og mZ mc rfl ew _ E.length (iP E) rfl (J.alloc _) _ 1 1 [.int .u8 (c.toNat:Int)] rfl rfl ew (qF _ _ _) (xd _ _) m1 b1 ?_));intro U cap2 Z V X Y;obtain⟨y,Q⟩:=hO T U cap2 Z V;have R:=vM X Y M Kh US H;have S:Hid _:=Q;clear Q X Y V J M H hcell hx
      go_wp2
      go_roundw
      case rel=>exact⟨k+1,U,cap2,_,rfl,dZ,by go_num,by rw[S.out],by rw[<-S.out];exact y,R.1,R.2.1,R.2.2.1,R.2.2.2⟩
      case measure=>simp[eZ];omega
  ·go_wp2_with(at_builtin;go_must(refine iG _ rfl (.tmp 49) (.tmp 50) 140 rfl 5 i0 (.int .u8 0) 1 1 underlying140 hi og mZ mc rfl ew _ E.length (iP E) rfl (J.alloc _) _ 1 1 [.int .u8 126] rfl rfl ew (qF _ _ _) (xd _ _) m1 b1 ?_));intro U cap2 Z V X Y;have R:=vM X Y M Kh US H;have XB:k=L.length:=dZ;have hF:lM s.data.toList=E++ [126] :=by
    rw[HE.out,XB,aI (Nat.le_refl _),hL];rfl
   have aaD:(convert 140 9 (σ (μ ⟨U,0,ν⟩) (E.length+1) cap2)).run eY Z=.ok (.string ⟨(E++ [126]).toArray⟩) Z:=by
    refine Row.back (n:=E.length+1) ?_ 140 9 5 underlying140 underlying5 underlying9;rw[lI];exact V
   clear V X Y J M H;have HF:Hid _:=hF;clear hF XB
   go_wp2
   go_ret2
   exact⟨by rw[HF.out];rfl,R.2.2.2⟩
theorem Pw(s:ByteArray)(w:dX)(hs:60<s.size)(Z:s.size<=maxLen):
 eX eY 197 #[.string s] w λe w'=>e=ρ (τ #[.string fG,.iface 128 (ι κ 2)])/\w=w':=by
 unfold maxLen at Z;have hle:(60:Int)<(s.size:Int):=dZ
 go_in
 go_wp2
 go_ret2
 exact⟨rfl,rfl⟩
def qg(w:dX)(g o m:Nat)(F:Nat->dY):Prop:=∀j,j<m->w.cell? ⟨g,o+j,ν⟩=μ (F j)/\w.frozen? ⟨g,o+j,ν⟩=false
def tg(F:Nat->dY)(i:Nat)(v:dY):Nat->dY:=λj=>if j=i then v else F j
theorem pM(F:Nat->dY)(i:Nat)(v:dY):tg F i v i=v:=by simp[tg]
theorem jI(F:Nat->dY) {i:Nat} (v:dY)(h:j≠i):tg F i v j=F j:=by simp[tg,h]
theorem mE(w:dX)(a x:Addr)(v:dY):(w.setCell a v).frozen? x=w.frozen? x:=gU
theorem qg.cell {w:dX} {g o m:Nat} {F:Nat->dY} (h:qg w g o m F)(j:Nat)(Z:j<m):w.cell? ⟨g,o+j,ν⟩=μ (F j):=(h j Z).1
theorem qg.fz(h:qg w g o m F)(j:Nat)(Z:j<m):w.frozen? ⟨g,o+j,ν⟩=false:=(h j Z).2
theorem qg.lt(h:qg w g o m F)(Z:0<m):g<w.heap.size:=ag w _ (h.cell 0 Z)
theorem qg.set(h:qg w g o m F)(i:Nat)(hi:i<m)(v:dY):qg (w.setCell ⟨g,o+i,ν⟩ v) g o m (tg F i v):=by
 intro j Z;refine⟨?_,(mE _ _ _ _).trans (h.fz j Z)⟩;by_cases e:j=i;{subst e;rw[pM];exact World.cell?_setCell_same _ _ _ (h.cell j Z)};{rw[jI F v e,aX _ _ _ _ (λe=>by have:=congrArg Addr.off e;simp at this;omega)];exact h.cell j Z}
theorem qg.keep(h:qg w g o m F)(hb:w'.heap[g]? =w.heap[g]?):qg w' g o m F:=λj Z=>by
 refine⟨(aj (a:=⟨g,o+j,ν⟩) hb).trans (h.cell j Z),?_⟩;have:w'.frozen? ⟨g,o+j,ν⟩=w.frozen? ⟨g,o+j,ν⟩:=by
  simp only[World.frozen?,hb]
 exact this.trans (h.fz j Z)
theorem qg.below(h:qg w g o m F)(Z:0<m)(hb:eB w w'):qg w' g o m F:=h.keep (hb.block g (h.lt Z))
theorem qg.sub(h:qg w g o m F)(a k:Nat)(hk:a+k<=m):qg w g (o+a) k (λj=>F (a+j)):=λj hj=>by
 have:=h (a+j) dZ;rw[Nat.add_assoc];exact this
theorem qg.congr(h:qg w g o m F)(e:∀j,j<m->F j=G j):qg w g o m G:=λj Z=>by rw[<-e j Z];exact h j Z
structure lh(w w':dX)(g o m:Nat):Prop where
 os:w'.os=w.os
 tape:w'.tape=w.tape
 output:w'.output=w.output
 size:w.heap.size<=w'.heap.size
 block:∀i,i<w.heap.size->i≠g->w'.heap[i]? =w.heap[i]?
 cell:∀j,j<o \/o+m<=j->w'.cell? ⟨g,j,ν⟩=w.cell? ⟨g,j,ν⟩
 fz:∀j,w'.frozen? ⟨g,j,ν⟩=w.frozen? ⟨g,j,ν⟩
theorem lh.refl(w:dX)(g o m:Nat):lh w w g o m:=⟨rfl,rfl,rfl,Nat.le_refl _,λ_ _ _=>rfl,λ_ _=>rfl,λ_=>rfl⟩
theorem lh.trans {a b c:dX} {g o m:Nat} (h:lh a b g o m)(k:lh b c g o m):lh a c g o m:=
 ⟨k.os.trans h.os,k.tape.trans h.tape,k.output.trans h.output,Nat.le_trans h.size k.size,λi hi Y=>(k.block i (Nat.lt_of_lt_of_le hi h.size) Y).trans (h.block i hi Y),λj Z=>(k.cell j Z).trans (h.cell j Z),λj=>(k.fz j).trans (h.fz j)⟩
theorem lh.set {x:dX} (h:lh w x g o m)(j:Nat)(h1:o<=j)(h2:j<o+m)(v:dY):lh w (x.setCell ⟨g,j,ν⟩ v) g o m:=by
 have b1:Below 0 x (x.setCell ⟨g,j,ν⟩ v):=(au 0 x).setCell (Nat.zero_le _) _;exact⟨b1.os.trans h.os,b1.tape.trans h.tape,b1.output.trans h.output,Nat.le_trans h.size b1.size,λi hi Z=>(ak _ _ _ i Z).trans (h.block i hi Z),
  λi hi=>(aX _ _ _ _ (λe=>by have:=congrArg Addr.off e;simp at this;omega)).trans (h.cell i hi),λi=>(mE _ _ _ _).trans (h.fz i)⟩
theorem lh.drewN {w x:dX} {g o m:Nat} (h:lh w x g o m)(n:Nat):lh w (x.drewN n) g o m:=⟨h.os,h.tape,h.output,h.size,h.block,h.cell,h.fz⟩
theorem lh.drew {w x:dX} {g o m:Nat} (h:lh w x g o m):lh w x.drew g o m:=⟨h.os,h.tape,h.output,h.size,h.block,h.cell,h.fz⟩
theorem qg.join {a:Nat} (h:qg w g o m F)(X:lh w w' g (o+a) k)(U:qg w' g (o+a) k G):qg w' g o m (λj=>if a<=j/\j<a+k then G (j-a)else F j):=λj Y=>by
 by_cases e:a<=j/\j<a+k;{have Z:=U (j-a) dZ;have V:o+a+(j-a)=o+j:=dZ;rw[V]at Z;simp only[if_pos e];exact Z};{simp only[if_neg e];exact⟨(X.cell (o+j) dZ).trans (h.cell j Y),(X.fz _).trans (h.fz j Y)⟩}
structure Dp(F:Nat->dY)(l:List UInt8)(e d:Bool):Prop where
 len:l.length<=62
 live:∀i:Nat,i<62->∃x:Int,F i=.int .u8 x
 body:∀(i:Nat) (h:i<l.length),F i=.int .u8 (l[i].toNat:Int)
 many:F 62=ι κ (l.length:Int)
 esc:F 63=.bool e
 bad:F 64=.bool d
def Rd(w:dX)(g o:Nat)(l:List UInt8)(e d:Bool):Prop:=∃F,qg w g o 65 F/\Dp F l e d
theorem Dp.Jf(h:Dp F l e d)(d':Bool):Dp (tg F 64 (.bool d')) l e d':=by
 have hlen:=h.len;refine⟨hlen,λi hi=> ?_,λi hi=> ?_,?_,?_,pM _ _ _⟩;{obtain⟨x,hx⟩:=h.live i hi;exact⟨x,by rw[jI _ _ dZ];exact hx⟩};{rw[jI _ _ dZ];exact h.body i hi};{rw[jI _ _ dZ];exact h.many};{rw[jI _ _ dZ];exact h.esc}
theorem Dp.Ny(h:Dp F l e d)(e':Bool):Dp (tg F 63 (.bool e')) l e' d:=by
 have hlen:=h.len;refine⟨hlen,λi hi=> ?_,λi hi=> ?_,?_,pM _ _ _,?_⟩;{obtain⟨x,hx⟩:=h.live i hi;exact⟨x,by rw[jI _ _ dZ];exact hx⟩};{rw[jI _ _ dZ];exact h.body i hi};{rw[jI _ _ dZ];exact h.many};{rw[jI _ _ dZ];exact h.bad}
theorem Dp.push(h:Dp F l e d)(hl:l.length<62)(c:UInt8):
 Dp (tg (tg F l.length (.int .u8 (c.toNat:Int))) 62 (ι κ ((l.length:Int)+1))) (l++ [c]) e d:=by
 refine⟨by simp;omega,λi hi=> ?_,λi hi=> ?_,?_,?_,?_⟩;{rw[jI _ _ dZ];by_cases Z:i=l.length;{rw[Z,pM];exact⟨_,rfl⟩};{rw[jI _ _ Z];exact h.live i hi}}
 ·have kT:i<l.length+1:=by simpa using hi
  rw[jI _ _ dZ];by_cases Z:i=l.length;{subst Z;rw[pM];simp};{rw[jI _ _ Z,h.body i dZ,List.getElem_append_left dZ]}
 {rw[pM];simp};{rw[jI _ _ dZ,jI _ _ dZ];exact h.esc};{rw[jI _ _ dZ,jI _ _ dZ];exact h.bad}
def rW:List UInt8×Bool×Bool->UInt8->List UInt8×Bool×Bool
 |(l,e,d),c=>
  if c<32 \/(c=125/\e=true)then(l,e,true)
  else if c=125 then(l,true,d)
  else if l.length=62 then(l,false,true)
  else(l++ [if e then c^^^32 else c],false,d)
theorem UT(g o:Nat)(l:List UInt8)(e d:Bool)(c:UInt8)(w:dX)(h:Rd w g o l e d):
 eX eY 182 #[π (μ ⟨g,o,ν⟩),.int .u8 (c.toNat:Int)] w λe' w'=>e'=ρ (τ #[])/\Rd w' g o (rW (l,e,d) c).1 (rW (l,e,d) c).2.1 (rW (l,e,d) c).2.2/\lh w w' g o 65:=by
 obtain⟨F,hC,M⟩:=h;have S:Hid _:=M;have hlen:=M.len;have Y:c<32↔(c.toNat:Int)<32:=by rw[UInt8.lt_iff_toNat_lt];show c.toNat<32↔_;omega
 have Q:c=125↔((c.toNat:Int)==125)=true:=by
  rw[<-UInt8.toNat_inj,dT];show c.toNat=125↔_;omega
 have afC:w.cell? ⟨g,o+62,ν⟩=μ (ι κ (l.length:Int)):=(hC.cell 62 ew).trans (congrArg μ M.many);have aku:w.cell? ⟨g,o+63,ν⟩=μ (.bool e):=(hC.cell 63 ew).trans (congrArg μ M.esc);have wj:w.cell? ⟨g,o+64,ν⟩=μ (.bool d):=(hC.cell 64 ew).trans (congrArg μ M.bad);have U:∀i,i<65->w.frozen? ⟨g,o+i,ν⟩=false:=λi hi=>hC.fz i hi;have f62:=U 62 ew;have f63:=U 63 ew;have f64:=U 64 ew;have K0:=hC.lt ew;have T:Hid (qg w g o 65 F):=hC;clear hC M;by_cases y:(c.toNat:Int)<32
 ·have V:rW (l,e,d) c=(l,e,true):=by simp[rW,Y.mpr y]
  rw[V];clear Y Q U
  go_in
  go_wp2
  first|go_end0|refine iK rfl rfl ?_
  exact⟨rfl,⟨_,T.out.set 64 ew _,S.out.Jf true⟩,(lh.refl _ _ _ _).set _ dZ dZ _⟩
 ·have X:¬c<32:=λx=>y (Y.mp x);by_cases J:((c.toNat:Int)==125)=true
  ·have E:c=125:=Q.mpr J;cases e
   ·have V:rW (l,false,d) c=(l,true,d):=by simp[rW,E]
    rw[V];clear Y Q E X U
    go_in
    go_wp2
    first|go_end0|refine iK rfl rfl ?_
    exact⟨rfl,⟨_,T.out.set 63 ew _,S.out.Ny true⟩,(lh.refl _ _ _ _).set _ dZ dZ _⟩
   ·have V:rW (l,true,d) c=(l,true,true):=by simp[rW,E]
    rw[V];clear Y Q E X U
    go_in
    go_wp2
    first|go_end0|refine iK rfl rfl ?_
    exact⟨rfl,⟨_,T.out.set 64 ew _,S.out.Jf true⟩,(lh.refl _ _ _ _).set _ dZ dZ _⟩
  ·have AQ:((c.toNat:Int)==125)=false:=by simpa using J
   have D:¬c=125:=λx=>J (Q.mp x);have hx:=aaf c;by_cases A:((l.length:Int)==62)=true
   ·have Z:l.length=62:=by have:=dT.mp A;omega
    have V:rW (l,e,d) c=(l,false,true):=by simp[rW,D,X,Z]
    rw[V];have L62:Hid _:=Z;clear Y Q D X Z J U;cases e
    ·go_in
     go_wp2
     first|go_end0|refine iK rfl rfl ?_
     exact⟨rfl,⟨_,T.out.set 64 ew _,S.out.Jf true⟩,(lh.refl _ _ _ _).set _ dZ dZ _⟩
    ·go_in
     go_wp2
     first|go_end0|refine iK rfl rfl ?_
     exact⟨rfl,⟨_,(T.out.set 63 ew _).set 64 ew _,(S.out.Ny false).Jf true⟩,((lh.refl _ _ _ _).set _ dZ dZ _).set _ dZ dZ _⟩
   ·have tO:((l.length:Int)==62)=false:=by simpa using A
    have Z:l.length<62:=by
     have:¬(l.length:Int)=62:=λe=>A (by simp[e]);omega
    have ant:(l.length:Int)<62:=dZ;have V:rW (l,e,d) c=(l++ [if e then c^^^32 else c],false,d):=by simp[rW,D,X,Nat.ne_of_lt Z]
    rw[V];obtain⟨x,H⟩:=S.out.live _ Z;have hcell:w.cell? ⟨g,o+l.length,ν⟩=μ (.int .u8 x):=(T.out.cell _ dZ).trans (congrArg μ H);have fl:=U l.length dZ;clear Y Q D X J A H U;cases e
    ·go_in
     go_wp2
     go_region
     go_wp2_with(fail)
     go_end0
     exact⟨rfl,⟨_,(T.out.set _ dZ _).set 62 ew _,S.out.push Z c⟩,(((lh.refl _ _ _ _).set _ dZ dZ _).set _ dZ dZ _).drew⟩
    ·go_in
     go_wp2
     go_region
     go_wp2_with(fail)
     go_end0
     refine⟨rfl,⟨_,((T.out.set 63 ew _).set _ dZ _).set 62 ew _,?_⟩,((((lh.refl _ _ _ _).set _ dZ dZ _).set _ dZ dZ _).set _ dZ dZ _).drew⟩;have hp:=(S.out.Ny false).push Z (c^^^32);rw[UInt8.toNat_xor]at hp;exact hp
def nE(l:List UInt8)(e d:Bool):List UInt8×Bool×Nat:=
 if d=true \/e=true then([],true,4)
 else if l.length=0 then([],false,0)
 else if l.length<2 then([],true,4)
 else if(Plain.sum (l.take (l.length-2)):Int)=((l.getD (l.length-2) 0).toNat:Int)+256*((l.getD (l.length-1) 0).toNat:Int)then(l.take (l.length-2),true,0)
 else([],true,5)
theorem afD(s:ByteArray)(w:dX)(hs:s.size<=maxLen):
 eX eY 210 #[.string s] w λe w'=>e=ρ (ι κ (Plain.sum s.data.toList:Nat))/\w'=w:=(O3 s w hs).mono λ_ _ ⟨a,b⟩=>⟨a,b.symm⟩
theorem Px(a b:UInt8):fX (fX (a.toNat:Int)+fX (256*fX (b.toNat:Int)))=(a.toNat:Int)+256*(b.toNat:Int):=by
 have ha:=a.toNat_lt;have hb:=b.toNat_lt;rw[cG (a.toNat:Int) ⟨dZ,dZ⟩,cG (b.toNat:Int) ⟨dZ,dZ⟩,cG (256*(b.toNat:Int)) ⟨dZ,dZ⟩,cG _ ⟨dZ,dZ⟩]
theorem NA(l:List UInt8)(U:¬l.length<2)
 (Z:(((Plain.sum (l.take (l.length-2)):Nat):Int) !=fX (fX ((l[l.length-2]'(by omega)).toNat:Int)+fX (256*fX ((l[l.length-1]'(by omega)).toNat:Int))))=true):nE l false false=([],true,5):=by
 rw[Px]at Z;have Y:¬((Plain.sum (l.take (l.length-2)):Nat):Int)=((l[l.length-2]'(by omega)).toNat:Int)+256*((l[l.length-1]'(by omega)).toNat:Int):=by simpa using Z
 have X:l.getD (l.length-2) 0=l[l.length-2]'(by omega):=by simp[show l.length-2<l.length by omega]
 have V:l.getD (l.length-1) 0=l[l.length-1]'(by omega):=by simp[show l.length-1<l.length by omega]
 unfold nE;rw[af gU,af dZ,af U,X,V,af Y]
theorem K3(l:List UInt8)(U:¬l.length<2)
 (Z:(((Plain.sum (l.take (l.length-2)):Nat):Int) !=fX (fX ((l[l.length-2]'(by omega)).toNat:Int)+fX (256*fX ((l[l.length-1]'(by omega)).toNat:Int))))=false):nE l false false=(l.take (l.length-2),true,0):=by
 rw[Px]at Z;have Y:((Plain.sum (l.take (l.length-2)):Nat):Int)=((l[l.length-2]'(by omega)).toNat:Int)+256*((l[l.length-1]'(by omega)).toNat:Int):=by simpa using Z
 have X:l.getD (l.length-2) 0=l[l.length-2]'(by omega):=by simp[show l.length-2<l.length by omega]
 have V:l.getD (l.length-1) 0=l[l.length-1]'(by omega):=by simp[show l.length-1<l.length by omega]
 unfold nE;rw[af gU,af dZ,af U,X,V,ai Y]
theorem zC:eY.arrayLen 137=62:=gS
theorem Eg:eY.underlying 137=μ (.array (eY.arrayLen 137) (eY.elem 137)):=gS
theorem NB(w:dX):(sizeOf (eY.elem 137)).run eY w=.ok 1 w:=gS
theorem Ra(g o:Nat)(l:List UInt8)(e d:Bool)(w:dX)(h:Rd w g o l e d):
 eX eY 183 #[π (μ ⟨g,o,ν⟩)] w λe' w'=>e'=ρ (τ #[.string ⟨(nE l e d).1.toArray⟩,.bool (nE l e d).2.1,ji (nE l e d).2.2])/\∃n,w'=w.drewN n:=by
 obtain⟨F,hC,X⟩:=h;have hlen:=X.len;have afC:w.cell? ⟨g,o+62,ν⟩=μ (ι κ (l.length:Int)):=(hC.cell 62 ew).trans (congrArg μ X.many);have aku:w.cell? ⟨g,o+63,ν⟩=μ (.bool e):=(hC.cell 63 ew).trans (congrArg μ X.esc);have wj:w.cell? ⟨g,o+64,ν⟩=μ (.bool d):=(hC.cell 64 ew).trans (congrArg μ X.bad);have Y:∀i (h:i<l.length),w.cell? ⟨g,o+i,ν⟩=μ (.int .u8 (l[i].toNat:Int)):=λi h=>(hC.cell i dZ).trans (congrArg μ (X.body i h));have K0:=hC.lt ew;clear hC X;by_cases hd:d=true \/e=true
 ·have Z:nE l e d=([],true,4):=by simp[nE,hd]
  rw[Z];clear Z Y;rcases hd with rfl|rfl
  ·go_in
   go_wp2
   go_ret3
   exact⟨rfl,0,rfl⟩
  ·cases d
   ·go_in
    go_wp2
    go_ret3
    exact⟨rfl,0,rfl⟩
   ·go_in
    go_wp2
    go_ret3
    exact⟨rfl,0,rfl⟩
 ·obtain⟨rfl,rfl⟩:d=false/\e=false:=by cases d<;>cases e<;>simp_all
  by_cases V:l.length=0
  ·have Z:nE l false false=([],false,0):=by simp[nE,V]
   rw[Z];have U:((l.length:Int)==0)=true:=by simp[V]
   have H0:Hid _:=V;clear Z Y V hd
   go_in
   go_wp2
   go_ret3
   exact⟨rfl,0,rfl⟩
  ·have U:((l.length:Int)==0)=false:=by rw[cT];omega
   by_cases T:l.length<2
   ·have Z:nE l false false=([],true,4):=by simp[nE,V,T]
    rw[Z];clear Z Y hd
    go_in
    go_wp2
    go_ret3
    exact⟨rfl,0,rfl⟩
   ·have hsl:∀W:dX,(Instr.sliceAt 137 (π (μ ⟨g,o,ν⟩)) ν (μ (ι κ ((l.length:Int)-2))) ν).run eY W=.ok (σ (μ ⟨g,o,ν⟩) (l.length-2) 62) W:=by
     intro W;rw[run_sliceAt_array_h W 137 ⟨g,o,ν⟩ Eg .i64 _ dZ (by rw[zC];omega),NB,zC];have M:((l.length:Int)-2).toNat=l.length-2:=dZ;simp[slicedAt,Result.andThen,M,ng]
    have wi:(convert 140 9 (σ (μ ⟨g,o,ν⟩) (l.length-2) 62)).run eY w=.ok (.string ⟨(l.take (l.length-2)).toArray⟩) w:=by
     have Q:(l.take (l.length-2)).length=l.length-2:=gU;have:=dK (P:=eY) w 140 9 5 ⟨g,o,ν⟩ 62 (l.take (l.length-2)) underlying140 underlying5 underlying9 (λj hj=>by
      rw[ng,Y j dZ];simp)
     rw[Q]at this;exact this
    have hA:=Y (l.length-2) dZ;have hB:=Y (l.length-1) dZ;have tA:(((l.length:Int)-2).toNat)=l.length-2:=dZ;have tB:(((l.length:Int)-2+1).toNat)=l.length-1:=dZ;have J:(ByteArray.mk (l.take (l.length-2)).toArray).size<=maxLen:=by
     show(l.take (l.length-2)).toArray.size<=maxLen;unfold maxLen;simp;omega
    go_in
    go_wp2
    go_quiet((go_at_call 210;exact Calls.quiet_of_same (afD _ _ J)))
    go_wp2_with(fail)
    ·have S:=NA l T je;rw[S]
     go_ret3
     exact⟨rfl,_,rfl⟩
    ·have S:=K3 l T je;rw[S]
     go_ret3
     exact⟨rfl,_,rfl⟩
def Hr:Array dY:= #[] ++Array.replicate 62 (.int .u8 0)++ #[ι κ 0,.bool false,.bool false]
theorem acg:(eY.info? 139).map (λi=>(i.zero,i.size))=μ (μ (.agg Hr),65):=gS
theorem UU:(∀w,(zeroValue 139).run eY w=.ok (.agg Hr) w)/\(eY.info? 139).map (·.size)=μ 65:=bT acg
theorem zD:Hr.size=65:=ew
def NC(j:Nat):dY:=Hr.getD j (.bool false)
theorem Dp.zero:Dp NC [] false false:=by
 refine⟨gU,λi hi=>⟨0,?_⟩,λi hi=>by simp at hi,gS,gS,gS⟩;have h:Hr[i]? =μ (.int .u8 0):=by
  unfold Hr;rw[cR (by simp;omega)];simp[hi]
 unfold NC;rw[dt,h];rfl
theorem Yz:∀v∈Hr.toList,v.oneCell'=true:=by
 have:Hr.toList.all (·.oneCell')=true:=gS;exact aZ.mp this
theorem Eh(h:qg w g o 65 F):
 (storeCells ⟨g,o,ν⟩ Hr.toList).run eY w=.ok () (w.setCells g o Hr.toList)/\qg (w.setCells g o Hr.toList) g o 65 NC/\lh w (w.setCells g o Hr.toList) g o 65:=by
 have hl:Hr.toList.length=65:=by simp[zD]
 have V:=run_storeCells_cells (P:=eY) g o Hr.toList 0 w (λj Z=>by rw[Nat.add_zero,h.cell j dZ];rfl) (λj Z=>by rw[Nat.add_zero];exact h.fz j dZ) Yz;have T:∀(vs:List dY) (o:Nat) (w:dX),(w.setCells g o vs).heap.size=w.heap.size/\(w.setCells g o vs).os=w.os/\(w.setCells g o vs).tape=w.tape/\(w.setCells g o vs).output=w.output/\∀k,k≠g->(w.setCells g o vs).heap[k]? =w.heap[k]? :=by
  intro vs
  induction vs with
  |nil=>intro o w;exact⟨rfl,rfl,rfl,rfl,λ_ _=>rfl⟩
  |cons u r ih=>
   intro o w;have:=ih (o+1) (w.setCell ⟨g,o,ν⟩ u);have b1:Below 0 w (w.setCell ⟨g,o,ν⟩ u):=(au 0 w).setCell (Nat.zero_le _) _;refine⟨this.1.trans gU,this.2.1.trans b1.os,this.2.2.1.trans b1.tape,this.2.2.2.1.trans b1.output,λk Y=>(this.2.2.2.2 k Y).trans (ak _ _ _ k Y)⟩
 have B:=T Hr.toList o w;refine⟨by simpa using V,λj Z=>⟨?_,?_⟩,⟨B.2.1,B.2.2.1,B.2.2.2.1,by rw[B.1];exact Nat.le_refl _,λi _ U=>B.2.2.2.2 i U,λj Z=>bB g _ _ _ _ (λ_ _=>by show j<o \/o+Hr.toList.length<=j;omega),λj=>bZ g _ _ _ _⟩⟩;{have X:=bJ g Hr.toList o w (λk Y=>by rw[h.cell k dZ];rfl) j dZ;rw[X];unfold NC;rw[dt,Array.getElem?_eq_getElem (by rw[zD];exact Z)];simp};{exact(bZ g _ _ _ _).trans (h.fz j Z)}
def qh(l:List UInt8)(e d:Bool)(c:UInt8):List UInt8×Bool×Bool:=if c=126 then([],false,false)else rW (l,e,d) c
def qj(l:List UInt8)(e d:Bool)(c:UInt8):List UInt8×Bool×Nat:=if c=126 then nE l e d else([],false,0)
theorem Rb(g o:Nat)(l:List UInt8)(e d:Bool)(c:UInt8)(w:dX)(h:Rd w g o l e d):
 eX eY 132 #[π (μ ⟨g,o,ν⟩),.int .u8 (c.toNat:Int)] w λe' w'=>e'=ρ (τ #[.string ⟨(qj l e d c).1.toArray⟩,.bool (qj l e d c).2.1,ji (qj l e d c).2.2])/\
  Rd w' g o (qh l e d c).1 (qh l e d c).2.1 (qh l e d c).2.2/\lh w w' g o 65:=by
 have X:c=126↔((c.toNat:Int)==126)=true:=by
  rw[<-UInt8.toNat_inj,dT];show c.toNat=126↔_;omega
 by_cases hc:c=126
 ·have M:((c.toNat:Int) !=126)=false:=by rw[bne,X.mp hc];rfl
  have Z:qj l e d c=nE l e d:=by simp[qj,hc]
  have Y:qh l e d c=([],false,false):=by simp[qh,hc]
  rw[Z,Y];clear Z Y X hc;have S:=Ra g o l e d w h;obtain⟨F,hC,V⟩:=h;have kd:∀n,(storeCells ⟨g,o,ν⟩ Hr.toList).run eY (w.drewN n)=.ok () ((w.drewN n).setCells g o Hr.toList):=λn=>(Eh (w:=w.drewN n) (F:=F) hC).1;have hz:=UU.1;have hZ:=zD;have T:Hid (qg w g o 65 F):=hC;clear V hC
  go_in
  go_wp2_with(go_at_call 183;refine S.mono ?_;rintro e' w' ⟨rfl,n,rfl⟩)
  go_ret3
  have U:=Eh (w:=w.drewN n) (F:=F) T.out;exact⟨rfl,⟨NC,U.2.1,Dp.zero⟩,((lh.refl w g o 65).drewN n).trans U.2.2⟩
 ·have M:((c.toNat:Int) !=126)=true:=by
   rw[bne];cases J:((c.toNat:Int)==126);{rfl};{exact absurd (X.mpr J) hc}
  have Z:qj l e d c=([],false,0):=by simp[qj,hc]
  have Y:qh l e d c=rW (l,e,d) c:=by simp[qh,hc]
  rw[Z,Y];clear Z Y X hc
  go_in
  go_wp2_with(go_at_call 182;refine(UT g o l e d c _ h).mono ?_;rintro e' w' ⟨rfl,V,Q⟩)
  go_ret3
  exact⟨rfl,V,Q⟩
abbrev kB:=List UInt8×Bool×Bool
def mF(a:List (List UInt8)×Nat×kB)(c:UInt8):List (List UInt8)×Nat×kB:=
 let t:=qj a.2.2.1 a.2.2.2.1 a.2.2.2.2 c
 let r:=qh a.2.2.1 a.2.2.2.1 a.2.2.2.2 c
 if t.2.2≠0 then(a.1,a.2.1+1,r)else if t.2.1=true then(a.1++ [t.1],a.2.1,r)else(a.1,a.2.1,r)
def kx(st:kB)(l:List UInt8):List (List UInt8)×Nat×kB:=l.foldl mF ([],0,st)
def strs(l:List (List UInt8)):List dY:=l.map λs=>Value.string ⟨s.toArray⟩
theorem Rc(st:kB)(l:List UInt8)(c:UInt8):kx st (l++ [c])=mF (kx st l) c:=by simp[kx]
theorem UW(a:List (List UInt8)×Nat×kB)(c:UInt8):(mF a c).1.length+(mF a c).2.1<=a.1.length+a.2.1+1:=by
 unfold mF;simp only;split;{simp only;omega};{split;{simp only[eP,eQ,eR];omega};{simp only;omega}}
theorem K5:∀(l:List UInt8) (a:List (List UInt8)×Nat×kB),(l.foldl mF a).1.length+(l.foldl mF a).2.1<=a.1.length+a.2.1+l.length
 |[],a=>gU
 |c::l,a=>by
  have h1:=K5 l (mF a c);have h2:=UW a c;simp only[List.foldl_cons,eQ];omega
theorem Dq(st:kB)(l:List UInt8):(kx st l).1.length+(kx st l).2.1<=l.length:=by
 have:=K5 l ([],0,st);unfold kx;simp only[eR]at this;omega
theorem YB:(eY.info? 9).map (λi=>(i.zero,i.size,i.bytes))=μ (μ (.string fG),1,16):=gS
theorem UX {w2:dX} {g2 n cap2:Nat} (V:g<w.heap.size)(S:∀k,v.ownBlock=μ k->w.heap.size<=k)(Q:Rd w1 g o l e d)(Z:lh w w1 g o 65)
 (X:(w1.alloc ob).grownBy w2 v.ownBlock) (J:v.ownBlock=μ g2 \/w1.heap.size+1<=g2):
 (∀k,eh (σ (μ ⟨g2,0,ν⟩) n cap2)=μ k->w.heap.size<=k)/\Rd w2 g o l e d/\lh w w2 g o 65:=by
 have hs:=Z.size;have DQ:(w1.alloc ob).heap.size=w1.heap.size+1:=gU;have Y:∀k,k<w.heap.size->w2.heap[k]? =w1.heap[k]? :=λk Y=>by
  rw[X.block k dZ (λe=>by have:=S k e.symm;omega)];exact aU w1 ob k dZ
 refine⟨λk Y=> ?_,?_,⟨X.os.trans Z.os,X.tape.trans Z.tape,X.output.trans Z.output,by have:=X.size;omega,λk T U=>(Y k T).trans (Z.block k T U),λj M=>(aj (a:=⟨g,j,ν⟩) (Y g V)).trans (Z.cell j M),λj=>(aL (a:=⟨g,j,ν⟩) (Y g V)).trans (Z.fz j)⟩⟩
 ·have:g2=k:=by simpa[eh]using Y
  rcases J with h|h
  {have:=S g2 h;omega};{omega}
 ·obtain⟨F,hC,U⟩:=Q;exact⟨F,hC.keep (Y g V),U⟩
theorem UY(g o:Nat)(st:kB)(s:ByteArray)(w:dX)(h:Rd w g o st.1 st.2.1 st.2.2)(hs:s.size<=100000):
 eX eY 78 #[π (μ ⟨g,o,ν⟩),.string s] w λe w'=>∃v,e=ρ (τ #[v,ι κ ((kx st s.data.toList).2.1:Int)])/\
  Row w' 1 v (kx st s.data.toList).1.length (strs (kx st s.data.toList).1)/\(∀k,v.ownBlock=μ k->w.heap.size<=k)/\((kx st s.data.toList).1=[]->v=σ ν 0 0)/\
  Rd w' g o (kx st s.data.toList).2.2.1 (kx st s.data.toList).2.2.2.1 (kx st s.data.toList).2.2.2.2/\lh w w' g o 65:=by
 obtain⟨i0,hi,og,mZ,mc⟩:=aW YB;have AA:g<w.heap.size:=by
  obtain⟨F,hC,_⟩:=h;exact hC.lt ew
 go_in
 go_wp2
 go_loopw [4,5,12] (λv n i wr=>∃(k:Nat) (A:List (List UInt8)×Nat×kB),A=kx st (s.data.toList.take k)/\k<=s.size/\i=ι κ k/\n=ι κ (A.2.1:Int)/\
  Row wr 1 v A.1.length (strs A.1)/\(∀k,v.ownBlock=μ k->w.heap.size<=k)/\(A.1=[]->v=σ ν 0 0)/\Rd wr g o A.2.2.1 A.2.2.2.1 A.2.2.2.2/\lh w wr g o 65)
  (λ_ _ i _=>s.size-(eZ i).toNat)
 case atStart=>exact⟨0,_,rfl,Nat.zero_le _,rfl,rfl,Row.nil _ _,λk hk=>by simp[eh]at hk,λ_=>rfl,h,lh.refl _ _ _ _⟩
 case round=>
  obtain⟨k,A,hA,hk,rfl,rfl,H,J,S,hR,hg⟩:=hrel;have ki:Hid _:=S;clear S;have E:Hid (A.1.length+A.2.1<=k):=by
   have:=Dq st (s.data.toList.take k);rw[<-hA]at this;have h2:(s.data.toList.take k).length<=k:=cz _ _;exact(by omega:A.1.length+A.2.1<=k)
  have HA:Hid _:=hA;clear hA h;by_cases kA:k<s.size
  ·obtain⟨t,dn,Z,hT⟩:∃t dn Z,qj A.2.2.1 A.2.2.2.1 A.2.2.2.2 s[k] =(t,dn,Z):=⟨_,_,_,rfl⟩
   obtain⟨R',y⟩:∃R',qh A.2.2.1 A.2.2.2.1 A.2.2.2.2 s[k] =R':=⟨_,rfl⟩
   have M:eX eY 132 #[π (μ ⟨g,o,ν⟩),.int .u8 (s[k].toNat:Int)] wr λe' w'=>e'=ρ (τ #[.string ⟨t.toArray⟩,.bool dn,ji Z])/\
    Row w' 1 u4 A.1.length (strs A.1)/\Rd w' g o R'.1 R'.2.1 R'.2.2/\lh w w' g o 65:=by
    have hq:=Rb g o A.2.2.1 A.2.2.2.1 A.2.2.2.2 s[k] wr hR;rw[hT,y]at hq;refine hq.mono λe' w' ⟨h1,h2,h3⟩=>⟨h1,H.keep h3.size (λj hj=>h3.block j (H.lt j hj) (λe1=>by have:=J j hj;omega)),h2,hg.trans h3⟩
   have T:(kx st (s.data.toList.take (k+1))=if Z≠0 then(A.1,A.2.1+1,R')else if dn=true then(A.1++ [t],A.2.1,R')else(A.1,A.2.1,R')):=by
    have:s.data.toList.take (k+1)=s.data.toList.take k++ [s[k]] :=G4 s k kA;rw[this,Rc,<-HA.out];unfold mF;simp only[hT,y]
   have D:Hid _:=T;clear T;have hn:A.2.1<=100000:=by have:=E.out;omega
   clear hT y H hR hg;by_cases Y:Z=0
   ·subst Y;have Q:ji 0=η:=rfl;rw[Q]at M;clear Q;cases dn
    ·go_wp2_with(go_at_call 132;refine M.mono ?_;rintro e w1 ⟨rfl,U,X,V⟩);go_roundw
     case rel=>exact⟨k+1,_,D.out.symm,dZ,by go_num,rfl,U,J,ki.out,X,V⟩
     case measure=>simp[eZ];omega
    ·have m1:A.1.length+1<=maxLen:=by have:=E.out;unfold maxLen;omega
     have b1:(A.1.length+1)*16<=140737488355328:=by have:=E.out;omega
     go_wp2_with(first
      |(go_at_call 132;refine M.mono ?_;rintro e w1 ⟨rfl,U,X,V⟩)
      |(at_builtin;go_must(refine iG _ rfl (.tmp 29) (.tmp 31) 164 rfl 9 i0 (.string fG) 1 16 underlying164 hi og mZ mc rfl ew u4 A.1.length (strs A.1) rfl (Row.alloc je _) _ 1 1 [.string ⟨t.toArray⟩] rfl rfl ew (qF _ _ _) (MO _) m1 b1 ?_)))
     intro g2 cap2 w2 sW sK kV;have hS:=UX (n:=A.1.length+1) (cap2:=cap2) AA J X V sK kV;clear sK kV U X V
     go_wp2
     go_roundw
     case rel=>exact⟨k+1,(A.1++ [t],A.2.1,R'),by rw[D.out];rfl,dZ,by go_num,rfl,by simpa[strs]using sW,hS.1,λh=>by simp at h,hS.2.1,hS.2.2⟩
     case measure=>simp[eZ];omega
   ·have Q:ji Z=.iface 128 (ι κ (Z:Int)):=by simp[ji,Y]
    rw[Q]at M;clear Q;go_wp2_with(go_at_call 132;refine M.mono ?_;rintro e w1 ⟨rfl,U,X,V⟩);go_roundw
    case rel=>exact⟨k+1,(A.1,A.2.1+1,R'),by rw[D.out,ai Y],dZ,by go_num,by go_num,U,J,ki.out,X,V⟩
    case measure=>simp[eZ];omega
  ·go_wp2
   have hA:kx st s.data.toList=A:=by
    rw[HA.out,aI];show s.size<=k;omega
   rw[hA]
   go_ret2
   exact⟨u4,rfl,H,J,ki.out,hR,hg⟩
theorem wk(s:ByteArray)(a b:Nat):(s.extract a b).data.toList=(s.data.toList.take b).drop a:=by
 rw[ByteArray.data_extract];simp[List.drop_take]
theorem Rf:∀c:UInt8,rT c=true->(c^^^32≠126/\¬c^^^32<32/\c^^^32≠125)/\c^^^32^^^32=c:=by
 have h:∀n:Fin 256,rT (UInt8.ofNat n)=true->(UInt8.ofNat n^^^32≠126/\¬UInt8.ofNat n^^^32<32/\UInt8.ofNat n^^^32≠125)/\UInt8.ofNat n^^^32^^^32=UInt8.ofNat n:=by decide+kernel
 intro c;have:=h ⟨c.toNat,c.toNat_lt⟩;simpa using this
theorem K7:∀c:UInt8,rT c=false->c≠126/\¬c<32/\c≠125:=by
 intro c h;unfold rT at h;simp at h;exact⟨h.1.1,by rw[UInt8.lt_iff_toNat_lt];have:=h.2;rw[UInt8.le_iff_toNat_le]at this;omega,h.1.2⟩
theorem A2:∀(l:List UInt8) (o:List (List UInt8)) (n:Nat) (st:kB),l.foldl mF (o,n,st)=(o++(l.foldl mF ([],0,st)).1,n+(l.foldl mF ([],0,st)).2.1,(l.foldl mF ([],0,st)).2.2)
 |[],o,n,st=>gU
 |c::l,o,n,st=>by
  have key:∀(o:List (List UInt8)) (n:Nat),mF (o,n,st) c=(o++(mF ([],0,st) c).1,n+(mF ([],0,st) c).2.1,(mF ([],0,st) c).2.2):=by
   intro o n;unfold mF;simp only;split;{simp};{split<;>simp}
  rw[bF,bF,key o n,A2 l (o++_) _ _];obtain⟨x,y,z,e⟩:∃x y z,mF ([],0,st) c=(x,y,z):=⟨_,_,_,rfl⟩
  rw[e];simp only;rw[A2 l x y z];simp[Nat.add_assoc]
theorem ru(st:kB)(a b:List UInt8):kx st (a++b)=((kx st a).1++(kx (kx st a).2.2 b).1,(kx st a).2.1+(kx (kx st a).2.2 b).2.1,(kx (kx st a).2.2 b).2.2):=by
 unfold kx;rw[db];exact A2 b _ _ _
theorem Ei(o:List (List UInt8))(n:Nat)(l:List UInt8)(e d:Bool)(c:UInt8)(h:c≠126):mF (o,n,(l,e,d)) c=(o,n,rW (l,e,d) c):=by
 simp[mF,qj,qh,h]
theorem Rh(o:List (List UInt8))(n:Nat)(l:List UInt8)(c:UInt8)(h:l.length<62):(CN c).foldl mF (o,n,(l,false,false))=(o,n,(l++ [c],false,false)):=by
 unfold CN;by_cases hc:rT c=true
 ·obtain⟨⟨Y,X,V⟩,T⟩:=Rf c hc;rw[ai hc,bF,bF,fY,Ei o n l false false 125 ew];have U:rW (l,false,false) 125=(l,true,false):=by simp[rW]
  rw[U,Ei _ _ _ _ _ _ Y];have Z:rW (l,true,false) (c^^^32)=(l++ [c^^^32^^^32],false,false):=by
   simp[rW,X,V,Nat.ne_of_lt h]
  rw[Z,T]
 ·have S:rT c=false:=by simpa using hc
  obtain⟨Y,X,V⟩:=K7 c S;rw[af hc,bF,fY,Ei _ _ _ _ _ _ Y];have Z:rW (l,false,false) c=(l++ [c],false,false):=by
   simp[rW,X,V,Nat.ne_of_lt h]
  rw[Z]
theorem Hs(o:List (List UInt8))(n:Nat):∀(m l:List UInt8),l.length+m.length<=62->(sA m).foldl mF (o,n,(l,false,false))=(o,n,(l++m,false,false))
 |[],l,_=>by simp[sA]
 |c::m,l,h=>by
  have h':l.length+(m.length+1)<=62:=by simpa using h
  have e:sA (c::m)=CN c++sA m:=by simp[sA]
  rw[e,db,Rh o n l c dZ,Hs o n m (l++ [c]) (by simp;omega)];simp
theorem Jg(l:List UInt8):nE (lU l) false false=(l,true,0):=by
 have hl:(lU l).length=l.length+2:=oz l;have X:(lU l).take ((lU l).length-2)=l:=by rw[hl];simp[lU]
 have Z:(lU l).getD ((lU l).length-2) 0=Ku l:=by
  rw[hl];simp[lU]
 have Y:(lU l).getD ((lU l).length-1) 0=Kv l:=by
  rw[hl];simp[lU]
 unfold nE;rw[af gU,af dZ,af dZ,Z,Y,X,ai];rw[G5,G6];omega
theorem ND(l:List UInt8)(h:l.length<=60):kx ([],false,false) (lM l)=([l],0,([],false,false)):=by
 unfold kx lM;rw[bF,db];have Z:mF ([],0,([],false,false)) 126=([],0,([],false,false)):=by simp[mF,qj,qh,nE]
 rw[Z,Hs [] 0 (lU l) [] (by rw[oz];simp;omega)];simp[mF,qj,qh,Jg]
theorem xU(l:List UInt8):(lM l).length=(sA (lU l)).length+2:=by simp[lM]
theorem Ri(l:List UInt8)(h:l.length<=60):(lM l).length<=126:=by
 rw[xU];have:=Dg (lU l);rw[oz]at this;omega
def jY(x:Int):UInt8:=UInt8.ofNat x.toNat
theorem nF(x:Int)(h0:0<=x)(h1:x<=255):((jY x).toNat:Int)=x:=by
 unfold jY;rw[UInt8.toNat_ofNat_of_lt' (by show x.toNat<256;omega)];omega
def BX(os:List jJ):List UInt8:=os.flatMap λo=>[jY o.1,jY o.2]
def mG(code id:Int)(os:List jJ):List UInt8:=jY code::jY id::jY os.length::BX os
theorem NF(os:List jJ)(o:jJ):BX (os++ [o])=BX os++ [jY o.1,jY o.2] :=by simp[BX]
theorem rY(os:List jJ):(BX os).length=2*os.length:=by
 induction os with
 |nil=>rfl
 |cons o r ih=>simp only[BX,List.flatMap_cons,eP,eQ,eR]at ih⊢;omega
theorem Ej:∀(r seen:List jJ),qe seen r=0->∀o∈r,yA o.1=true/\yA o.2=true
 |[],_,_,o,Z=>by simp at Z
 |x::r,seen,h,o,Z=>by
  unfold qe at h;split at h;{simp at h}
  ·rename_i Y
   split at h;{simp at h}
   ·rcases aO.mp Z with rfl|Z
    {simpa using Y};{exact Ej r _ h o Z}
theorem NG {code id:Int} {os:List jJ} (h:jS code id os=0):1<=code/\code<=6/\(0<=id/\id<=255)/\os.length<=8/\(5<=code->os.length=0)/\qe [] os=0:=by
 unfold jS at h;split at h;{simp at h}
 ·rename_i h1
  split at h;{simp at h}
  ·split at h;{simp at h}
   ·have Z:yA id=true:=by cases hq:yA id<;>simp_all
    exact⟨dZ,dZ,(Dm id).mp Z,dZ,dZ,h⟩
theorem K8(code id:Int)(a:Option Addr)(n cap:Nat)(os:List jJ)(w:dX)(U:n<=1000000)(V:n<=cap)(T:jc w a n os)(hf:jS code id os≠0):
 eX eY 175 #[.agg #[ι κ code,ι κ id,σ a n cap]] w λe w'=>e=ρ (τ #[.string fG,ji (jS code id os)])/\eB w w':=by
 have X:eB w (w.alloc (γ #[ι κ code,ι κ id,σ a n cap] 37)):=(au _ _).alloc (Nat.le_refl _) _;have Z:=uh code id a n cap os (w.alloc (γ #[ι κ code,ι κ id,σ a n cap] 37)) U V (T.below X);generalize jS code id os=f at hf Z;have Y:ji f=.iface 128 (ι κ (f:Int)):=by simp[ji,hf]
 rw[Y]at Z⊢;clear Y
 go_in
 go_wp2_with(fail);refine Z.mono ?_;rintro e w1 ⟨rfl,S⟩
 go_wp2
 go_ret2
 exact⟨rfl,gh X S⟩
theorem Jh(code id:Int)(a:Option Addr)(n cap:Nat)(os:List jJ)(w:dX)(KO:n<=cap)(D:jc w a n os)(hf:jS code id os=0):
 eX eY 175 #[.agg #[ι κ code,ι κ id,σ a n cap]] w λe w'=>e=ρ (τ #[.string ⟨(mG code id os).toArray⟩,η])/\eB w w':=by
 obtain⟨i0,hi,og,mZ,mc⟩:=aW aaC;obtain⟨p1,p2,⟨p3,p4⟩,p5,p6,p7⟩:=NG hf;have nN:=Ej os [] p7;have hl:=D.1;have y:eB w (w.alloc (γ #[ι κ code,ι κ id,σ a n cap] 37)):=(au _ _).alloc (Nat.le_refl _) _;have A:=uh code id a n cap os (w.alloc (γ #[ι κ code,ι κ id,σ a n cap] 37)) dZ KO (D.below y);have e0:ji 0=η:=rfl;rw[hf,e0]at A;clear e0 p6 p7 hf;have UZ:∀w1:dX,Below (w.alloc (γ #[ι κ code,ι κ id,σ a n cap] 37)).heap.size (w.alloc (γ #[ι κ code,ι κ id,σ a n cap] 37)) w1->
  w1.cell? ⟨w.heap.size,0,ν⟩=μ (ι κ code)/\w1.cell? ⟨w.heap.size,1,ν⟩=μ (ι κ id)/\w1.cell? ⟨w.heap.size,2,ν⟩=μ (σ a n cap):=by
  intro w1 hb;have T:w.heap.size<(w.alloc (γ #[ι κ code,ι κ id,σ a n cap] 37)).heap.size:=gU;have hA:=λj=>aq w #[ι κ code,ι κ id,σ a n cap] 37 (0,0) j;exact⟨(hb.cell (p:=⟨w.heap.size,0,ν⟩) T).trans (hA 0),(hb.cell (p:=⟨w.heap.size,1,ν⟩) T).trans (hA 1),(hb.cell (p:=⟨w.heap.size,2,ν⟩) T).trans (hA 2)⟩
 go_in
 go_wp2_with(fail);refine A.mono ?_;rintro e w1 ⟨rfl,S⟩;obtain⟨q0,q1,q2⟩:=UZ w1 S;have vK:=gh y S;have T:w.heap.size<w1.heap.size:=by
  have:=S.size;simp at this;omega
 clear UZ S A y;go_wp2_with(fail);have uf:Row (w1.alloc (γ #[.int .u8 code,.int .u8 id,.int .u8 (n:Int)] 5)) 1 (σ (μ ⟨w1.heap.size,0,ν⟩) 3 3) 3 (iP [jY code,jY id,jY os.length]):=by
  refine Row.made w1 1 5 _ (0,0) 3 3 _ rfl rfl (Nat.le_refl _) ew (.inl rfl) ?_;intro j u hu;simp only[iP,eI,eM,nF code dZ dZ,nF id p3 p4,hl,nF (n:Int) dZ dZ]at hu;simpa using hu
 have xh:eB w (w1.alloc (γ #[.int .u8 code,.int .u8 id,.int .u8 (n:Int)] 5)):=vK.alloc vK.size _
 go_loopw [5,27] (λv i wr=>∃(k g cp:Nat) (E:List UInt8),E=jY code::jY id::jY os.length::BX (os.take k)/\k<=n/\i=ι κ k/\v=σ (μ ⟨g,0,ν⟩) E.length cp/\Row wr 1 v E.length (iP E)/\
  w.heap.size<=g/\eB w wr)
  (λ_ i _=>n-(eZ i).toNat)
 case atStart=>exact⟨0,w1.heap.size,3,_,rfl,Nat.zero_le _,rfl,rfl,uf,vK.size,xh⟩
 case round=>
  obtain⟨k,g,cp,E,M,hk,rfl,rfl,U,Kh,X⟩:=hrel;have Pv:E.length<=19:=by
   have h1:=rY (os.take k);have h2:(os.take k).length<=8:=by simp;omega
   rw[M];simp only[eQ];omega
  have HE:Hid _:=M;have HL:Hid _:=hl;clear M uf xh hl;have m2:E.length+2<=maxLen:=by unfold maxLen;omega
  have b2:(E.length+2)*1<=140737488355328:=dZ;by_cases kA:k<n
  ·have Ap:=D.below X;rcases Ap.2 with h0|⟨b,off,rfl,hc⟩
   ·omega
   have qG:k<os.length:=by rw[HL.out];exact kA
   obtain⟨c1,c2⟩:=hc k qG;obtain⟨J,H⟩:=nN os[k] (aF _);have HT:Hid (os.take (k+1)=os.take k++ [os[k]]):=aA qG;generalize os[k] =o at c1 c2 HT J H;obtain⟨o1a,o1b⟩:=(Dm o.1).mp J;obtain⟨o2a,o2b⟩:=(Dm o.2).mp H;clear hc J H Ap;have nL:(k:Int)<(n:Int):=dZ;have Y:eB w (wr.alloc (γ #[ι κ o.1,ι κ o.2] 276)):=X.alloc X.size _;have Z:Row (wr.alloc (γ #[ι κ o.1,ι κ o.2] 276)) 1 (σ (μ ⟨g,0,ν⟩) E.length cp) E.length (iP E):=U.alloc _;go_wp2_with(at_builtin;go_must(refine iG _ rfl (.tmp 31) (.tmp 38) 140 rfl 5 i0 (.int .u8 0) 1 1 underlying140 hi og mZ mc rfl ew _ E.length (iP E) rfl (Z.alloc _) _ 2 2 [.int .u8 o.1,.int .u8 o.2] rfl rfl ew ?hcc (lL _ _ _ _) m2 b2 ?_))
   case hcc=>
    have:=pI (wr.alloc (γ #[ι κ o.1,ι κ o.2] 276)) (.int .u8 o.1) (.int .u8 o.2) 5;simpa using this
   intro V cap2 w2 sW sK kV;have sG:μ g=μ V \/(wr.alloc (γ #[ι κ o.1,ι κ o.2] 276)).heap.size+1<=V:=by
    rcases kV with h|h
    {exact .inl h};{exact .inr (by simp;omega)}
   have R:=GU sK sG Kh Y;have sD:Row w2 1 (σ (μ ⟨V,0,ν⟩) (E.length+2) cap2) (E++ [jY o.1,jY o.2]).length (iP (E++ [jY o.1,jY o.2])):=by
    rw[lI,az];simp only[iP,eI,eM,nF o.1 o1a o1b,nF o.2 o2a o2b];exact sW
   have HN:Hid (E++ [jY o.1,jY o.2] =jY code::jY id::jY os.length::BX (os.take (k+1))):=by
    show E++ [jY o.1,jY o.2] =_;rw[HE.out,HT.out,NF];rfl
   have Q:Hid ((E++ [jY o.1,jY o.2]).length=E.length+2):=by show(E++ [jY o.1,jY o.2]).length=E.length+2;simp
   clear sW sK kV sG U X Y Z
   go_wp2
   go_roundw
   case rel=>exact⟨k+1,V,cap2,_,HN.out,dZ,by go_num,by rw[Q.out],sD,R.1,R.2⟩
   case measure=>simp[eZ];omega
  ·have aaD:(convert 140 9 (σ (μ ⟨g,0,ν⟩) E.length cp)).run eY wr=.ok (.string ⟨E.toArray⟩) wr:=Row.back U 140 9 5 underlying140 underlying5 underlying9;have HF:Hid (mG code id os=E):=by
    show mG code id os=E;have zf:os.take k=os:=aI (by rw[HL.out];omega);rw[HE.out,zf];rfl
   clear U;go_wp2_with(fail);rw[HF.out]
   go_ret2
   exact⟨rfl,X⟩
theorem U0:(eY.info? 276).map (λi=>(i.zero,i.size,i.bytes))=μ (μ (.agg #[ι κ 0,ι κ 0]),2,16):=gS
theorem U1(w:dX):(zeroValue 37).run eY w=.ok (.agg #[ι κ 0,ι κ 0,σ ν 0 0]) w:=gS
theorem A3(w:dX)(x y:dY)(t:TypeId):∀(j:Nat) (u:dY),[x,y][j]? =μ u->(w.alloc (γ #[x,y] t)).drew.cell? ((⟨w.heap.size,0,ν⟩:Addr).add j)=μ u:=λj u Z=>pI w x y t j u Z
theorem rZ {o:Obj} {b:Nat} (Y:∀k,v.ownBlock=μ k->lo+2<=k)(Z:(wr.alloc o).drew.grownBy x1 v.ownBlock)(hb:b<lo+2)(X:b<wr.heap.size):x1.heap[b]? =wr.heap[b]? :=by
 rw[Z.block b (by show b<(wr.alloc o).heap.size;simp;omega) (λe=>by have:=Y b e.symm;omega)];exact aU wr o b X
theorem K9 {o:Obj} (Y:∀k,v.ownBlock=μ k->lo+2<=k)(Z:(wr.alloc o).drew.grownBy x1 v.ownBlock)(hc:wr.cell? ⟨lo+1,j,ν⟩=μ u):x1.cell? ⟨lo+1,j,ν⟩=μ u:=by
 have X:lo+1<wr.heap.size:=ag wr _ hc;rw[aj (w:=wr) (a:=⟨lo+1,j,ν⟩) (rZ (b:=lo+1) Y Z dZ X)];exact hc
theorem Gr {o:Obj} (Y:∀k,v.ownBlock=μ k->lo+2<=k)(Z:(wr.alloc o).drew.grownBy x1 v.ownBlock)(hc:wr.cell? ⟨lo+1,j,ν⟩=μ u)(hf:wr.frozen? ⟨lo+1,j,ν⟩=false):x1.frozen? ⟨lo+1,j,ν⟩=false:=by
 have X:lo+1<wr.heap.size:=ag wr _ hc;rw[aL (w:=wr) (a:=⟨lo+1,j,ν⟩) (rZ (b:=lo+1) Y Z dZ X)];exact hf
def mN:List UInt8->List jJ
 |k::n::r=>((k.toNat:Int),(n.toNat:Int))::mN r
 |_=>[]
theorem BZ(s:ByteArray)(k:Nat)(h:k<s.size):s.data.toList.drop k=s[k] ::s.data.toList.drop (k+1):=by
 rw[aR (by simpa using h)];rfl
theorem wm(Y:wr.heap[w.heap.size]? =μ (γ #[ι κ 0,ι κ 0,σ ν 0 0] 37 (0,0)))(hb:eB wr w1):
 w1.cell? ⟨w.heap.size,0,ν⟩=μ (ι κ 0)/\w1.cell? ⟨w.heap.size,1,ν⟩=μ (ι κ 0)/\w1.cell? ⟨w.heap.size,2,ν⟩=μ (σ ν 0 0)/\∀j,w1.frozen? ⟨w.heap.size,j,ν⟩=false:=by
 have X:w.heap.size<wr.heap.size:=(ax.1 Y).1;have Z:w1.heap[w.heap.size]? =μ (γ #[ι κ 0,ι κ 0,σ ν 0 0] 37 (0,0)):=by rw[hb.block _ X];exact Y
 exact⟨aw w1 _ 0 _ 37 (0,0) Z,aw w1 _ 1 _ 37 (0,0) Z,aw w1 _ 2 _ 37 (0,0) Z,λj=>bD w1 _ j _ 37 Z⟩
def iY(l:List UInt8):Int×Int×List jJ×Nat:=
 if l.length<3 \/(l.length:Int)≠(3:Int)+(2:Int)*((l.getD 2 0).toNat:Int)then(0,0,[],4)
 else if jS ((l.getD 0 0).toNat:Int) ((l.getD 1 0).toNat:Int) (mN (l.drop 3))=0 then(((l.getD 0 0).toNat:Int),((l.getD 1 0).toNat:Int),mN (l.drop 3),0)
 else(0,0,[],4)
def Em(l:List UInt8)(w:dX)(e:Ending)(w':dX):Prop:=
 ∃(a:Option Addr) (n cap f:Nat) (code id:Int) (os:List jJ),e=ρ (τ #[.agg #[ι κ code,ι κ id,σ a n cap],ji f])/\jc w' a n os/\n<=cap/\iY l=(code,id,os,f)/\eB w w'/\(∀j,eh (σ a n cap)=μ j->w.heap.size<=j/\j<w'.heap.size)/\kJ a cap
theorem xV(s:ByteArray)(h3:3<=s.size)(heq:(s.size:Int)=(3:Int)+(2:Int)*(s[2].toNat:Int)):
 iY s.data.toList=if jS (s[0].toNat:Int) (s[1].toNat:Int) (mN (s.data.toList.drop 3))=0 then((s[0].toNat:Int),(s[1].toNat:Int),mN (s.data.toList.drop 3),0)else(0,0,[],4):=by
 have hl:s.data.toList.length=s.size:=gU;unfold iY;rw[nV s 0 dZ,nV s 1 dZ,nV s 2 dZ,hl,af dZ]
theorem B1 {x y z:dY} (Y:Row w1 2 (σ ao k cp) k (iR ok))(X:∀j,eh (σ ao k cp)=μ j->w.heap.size+2<=j)(hb:eB w w1):
 jc (((w1.setCell ⟨w.heap.size,0,ν⟩ x).setCell ⟨w.heap.size,1,ν⟩ y).setCell ⟨w.heap.size,2,ν⟩ z) ao k ok/\eB w (((w1.setCell ⟨w.heap.size,0,ν⟩ x).setCell ⟨w.heap.size,1,ν⟩ y).setCell ⟨w.heap.size,2,ν⟩ z):=by
 refine⟨Row.opts (Y.keep gU (λj Z=> ?_)),((hb.setCell (Nat.le_refl _) _).setCell (Nat.le_refl _) _).setCell (Nat.le_refl _) _⟩;have:=X j Z;rw[ak _ _ _ _ (by show j≠w.heap.size;omega),ak _ _ _ _ (by show j≠w.heap.size;omega),ak _ _ _ _ (by show j≠w.heap.size;omega)]
theorem CX(w:dX)(a b:Obj):((w.alloc a).alloc b).drew.heap[w.heap.size+1]? =μ b:=by
 have h:=aY (w.alloc a) b;have e:(w.alloc a).heap.size=w.heap.size+1:=gU;rw[e]at h;exact h
theorem A4(w:dX)(a b:Obj):((w.alloc a).alloc b).drew.heap[w.heap.size]? =μ a:=by
 show((w.alloc a).alloc b).heap[w.heap.size]? =μ a;rw[aU (w.alloc a) b w.heap.size gU];exact aY w a
theorem Ji {g' jn:Nat} {c d:Int} {x y:Nat}
 (U:wr.heap[w.heap.size+1]? =μ (γ #[ι κ c,ι κ d,σ ao k cp] 37 (0,0)))
 (Q:wr.heap[w.heap.size]? =μ (γ #[ι κ 0,ι κ 0,σ ν 0 0] 37 (0,0)))
 (_hrow:Row wr 2 (σ ao k cp) k (iR ok)) (Y:∀j,eh (σ ao k cp)=μ j->w.heap.size+2<=j) (S:eB w wr)
 (T:Row x1 2 (σ (μ ⟨g',0,ν⟩) (k+1) jn) (k+1) (iR ok++ [ι κ (κ.wrap (x:Int)),ι κ (κ.wrap (y:Int))]))
 (X:(wr.alloc ob).drew.grownBy x1 (eh (σ ao k cp))) (J:eh (σ ao k cp)=μ g' \/(wr.alloc ob).drew.heap.size<=g') (hx:x<2^8) (hy:y<2^8):
 Row (x1.setCell ⟨w.heap.size+1,2,ν⟩ (σ (μ ⟨g',0,ν⟩) (k+1) jn)) 2 (σ (μ ⟨g',0,ν⟩) (k+1) jn) (k+1) (iR (ok++ [((x:Int),(y:Int))]))/\
 (x1.setCell ⟨w.heap.size+1,2,ν⟩ (σ (μ ⟨g',0,ν⟩) (k+1) jn)).heap[w.heap.size+1]? =μ (γ #[ι κ c,ι κ d,σ (μ ⟨g',0,ν⟩) (k+1) jn] 37 (0,0))/\
 (x1.setCell ⟨w.heap.size+1,2,ν⟩ (σ (μ ⟨g',0,ν⟩) (k+1) jn)).heap[w.heap.size]? =μ (γ #[ι κ 0,ι κ 0,σ ν 0 0] 37 (0,0))/\
 (∀j,eh (σ (μ ⟨g',0,ν⟩) (k+1) jn)=μ j->w.heap.size+2<=j)/\eB w (x1.setCell ⟨w.heap.size+1,2,ν⟩ (σ (μ ⟨g',0,ν⟩) (k+1) jn)):=by
 have H:w.heap.size+1<wr.heap.size:=(ax.1 U).1;have k1:=rZ (b:=w.heap.size+1) Y X dZ H;have k0:=rZ (b:=w.heap.size) Y X dZ dZ;have hs0:(wr.alloc ob).drew.heap.size=wr.heap.size+1:=by show(wr.alloc ob).heap.size=_;simp
 have K0:w.heap.size+2<=g':=by
  rcases J with h|h
  {exact Y g' h};{omega}
 have V:x1.heap[w.heap.size+1]? =μ (γ #[ι κ c,ι κ d,σ ao k cp] 37 (0,0)):=by rw[k1];exact U
 refine⟨?_,?_,?_,?_,?_⟩
 ·have ex:κ.wrap (x:Int)=(x:Int):=aS _ ⟨dZ,dZ⟩;have M:κ.wrap (y:Int)=(y:Int):=aS _ ⟨dZ,dZ⟩;rw[ex,M,<-mb ok ((x:Int),(y:Int))]at T;refine T.keep gU (λj Z=> ?_);have:g'=j:=by simpa[eh]using Z
  exact ak _ _ _ _ (by show j≠w.heap.size+1;omega)
 {rw[bL x1 (w.heap.size+1) 2 _ 37 (0,0) _ V];exact cF x1 _ _ _ 37 (0,0) V};{rw[ak _ _ _ _ (by show w.heap.size≠w.heap.size+1;omega),k0];exact Q}
 ·intro j Z;have:g'=j:=by simpa[eh]using Z
  omega
 ·have E:eB w (wr.alloc ob).drew:=(S.alloc S.size _).drew;refine bw ?_ (by show w.heap.size<=w.heap.size+1;omega) _;refine E.grown X dZ (λj Z=> ?_);have:=Y j Z;omega
theorem Jj(s:ByteArray)(w:dX)(hs:s.size<=1000)(h3:3<=s.size)(heq:(s.size:Int)=(3:Int)+(2:Int)*(s[2].toNat:Int)):
 eX eY 184 #[.string s] w λe w'=>Em s.data.toList w e w':=by
 obtain⟨i0,hi,og,mZ,mc⟩:=aW U0;have hz:=U1;have g1:¬(s.size:Int)<3:=dZ;have mS:=s[2].toNat_lt;have g2:((s.size:Int) !=(3:Int)+(2:Int)*(s[2].toNat:Int))=false:=by rw[heq];simp
 have HE:Hid _:=heq;clear heq;have b0:0<s.size:=dZ;have b1:1<s.size:=dZ;have b2:2<s.size:=dZ;have xh:=s[0].toNat_lt;have Z:=s[1].toNat_lt;have z0:(0:Int)<(s.size:Int):=dZ;have z1:(1:Int)<(s.size:Int):=dZ
 go_in
 go_wp2
 go_region
 go_wp2
 go_loopw [5] (λi wr=>∃(k cp:Nat) (ao:Option Addr) (ok:List jJ),3+2*k<=s.size/\i=ι κ ((3+2*k:Nat):Int)/\ok.length=k/\mN (s.data.toList.drop 3)=ok++mN (s.data.toList.drop (3+2*k))/\Row wr 2 (σ ao k cp) k (iR ok)/\
  wr.heap[w.heap.size+1]? =μ (γ #[ι κ (s[0].toNat:Int),ι κ (s[1].toNat:Int),σ ao k cp] 37 (0,0))/\wr.heap[w.heap.size]? =μ (γ #[ι κ 0,ι κ 0,σ ν 0 0] 37 (0,0))/\
  (∀j,eh (σ ao k cp)=μ j->w.heap.size+2<=j)/\eB w wr)
  (λi _=>s.size-(eZ i).toNat)
 case atStart=>
  refine⟨0,0,ν,[],dZ,rfl,rfl,rfl,Row.nil _ _,?_,?_,λj Y=>by simp[eh]at Y,(((au _ _).alloc (Nat.le_refl _) _).alloc gU _).drew⟩;{exact CX w _ _};{exact A4 w _ _}
 case round=>
  obtain⟨k,cp,ao,ok,hk,rfl,iO,H,X,h,Ek,D,iL⟩:=hrel;have hP:Hid _:=H;clear H;have cv:wr.cell? ⟨w.heap.size+1,2,ν⟩=μ (σ ao k cp):=aw wr _ 2 _ 37 (0,0) h;have fv:wr.frozen? ⟨w.heap.size+1,2,ν⟩=false:=bD wr _ 2 _ 37 h;have YC:w.heap.size+1<wr.heap.size:=ag wr _ cv;have U:Hid _:=h;have T:Hid _:=Ek;clear h Ek;by_cases kA:3+2*k<s.size
  ·have Gk:3+2*k+1<s.size:=by have:=HE.out;omega
   obtain⟨q,hq⟩:∃q,q=3+2*k:=⟨_,rfl⟩
   rw[<-hq]at kA Gk;have A:Hid _:=hq;have y0:(0:Int)<=(q:Int):=dZ;have y1:(q:Int)<(s.size:Int):=dZ;have y2:(q:Int)+1<(s.size:Int):=dZ;have y3:(0:Int)<=(q:Int)+1:=dZ;have yw:κ.wrap ((q:Int)+1)=(q:Int)+1:=aS _ ⟨dZ,dZ⟩;have hbq:=s[q].toNat_lt;have akA:=s[q+1].toNat_lt;have m1:k+1<=maxLen:=by unfold maxLen;omega
   have bb1:(k+1)*16<=140737488355328:=dZ;rw[<-hq];clear hq;have HP2:Hid (mN (s.data.toList.drop 3)=(ok++ [((s[q].toNat:Int),(s[q+1].toNat:Int))])++mN (s.data.toList.drop (3+2*(k+1)))):=by
    show mN (s.data.toList.drop 3)=_;rw[hP.out,<-A.out,BZ s q kA,BZ s (q+1) Gk];have S:q+1+1=3+2*(k+1):=by have:=A.out;omega
    rw[S];simp[mN]
   go_wp2
   go_region_law ((refine lV (by rfl) (.tmp 35) (.tmp 46) 35 (by rfl) 276 i0 (.agg #[ι κ 0,ι κ 0]) 2 16 underlying35 hi og mZ mc (by rfl) ew (σ ao k cp) k (iR ok) (by rfl) ((X.alloc _).drew) _ 1 1 [ι κ (κ.wrap (s[q].toNat:Int)),ι κ (κ.wrap (s[q+1].toNat:Int))] (by rfl) (by rfl) ew (A3 _ _ _ _) (lL _ _ _ _) m1 bb1 ?_;intro g' jn x1 k8 kD jE;have c1:=K9 D kD cv;have f1:=Gr D kD cv fv))
   all_goals have hS:=Ji (c:=(s[0].toNat:Int)) (d:=(s[1].toNat:Int)) U.out T.out X D iL k8 kD jE s[q].toNat_lt s[q+1].toNat_lt
   all_goals clear k8 kD jE c1 f1
   all_goals go_wp2_with(fail)
   all_goals go_roundw
   all_goals first
    |exact⟨k+1,jn,some ⟨g',0,none⟩,_,by have:=A.out;omega,by have:=A.out;go_num,by simp[iO],HP2.out,hS⟩
    |(simp[eZ];omega)
  ·have E:3+2*k=s.size:=dZ;have U2:mN (s.data.toList.drop 3)=ok:=by
    rw[hP.out,E,a8 (by show s.size<=s.size;omega)];simp[mN]
   have CP:=X.opts;have Di:=X.TG;have c0:wr.cell? ⟨w.heap.size+1,0,ν⟩=μ (ι κ (s[0].toNat:Int)):=aw wr _ 0 _ 37 (0,0) U.out;have c1:wr.cell? ⟨w.heap.size+1,1,ν⟩=μ (ι κ (s[1].toNat:Int)):=aw wr _ 1 _ 37 (0,0) U.out;have Q:=uh (s[0].toNat:Int) (s[1].toNat:Int) ao k cp ok wr dZ Di CP;have HK:Hid _:=U2;clear hP U2 E;by_cases hf:jS (s[0].toNat:Int) (s[1].toNat:Int) ok=0
   ·have M:ji 0=η:=rfl;rw[hf,M]at Q;clear M;have HF:Hid _:=hf;clear hf;go_wp2_with(fail);refine Q.mono ?_;rintro e w1 ⟨rfl,Z⟩;have d0:=(Z.cell (p:=⟨w.heap.size+1,0,ν⟩) YC).trans c0;have d1:=(Z.cell (p:=⟨w.heap.size+1,1,ν⟩) YC).trans c1;have d2:=(Z.cell (p:=⟨w.heap.size+1,2,ν⟩) YC).trans cv;obtain⟨r0,r1,r2,r3⟩:=wm T.out Z;have vK:=gh iL Z;have V:Hid ((∀j,eh (σ ao k cp)=μ j->w.heap.size<=j/\j<w1.heap.size)/\kJ ao cp):=⟨λj Y=>⟨by have:=D j Y;omega,(X.below Z).lt j Y⟩,λe=>by
     rcases X.2 with⟨S,_⟩|⟨g9,c9,S,_⟩
     ·simp at S;exact S.2.2
     ·rw[e]at S;simp at S⟩
    have J:=B1 (x:=ι κ (s[0].toNat:Int)) (y:=ι κ (s[1].toNat:Int)) (z:=σ ao k cp) (X.below Z) D vK;have HV:Hid (iY s.data.toList=((s[0].toNat:Int),(s[1].toNat:Int),ok,0)):=by
     show iY s.data.toList=_;rw[xV s h3 HE.out,HK.out,ai HF.out]
    clear Q Z c0 c1 cv X;go_wp2_with(fail);refine aE (v:=τ #[.agg #[ι κ (s[0].toNat:Int),ι κ (s[1].toNat:Int),σ ao k cp],η]) (by simp[results,results184,go_sem,r0,r1,r2]) rfl ?_;exact⟨ao,k,cp,0,_,_,ok,rfl,J.1,Di,HV.out,J.2,λj Y=>⟨(V.out.1 j Y).1,by simpa using(V.out.1 j Y).2⟩,V.out.2⟩
   ·have M:ji (jS (s[0].toNat:Int) (s[1].toNat:Int) ok)=.iface 128 (ι κ (jS (s[0].toNat:Int) (s[1].toNat:Int) ok:Int)):=by simp[ji,hf]
    rw[M]at Q;clear M;have HF:Hid _:=hf;clear hf;have HV:Hid (iY s.data.toList=(0,0,[],4)):=by
     show iY s.data.toList=_;rw[xV s h3 HE.out,HK.out,af HF.out]
    generalize jS (s[0].toNat:Int) (s[1].toNat:Int) ok=ff at Q;go_wp2_with(fail);refine Q.mono ?_;rintro e w1 ⟨rfl,Z⟩;obtain⟨r0,r1,r2,r3⟩:=wm T.out Z;have vK:=gh iL Z;have J:=B1 (ok:=[]) (ao:=ν) (k:=0) (cp:=0) (x:=ι κ 0) (y:=ι κ 0) (z:=σ ν 0 0) (Row.nil w1 2) (λj Y=>by simp[eh]at Y) vK;clear Q Z c0 c1 cv X CP;go_wp2_with(fail);refine aE (v:=τ #[.agg #[ι κ 0,ι κ 0,σ ν 0 0],.iface 128 (ι κ 4)]) (by simp[results,results184,go_sem,r0,r1,r2]) rfl ?_;exact⟨ν,0,0,4,0,0,[],rfl,J.1,Nat.le_refl _,HV.out,J.2,λj Y=>by simp[eh]at Y,λ_=>rfl⟩
theorem B3(s:ByteArray)(w:dX)(hs:s.size<=1000)(h:iY s.data.toList=(0,0,[],4))(hb:s.size<3 \/ ∃T:3<=s.size,(s.size:Int)≠(3:Int)+(2:Int)*(s[2].toNat:Int)):
 eX eY 184 #[.string s] w λe w'=>Em s.data.toList w e w':=by
 have hz:=U1;have Y:Hid _:=h;clear h;have U:eB w (w.alloc (γ #[ι κ 0,ι κ 0,σ ν 0 0] 37)):=(au _ _).alloc (Nat.le_refl _) _;have V:jc (w.alloc (γ #[ι κ 0,ι κ 0,σ ν 0 0] 37)) ν 0 [] :=⟨rfl,.inl rfl⟩
 rcases hb with h1|⟨T,X⟩
 ·have g1:(s.size:Int)<3:=dZ
  go_in
  go_wp2_with(fail);refine aE (v:=τ #[.agg #[ι κ 0,ι κ 0,σ ν 0 0],.iface 128 (ι κ 4)]) (by simp[results,results184,go_sem]) rfl ?_;exact⟨ν,0,0,4,0,0,[],rfl,V,Nat.le_refl _,Y.out,U,λj Z=>by simp[eh]at Z,λ_=>rfl⟩
 ·have g1:¬(s.size:Int)<3:=dZ;have mS:=s[2].toNat_lt;have b2:2<s.size:=dZ;have g2:((s.size:Int) !=(3:Int)+(2:Int)*(s[2].toNat:Int))=true:=by rw[bne_iff_ne];exact X
  clear X
  go_in
  go_wp2_with(fail);refine aE (v:=τ #[.agg #[ι κ 0,ι κ 0,σ ν 0 0],.iface 128 (ι κ 4)]) (by simp[results,results184,go_sem]) rfl ?_;exact⟨ν,0,0,4,0,0,[],rfl,V,Nat.le_refl _,Y.out,U,λj Z=>by simp[eh]at Z,λ_=>rfl⟩
theorem Lb(s:ByteArray)(w:dX)(hs:s.size<=1000):eX eY 184 #[.string s] w λe w'=>Em s.data.toList w e w':=by
 have hl:s.data.toList.length=s.size:=gU;by_cases Z:3<=s.size;{by_cases heq:(s.size:Int)=(3:Int)+(2:Int)*(s[2].toNat:Int);{exact Jj s w hs Z heq};{refine B3 s w hs ?_ (.inr ⟨Z,heq⟩);unfold iY;rw[nV s 2 dZ,hl,ai (.inr heq)]}};{refine B3 s w hs ?_ (.inl dZ);unfold iY;rw[hl,ai (.inl dZ)]}
