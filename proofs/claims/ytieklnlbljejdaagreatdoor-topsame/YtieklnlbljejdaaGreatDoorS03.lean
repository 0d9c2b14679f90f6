import Derived.Test.YtieklnlbljejdaaGreatDoorS02
open Go.Value renaming int → ι, slice → σ, pointer → π, tuple → τ, nilIface → η, ownBlock → eD, cells → fB
open Go.IntKind renaming i64 → κ, u8 → gg
open Go.Ending renaming returned → ρ
open Go.Obj renaming cells → γ
open Option renaming none → ν, some → μ
open Go.Proofs.Tryz renaming prog → fe
open Go renaming World → ew, Calls → fc, Value → eA, Addr → eh, storeCells → gp, run_storeCells_cells → gq, TypeId → eE, run_underlying → gD, run_loadCells_list → gJ
open Go.RowKit renaming intOf → fh, wrap64 → gk
open List renaming length_cons → eW, length_append → eV, length_nil → eX, foldl_nil → gu, map_cons → eQ, map_nil → eR, range → ft, nil_append → gG
open ByteArray renaming empty → gh
open Go.Addr renaming off → gj
open Array renaming map → gw
open Go.Builtin renaming append_ → gA, lenOf → gE, firstCells → gF, nextslicecap → gH
open Go.Sem renaming run_bind → fT
open Go.Result renaming andThen_ok → eO
open And renaming intro → fj
open Go.Instr renaming loadAt → fR
open BitVec renaming ofInt → fA, ofInt_natCast → gL, toNat_ofNat → gM
set_option maxRecDepth 100000
set_option maxHeartbeats 4000000
open Go.Proofs.Tryz
namespace Go.Proofs.YtieklnlbljejdaaGreatDoor
open Go.RowKit Plain
variable {B b cp g j k lo m n o:Nat} {F G:Nat->Value} {H:Type} {W w w' w1 wr x1:World} {ao:Option Addr} {d e:Bool} {f:Int->Option SV} {l:List UInt8} {ob:Obj} {ok:List jQ} {u v:Value}
theorem aa6:(fe.info? 5).map (λi=>(i.zero,i.size,i.bytes))=μ (μ (.int .u8 0),1,1):=ga
theorem Lp(s:ByteArray)(w:ew)(hs:s.size<=60):
 fc fe 197 #[.string s] w λe w'=>e=ρ (τ #[.string ⟨(mb s.data.toList).toArray⟩,η])/\eH w w':=by
 obtain⟨i0,hi,oN,nG,mS⟩:=aX aa6;have hle:¬(60:Int)<(s.size:Int):=eB;have hsl:=Plain.Np s.data.toList;obtain⟨cap,C,fr,agu,jf⟩:=Gx (P:=fe) (w.alloc (γ #[.int .u8 126] 5)) 9 140 5 s underlying9 underlying140 underlying5 (by unfold maxLen;omega);have sG:(w.alloc (γ #[.int .u8 126] 5)).heap.size=w.heap.size+1:=ik;rw[sG]at jf;obtain⟨L,hL⟩:∃L,L=mD s.data.toList:=⟨_,rfl⟩
 have hLl:L.length=s.size+2:=by rw[hL,oO];rfl
 go_in
 go_wp2_with(first
  |(go_at_call 210;refine(Pw _ _ ?hx).mono ?_;(case hx=>unfold maxLen;omega);rintro e w' ⟨rfl,rfl⟩)
  |(at_builtin;go_must(refine iU _ rfl (.tmp 16) (.tmp 22) 140 rfl 5 i0 (.int .u8 0) 1 1 underlying140 hi oN nG mS rfl eF (.slice (some ⟨w.heap.size+1,0,none⟩) s.size cap) s.size (jd s.data.toList) rfl ?r1 _ 2 2 (jd [KW s.data.toList,KX s.data.toList]) rfl rfl eF ?c1 ?c2 ?c3 ?c4 ?_)))
 case r1=>exact(jf.alloc _).drew
 case c1=>
  intro j u hu;rw[add_plain,World.cell?_drew];have h2:=ak ((w.alloc (γ #[ι gg 126] 5)).alloc (γ C 5 fr)) #[ι gg (↑(sum s.data.toList) %256),ι gg (↑(sum s.data.toList)/256)] 5 (0,0) j;have h3:((w.alloc (γ #[ι gg 126] 5)).alloc (γ C 5 fr)).heap.size=w.heap.size+1+1:=ik;rw[h3]at h2;rw[h2,<-Hq,<-Hr];simpa[jd]using hu
 case c2=>intro u hu;simp[jd]at hu;rcases hu with rfl|rfl<;>rfl
 case c3=>unfold maxLen;omega
 case c4=>omega
 intro g1 C9 w1 Ct kR jR;have yW:eH w w1:=by
  refine Below.grown ?_ kR ?_ ?_;{exact((((au _ _).alloc (Nat.le_refl _) _).alloc ik _).alloc (by simp;omega) _).drew};{simp;omega};{intro k hk;simp[eD]at hk;omega}
 have GU:w.heap.size<g1:=by
  rcases jR with h|h
  {simp[eD]at h;omega};{omega}
 have uN:Row w1 1 (σ (μ ⟨w.heap.size,0,ν⟩) 1 1) 1 (jd [126]):=by
  refine Row.kept (row:=μ (w.heap.size+1)) ?q1 kR ?q2
  case q1=>exact(((Row.made w 1 5 #[.int .u8 126] (0,0) 1 1 (jd [126]) rfl rfl (Nat.le_refl _) eF (.inl rfl) (by simp[jd])).alloc _).alloc _).drew
  case q2=>
   intro k hk;have vm:w.heap.size=k:=by simpa[eD]using hk
   intro e;have e':w.heap.size+1=k:=by simpa using e
   omega
 have hS:Row w1 1 (σ (μ ⟨g1,0,ν⟩) (s.size+2) C9) (s.size+2) (jd L):=by
  rw[hL,mD,l5];exact Ct
 clear Ct kR jR jf agu
 go_wp2
 go_loopw [5,25] (λv i wr=>∃(k g cp:Nat) (E:List UInt8),E=126::tq (L.take k)/\k<=L.length/\i=ι κ k/\v=σ (μ ⟨g,0,ν⟩) E.length cp/\Row wr 1 v E.length (jd E)/\
  Row wr 1 (σ (μ ⟨g1,0,ν⟩) (s.size+2) C9) (s.size+2) (jd L)/\w.heap.size<=g/\g≠g1/\eH w wr)
  (λ_ i _=>L.length-(fh i).toNat)
 case atStart=>exact⟨0,w.heap.size,1,[126],rfl,Nat.zero_le _,rfl,rfl,uN,hS,Nat.le_refl _,eB,yW⟩
 case round=>
  obtain⟨k,g,cp,E,NZ,hk,rfl,rfl,D,J,Ky,Vu,A⟩:=hrel;have PT:E.length<=1+2*62:=by
   have h1:=DB (L.take k);have h2:(L.take k).length<=62:=by simp;omega
   rw[NZ];simp only[eW];omega
  have HE:Hid _:=NZ;clear NZ;clear uN hS yW;have m1:E.length+1<=maxLen:=by unfold maxLen;omega
  have m2:E.length+2<=maxLen:=by unfold maxLen;omega
  have b1:(E.length+1)*1<=140737488355328:=eB;have b2:(E.length+2)*1<=140737488355328:=eB;by_cases kL:k<L.length
  ·have hcell:=J.cell k _ (yH L k kL);have hx:=aaM L[k];have HN:Hid (126::tq (L.take (k+1))=E++Dc L[k]):=by
    have:L.take (k+1)=L.take k++ [L[k]] :=az kL;rw[HE.out,this,Q7];rfl
   have HC:Hid (sJ L[k] =true↔_):=Q8 L[k];obtain⟨c,hc⟩:∃c,c=L[k] :=⟨_,rfl⟩
   rw[<-hc]at hcell hx HN HC;clear hc;have hT:∀(T:sJ c=true) (y jH:Nat) (Z:ew),Row Z 1 (σ (μ ⟨y,0,ν⟩) (E.length+2) jH) (E.length+2) (jd E++ [.int .u8 125,.int .u8 ((c^^^32).toNat:Int)])->
    Row Z 1 (σ (μ ⟨y,0,ν⟩) (126::tq (L.take (k+1))).length jH) (126::tq (L.take (k+1))).length (jd (126::tq (L.take (k+1))))/\(126::tq (L.take (k+1))).length=E.length+2:=by
    intro T y jH Z hr;rw[HN.out];have e1:Dc c=[125,c^^^32] :=by simp[Dc,T]
    rw[e1];refine⟨?_,ik⟩;rw[l5,aA];exact hr
   have hO:∀(T:¬sJ c=true) (y jH:Nat) (Z:ew),Row Z 1 (σ (μ ⟨y,0,ν⟩) (E.length+1) jH) (E.length+1) (jd E++ [.int .u8 (c.toNat:Int)])->
    Row Z 1 (σ (μ ⟨y,0,ν⟩) (126::tq (L.take (k+1))).length jH) (126::tq (L.take (k+1))).length (jd (126::tq (L.take (k+1))))/\(126::tq (L.take (k+1))).length=E.length+1:=by
    intro T y jH Z hr;rw[HN.out];have e1:Dc c=[c] :=by simp[Dc,T]
    rw[e1];refine⟨?_,ik⟩;rw[l5,aA];exact hr
   by_cases h1:((c.toNat:Int)==126)=true
   ·have T:sJ c=true:=HC.out.mpr (.inl (by simpa using h1));go_wp2_with(at_builtin;go_must(refine iU _ rfl (.tmp 39) (.tmp 42) 140 rfl 5 i0 (.int .u8 0) 1 1 underlying140 hi oN nG mS rfl eF _ E.length (jd E) rfl (D.alloc _) _ 2 2 [.int .u8 125,.int .u8 ((c^^^32).toNat:Int)] rfl rfl eF (qj _ _ _ _) (l8 _ _ _ _) m2 b2 ?_));intro U cap2 Z X V Y;obtain⟨tu,M⟩:=hT T U cap2 Z X;have R:=wm V Y J Ky Vu A;have S:Hid _:=M;clear M V Y X D J A hcell hx
    go_wp2
    go_roundw
    case rel=>exact⟨k+1,U,cap2,_,rfl,eB,by go_num,by rw[S.out],by rw[<-S.out];exact tu,R.1,R.2.1,R.2.2.1,R.2.2.2⟩
    case measure=>simp[fh];omega
   ·have yX:((c.toNat:Int)==126)=false:=by simpa using h1
    by_cases h2:((c.toNat:Int)==125)=true
    ·have T:sJ c=true:=HC.out.mpr (.inr (.inl (by simpa using h2)));go_wp2_with(at_builtin;go_must(refine iU _ rfl (.tmp 39) (.tmp 42) 140 rfl 5 i0 (.int .u8 0) 1 1 underlying140 hi oN nG mS rfl eF _ E.length (jd E) rfl (D.alloc _) _ 2 2 [.int .u8 125,.int .u8 ((c^^^32).toNat:Int)] rfl rfl eF (qj _ _ _ _) (l8 _ _ _ _) m2 b2 ?_));intro U cap2 Z X V Y;obtain⟨tu,M⟩:=hT T U cap2 Z X;have R:=wm V Y J Ky Vu A;have S:Hid _:=M;clear M V Y X D J A hcell hx
     go_wp2
     go_roundw
     case rel=>exact⟨k+1,U,cap2,_,rfl,eB,by go_num,by rw[S.out],by rw[<-S.out];exact tu,R.1,R.2.1,R.2.2.1,R.2.2.2⟩
     case measure=>simp[fh];omega
    ·have Bn:((c.toNat:Int)==125)=false:=by simpa using h2
     by_cases h3:(c.toNat:Int)<32
     ·have T:sJ c=true:=HC.out.mpr (.inr (.inr h3));go_wp2_with(at_builtin;go_must(refine iU _ rfl (.tmp 39) (.tmp 42) 140 rfl 5 i0 (.int .u8 0) 1 1 underlying140 hi oN nG mS rfl eF _ E.length (jd E) rfl (D.alloc _) _ 2 2 [.int .u8 125,.int .u8 ((c^^^32).toNat:Int)] rfl rfl eF (qj _ _ _ _) (l8 _ _ _ _) m2 b2 ?_));intro U cap2 Z X V Y;obtain⟨tu,M⟩:=hT T U cap2 Z X;have R:=wm V Y J Ky Vu A;have S:Hid _:=M;clear M V Y X D J A hcell hx
      go_wp2
      go_roundw
      case rel=>exact⟨k+1,U,cap2,_,rfl,eB,by go_num,by rw[S.out],by rw[<-S.out];exact tu,R.1,R.2.1,R.2.2.1,R.2.2.2⟩
      case measure=>simp[fh];omega
     ·have T:¬sJ c=true:=by
       rw[HC.out];simp at yX Bn;omega
      go_wp2_with(at_builtin;go_must(refine iU _ rfl (.tmp 44) (.tmp 46) 140 rfl 5 i0 (.int .u8 0) 1 1 underlying140 hi oN nG mS rfl eF _ E.length (jd E) rfl (D.alloc _) _ 1 1 [.int .u8 (c.toNat:Int)] rfl rfl eF (rh _ _ _) (xI _ _) m1 b1 ?_));intro U cap2 Z X V Y;obtain⟨tu,M⟩:=hO T U cap2 Z X;have R:=wm V Y J Ky Vu A;have S:Hid _:=M;clear M V Y X D J A hcell hx
      go_wp2
      go_roundw
      case rel=>exact⟨k+1,U,cap2,_,rfl,eB,by go_num,by rw[S.out],by rw[<-S.out];exact tu,R.1,R.2.1,R.2.2.1,R.2.2.2⟩
      case measure=>simp[fh];omega
  ·go_wp2_with(at_builtin;go_must(refine iU _ rfl (.tmp 49) (.tmp 50) 140 rfl 5 i0 (.int .u8 0) 1 1 underlying140 hi oN nG mS rfl eF _ E.length (jd E) rfl (D.alloc _) _ 1 1 [.int .u8 126] rfl rfl eF (rh _ _ _) (xI _ _) m1 b1 ?_));intro U cap2 Z X V Y;have R:=wm V Y J Ky Vu A;have RG:k=L.length:=eB;have hF:mb s.data.toList=E++ [126] :=by
    rw[HE.out,RG,aH (Nat.le_refl _),hL];rfl
   have aa7:(convert 140 9 (σ (μ ⟨U,0,ν⟩) (E.length+1) cap2)).run fe Z=.ok (.string ⟨(E++ [126]).toArray⟩) Z:=by
    refine Row.back (n:=E.length+1) ?_ 140 9 5 underlying140 underlying5 underlying9;rw[l5];exact X
   clear X V Y D J A;have HF:Hid _:=hF;clear hF RG
   go_wp2
   go_ret2
   exact⟨by rw[HF.out];rfl,R.2.2.2⟩
theorem PU(s:ByteArray)(w:ew)(hs:60<s.size)(Z:s.size<=maxLen):
 fc fe 197 #[.string s] w λe w'=>e=ρ (τ #[.string gh,.iface 128 (ι κ 2)])/\w=w':=by
 unfold maxLen at Z;have hle:(60:Int)<(s.size:Int):=eB
 go_in
 go_wp2
 go_ret2
 exact⟨rfl,rfl⟩
def qR(w:ew)(g o m:Nat)(F:Nat->eA):Prop:=∀j,j<m->w.cell? ⟨g,o+j,ν⟩=μ (F j)/\w.frozen? ⟨g,o+j,ν⟩=false
def tR(F:Nat->eA)(i:Nat)(v:eA):Nat->eA:=λj=>if j=i then v else F j
theorem qt(F:Nat->eA)(i:Nat)(v:eA):tR F i v i=v:=by simp[tR]
theorem jV(F:Nat->eA) {i:Nat} (v:eA)(h:j≠i):tR F i v j=F j:=by simp[tR,h]
theorem mT(w:ew)(a x:eh)(v:eA):(w.setCell a v).frozen? x=w.frozen? x:=ik
theorem qR.cell {w:ew} {g o m:Nat} {F:Nat->eA} (h:qR w g o m F)(j:Nat)(Z:j<m):w.cell? ⟨g,o+j,ν⟩=μ (F j):=(h j Z).1
theorem qR.fz(h:qR w g o m F)(j:Nat)(Z:j<m):w.frozen? ⟨g,o+j,ν⟩=false:=(h j Z).2
theorem qR.lt(h:qR w g o m F)(Z:0<m):g<w.heap.size:=ag w _ (h.cell 0 Z)
theorem qR.set(h:qR w g o m F)(i:Nat)(hi:i<m)(v:eA):qR (w.setCell ⟨g,o+i,ν⟩ v) g o m (tR F i v):=by
 intro j Z;refine⟨?_,(mT _ _ _ _).trans (h.fz j Z)⟩;by_cases e:j=i;{subst e;rw[qt];exact World.cell?_setCell_same _ _ _ (h.cell j Z)};{rw[jV F v e,aW _ _ _ _ (λe=>by have:=congrArg gj e;simp at this;omega)];exact h.cell j Z}
theorem qR.keep(h:qR w g o m F)(hb:w'.heap[g]? =w.heap[g]?):qR w' g o m F:=λj Z=>by
 refine⟨(aj (a:=⟨g,o+j,ν⟩) hb).trans (h.cell j Z),?_⟩;have:w'.frozen? ⟨g,o+j,ν⟩=w.frozen? ⟨g,o+j,ν⟩:=by
  simp only[World.frozen?,hb]
 exact this.trans (h.fz j Z)
theorem qR.below(h:qR w g o m F)(Z:0<m)(hb:eH w w'):qR w' g o m F:=h.keep (hb.block g (h.lt Z))
theorem qR.sub(h:qR w g o m F)(a k:Nat)(hk:a+k<=m):qR w g (o+a) k (λj=>F (a+j)):=λj hj=>by
 have:=h (a+j) eB;rw[Nat.add_assoc];exact this
theorem qR.congr(h:qR w g o m F)(e:∀j,j<m->F j=G j):qR w g o m G:=λj Z=>by rw[<-e j Z];exact h j Z
structure lJ(w w':ew)(g o m:Nat):Prop where
 os:w'.os=w.os
 tape:w'.tape=w.tape
 output:w'.output=w.output
 size:w.heap.size<=w'.heap.size
 block:∀i,i<w.heap.size->i≠g->w'.heap[i]? =w.heap[i]?
 cell:∀j,j<o \/o+m<=j->w'.cell? ⟨g,j,ν⟩=w.cell? ⟨g,j,ν⟩
 fz:∀j,w'.frozen? ⟨g,j,ν⟩=w.frozen? ⟨g,j,ν⟩
theorem lJ.refl(w:ew)(g o m:Nat):lJ w w g o m:=⟨rfl,rfl,rfl,Nat.le_refl _,λ_ _ _=>rfl,λ_ _=>rfl,λ_=>rfl⟩
theorem lJ.trans {a b c:ew} {g o m:Nat} (h:lJ a b g o m)(k:lJ b c g o m):lJ a c g o m:=
 ⟨k.os.trans h.os,k.tape.trans h.tape,k.output.trans h.output,Nat.le_trans h.size k.size,λi hi Y=>(k.block i (Nat.lt_of_lt_of_le hi h.size) Y).trans (h.block i hi Y),λj Z=>(k.cell j Z).trans (h.cell j Z),λj=>(k.fz j).trans (h.fz j)⟩
theorem lJ.set {x:ew} (h:lJ w x g o m)(j:Nat)(h1:o<=j)(h2:j<o+m)(v:eA):lJ w (x.setCell ⟨g,j,ν⟩ v) g o m:=by
 have b1:Below 0 x (x.setCell ⟨g,j,ν⟩ v):=(au 0 x).setCell (Nat.zero_le _) _;exact⟨b1.os.trans h.os,b1.tape.trans h.tape,b1.output.trans h.output,Nat.le_trans h.size b1.size,λi hi Z=>(aq _ _ _ i Z).trans (h.block i hi Z),
  λi hi=>(aW _ _ _ _ (λe=>by have:=congrArg gj e;simp at this;omega)).trans (h.cell i hi),λi=>(mT _ _ _ _).trans (h.fz i)⟩
theorem lJ.drewN {w x:ew} {g o m:Nat} (h:lJ w x g o m)(n:Nat):lJ w (x.drewN n) g o m:=⟨h.os,h.tape,h.output,h.size,h.block,h.cell,h.fz⟩
theorem lJ.drew {w x:ew} {g o m:Nat} (h:lJ w x g o m):lJ w x.drew g o m:=⟨h.os,h.tape,h.output,h.size,h.block,h.cell,h.fz⟩
theorem qR.join {a:Nat} (h:qR w g o m F)(X:lJ w w' g (o+a) k)(U:qR w' g (o+a) k G):qR w' g o m (λj=>if a<=j/\j<a+k then G (j-a)else F j):=λj Y=>by
 by_cases e:a<=j/\j<a+k;{have Z:=U (j-a) eB;have V:o+a+(j-a)=o+j:=eB;rw[V]at Z;simp only[if_pos e];exact Z};{simp only[if_neg e];exact⟨(X.cell (o+j) eB).trans (h.cell j Y),(X.fz _).trans (h.fz j Y)⟩}
structure DH(F:Nat->eA)(l:List UInt8)(e d:Bool):Prop where
 len:l.length<=62
 live:∀i:Nat,i<62->∃x:Int,F i=.int .u8 x
 body:∀(i:Nat) (h:i<l.length),F i=.int .u8 (l[i].toNat:Int)
 many:F 62=ι κ (l.length:Int)
 esc:F 63=.bool e
 bad:F 64=.bool d
def Rd(w:ew)(g o:Nat)(l:List UInt8)(e d:Bool):Prop:=∃F,qR w g o 65 F/\DH F l e d
theorem DH.JC(h:DH F l e d)(d':Bool):DH (tR F 64 (.bool d')) l e d':=by
 have hlen:=h.len;refine⟨hlen,λi hi=> ?_,λi hi=> ?_,?_,?_,qt _ _ _⟩;{obtain⟨x,hx⟩:=h.live i hi;exact⟨x,by rw[jV _ _ eB];exact hx⟩};{rw[jV _ _ eB];exact h.body i hi};{rw[jV _ _ eB];exact h.many};{rw[jV _ _ eB];exact h.esc}
theorem DH.N1(h:DH F l e d)(e':Bool):DH (tR F 63 (.bool e')) l e' d:=by
 have hlen:=h.len;refine⟨hlen,λi hi=> ?_,λi hi=> ?_,?_,qt _ _ _,?_⟩;{obtain⟨x,hx⟩:=h.live i hi;exact⟨x,by rw[jV _ _ eB];exact hx⟩};{rw[jV _ _ eB];exact h.body i hi};{rw[jV _ _ eB];exact h.many};{rw[jV _ _ eB];exact h.bad}
theorem DH.push(h:DH F l e d)(hl:l.length<62)(c:UInt8):
 DH (tR (tR F l.length (.int .u8 (c.toNat:Int))) 62 (ι κ ((l.length:Int)+1))) (l++ [c]) e d:=by
 refine⟨by simp;omega,λi hi=> ?_,λi hi=> ?_,?_,?_,?_⟩;{rw[jV _ _ eB];by_cases Z:i=l.length;{rw[Z,qt];exact⟨_,rfl⟩};{rw[jV _ _ Z];exact h.live i hi}}
 ·have ll:i<l.length+1:=by simpa using hi
  rw[jV _ _ eB];by_cases Z:i=l.length;{subst Z;rw[qt];simp};{rw[jV _ _ Z,h.body i eB,List.getElem_append_left eB]}
 {rw[qt];simp};{rw[jV _ _ eB,jV _ _ eB];exact h.esc};{rw[jV _ _ eB,jV _ _ eB];exact h.bad}
def sL:List UInt8×Bool×Bool->UInt8->List UInt8×Bool×Bool
 |(l,e,d),c=>
  if c<32 \/(c=125/\e=true)then(l,e,true)
  else if c=125 then(l,true,d)
  else if l.length=62 then(l,false,true)
  else(l++ [if e then c^^^32 else c],false,d)
theorem Vv(g o:Nat)(l:List UInt8)(e d:Bool)(c:UInt8)(w:ew)(h:Rd w g o l e d):
 fc fe 182 #[π (μ ⟨g,o,ν⟩),.int .u8 (c.toNat:Int)] w λe' w'=>e'=ρ (τ #[])/\Rd w' g o (sL (l,e,d) c).1 (sL (l,e,d) c).2.1 (sL (l,e,d) c).2.2/\lJ w w' g o 65:=by
 obtain⟨F,hC,J⟩:=h;have S:Hid _:=J;have hlen:=J.len;have Y:c<32↔(c.toNat:Int)<32:=by rw[UInt8.lt_iff_toNat_lt];show c.toNat<32↔_;omega
 have M:c=125↔((c.toNat:Int)==125)=true:=by
  rw[<-UInt8.toNat_inj,dX];show c.toNat=125↔_;omega
 have agw:w.cell? ⟨g,o+62,ν⟩=μ (ι κ (l.length:Int)):=(hC.cell 62 eF).trans (congrArg μ J.many);have alb:w.cell? ⟨g,o+63,ν⟩=μ (.bool e):=(hC.cell 63 eF).trans (congrArg μ J.esc);have wL:w.cell? ⟨g,o+64,ν⟩=μ (.bool d):=(hC.cell 64 eF).trans (congrArg μ J.bad);have U:∀i,i<65->w.frozen? ⟨g,o+i,ν⟩=false:=λi hi=>hC.fz i hi;have f62:=U 62 eF;have f63:=U 63 eF;have f64:=U 64 eF;have GU:=hC.lt eF;have T:Hid (qR w g o 65 F):=hC;clear hC J;by_cases h1:(c.toNat:Int)<32
 ·have V:sL (l,e,d) c=(l,e,true):=by simp[sL,Y.mpr h1]
  rw[V];clear Y M U
  go_in
  go_wp2
  first|go_end0|refine iX rfl rfl ?_
  exact⟨rfl,⟨_,T.out.set 64 eF _,S.out.JC true⟩,(lJ.refl _ _ _ _).set _ eB eB _⟩
 ·have X:¬c<32:=λx=>h1 (Y.mp x);by_cases E:((c.toNat:Int)==125)=true
  ·have A:c=125:=M.mpr E;cases e
   ·have V:sL (l,false,d) c=(l,true,d):=by simp[sL,A]
    rw[V];clear Y M A X U
    go_in
    go_wp2
    first|go_end0|refine iX rfl rfl ?_
    exact⟨rfl,⟨_,T.out.set 63 eF _,S.out.N1 true⟩,(lJ.refl _ _ _ _).set _ eB eB _⟩
   ·have V:sL (l,true,d) c=(l,true,true):=by simp[sL,A]
    rw[V];clear Y M A X U
    go_in
    go_wp2
    first|go_end0|refine iX rfl rfl ?_
    exact⟨rfl,⟨_,T.out.set 64 eF _,S.out.JC true⟩,(lJ.refl _ _ _ _).set _ eB eB _⟩
  ·have Bn:((c.toNat:Int)==125)=false:=by simpa using E
   have y:¬c=125:=λx=>E (M.mp x);have hx:=aaM c;by_cases h3:((l.length:Int)==62)=true
   ·have Z:l.length=62:=by have:=dX.mp h3;omega
    have V:sL (l,e,d) c=(l,false,true):=by simp[sL,y,X,Z]
    rw[V];have L62:Hid _:=Z;clear Y M y X Z E U;cases e
    ·go_in
     go_wp2
     first|go_end0|refine iX rfl rfl ?_
     exact⟨rfl,⟨_,T.out.set 64 eF _,S.out.JC true⟩,(lJ.refl _ _ _ _).set _ eB eB _⟩
    ·go_in
     go_wp2
     first|go_end0|refine iX rfl rfl ?_
     exact⟨rfl,⟨_,(T.out.set 63 eF _).set 64 eF _,(S.out.N1 false).JC true⟩,((lJ.refl _ _ _ _).set _ eB eB _).set _ eB eB _⟩
   ·have uy:((l.length:Int)==62)=false:=by simpa using h3
    have Z:l.length<62:=by
     have:¬(l.length:Int)=62:=λe=>h3 (by simp[e]);omega
    have aoe:(l.length:Int)<62:=eB;have V:sL (l,e,d) c=(l++ [if e then c^^^32 else c],false,d):=by simp[sL,y,X,Nat.ne_of_lt Z]
    rw[V];obtain⟨x,D⟩:=S.out.live _ Z;have hcell:w.cell? ⟨g,o+l.length,ν⟩=μ (.int .u8 x):=(T.out.cell _ eB).trans (congrArg μ D);have fl:=U l.length eB;clear Y M y X E h3 D U;cases e
    ·go_in
     go_wp2
     go_region
     go_wp2_with(fail)
     go_end0
     exact⟨rfl,⟨_,(T.out.set _ eB _).set 62 eF _,S.out.push Z c⟩,(((lJ.refl _ _ _ _).set _ eB eB _).set _ eB eB _).drew⟩
    ·go_in
     go_wp2
     go_region
     go_wp2_with(fail)
     go_end0
     refine⟨rfl,⟨_,((T.out.set 63 eF _).set _ eB _).set 62 eF _,?_⟩,((((lJ.refl _ _ _ _).set _ eB eB _).set _ eB eB _).set _ eB eB _).drew⟩;have hp:=(S.out.N1 false).push Z (c^^^32);rw[UInt8.toNat_xor]at hp;exact hp
def nT(l:List UInt8)(e d:Bool):List UInt8×Bool×Nat:=
 if d=true \/e=true then([],true,4)
 else if l.length=0 then([],false,0)
 else if l.length<2 then([],true,4)
 else if(Plain.sum (l.take (l.length-2)):Int)=((l.getD (l.length-2) 0).toNat:Int)+256*((l.getD (l.length-1) 0).toNat:Int)then(l.take (l.length-2),true,0)
 else([],true,5)
theorem agx(s:ByteArray)(w:ew)(hs:s.size<=maxLen):
 fc fe 210 #[.string s] w λe w'=>e=ρ (ι κ (Plain.sum s.data.toList:Nat))/\w'=w:=(Pw s w hs).mono λ_ _ ⟨a,b⟩=>⟨a,b.symm⟩
theorem PW(a b:UInt8):gk (gk (a.toNat:Int)+gk (256*gk (b.toNat:Int)))=(a.toNat:Int)+256*(b.toNat:Int):=by
 have ha:=a.toNat_lt;have hb:=b.toNat_lt;rw[cH (a.toNat:Int) ⟨eB,eB⟩,cH (b.toNat:Int) ⟨eB,eB⟩,cH (256*(b.toNat:Int)) ⟨eB,eB⟩,cH _ ⟨eB,eB⟩]
theorem N3(l:List UInt8)(U:¬l.length<2)
 (Z:(((Plain.sum (l.take (l.length-2)):Nat):Int) !=gk (gk ((l[l.length-2]'(by omega)).toNat:Int)+gk (256*gk ((l[l.length-1]'(by omega)).toNat:Int))))=true):nT l false false=([],true,5):=by
 rw[PW]at Z;have Y:¬((Plain.sum (l.take (l.length-2)):Nat):Int)=((l[l.length-2]'(by omega)).toNat:Int)+256*((l[l.length-1]'(by omega)).toNat:Int):=by simpa using Z
 have X:l.getD (l.length-2) 0=l[l.length-2]'(by omega):=by simp[show l.length-2<l.length by omega]
 have V:l.getD (l.length-1) 0=l[l.length-1]'(by omega):=by simp[show l.length-1<l.length by omega]
 unfold nT;rw[af ik,af eB,af U,X,V,af Y]
theorem Lq(l:List UInt8)(U:¬l.length<2)
 (Z:(((Plain.sum (l.take (l.length-2)):Nat):Int) !=gk (gk ((l[l.length-2]'(by omega)).toNat:Int)+gk (256*gk ((l[l.length-1]'(by omega)).toNat:Int))))=false):nT l false false=(l.take (l.length-2),true,0):=by
 rw[PW]at Z;have Y:((Plain.sum (l.take (l.length-2)):Nat):Int)=((l[l.length-2]'(by omega)).toNat:Int)+256*((l[l.length-1]'(by omega)).toNat:Int):=by simpa using Z
 have X:l.getD (l.length-2) 0=l[l.length-2]'(by omega):=by simp[show l.length-2<l.length by omega]
 have V:l.getD (l.length-1) 0=l[l.length-1]'(by omega):=by simp[show l.length-1<l.length by omega]
 unfold nT;rw[af ik,af eB,af U,X,V,ai Y]
theorem z9:fe.arrayLen 137=62:=ga
theorem EE:fe.underlying 137=μ (.array (fe.arrayLen 137) (fe.elem 137)):=ga
theorem N4(w:ew):(sizeOf (fe.elem 137)).run fe w=.ok 1 w:=ga
theorem RH(g o:Nat)(l:List UInt8)(e d:Bool)(w:ew)(h:Rd w g o l e d):
 fc fe 183 #[π (μ ⟨g,o,ν⟩)] w λe' w'=>e'=ρ (τ #[.string ⟨(nT l e d).1.toArray⟩,.bool (nT l e d).2.1,jB (nT l e d).2.2])/\∃n,w'=w.drewN n:=by
 obtain⟨F,hC,X⟩:=h;have hlen:=X.len;have agw:w.cell? ⟨g,o+62,ν⟩=μ (ι κ (l.length:Int)):=(hC.cell 62 eF).trans (congrArg μ X.many);have alb:w.cell? ⟨g,o+63,ν⟩=μ (.bool e):=(hC.cell 63 eF).trans (congrArg μ X.esc);have wL:w.cell? ⟨g,o+64,ν⟩=μ (.bool d):=(hC.cell 64 eF).trans (congrArg μ X.bad);have Y:∀i (h:i<l.length),w.cell? ⟨g,o+i,ν⟩=μ (.int .u8 (l[i].toNat:Int)):=λi h=>(hC.cell i eB).trans (congrArg μ (X.body i h));have GU:=hC.lt eF;clear hC X;by_cases hd:d=true \/e=true
 ·have Z:nT l e d=([],true,4):=by simp[nT,hd]
  rw[Z];clear Z Y;rcases hd with rfl|rfl
  ·go_in
   go_wp2
   go_ret3
   exact⟨rfl,0,rfl⟩
  ·cases d
   ·go_in
    go_wp2
    go_ret3
    exact⟨rfl,0,rfl⟩
   ·go_in
    go_wp2
    go_ret3
    exact⟨rfl,0,rfl⟩
 ·obtain⟨rfl,rfl⟩:d=false/\e=false:=by cases d<;>cases e<;>simp_all
  by_cases V:l.length=0
  ·have Z:nT l false false=([],false,0):=by simp[nT,V]
   rw[Z];have U:((l.length:Int)==0)=true:=by simp[V]
   have H0:Hid _:=V;clear Z Y V hd
   go_in
   go_wp2
   go_ret3
   exact⟨rfl,0,rfl⟩
  ·have U:((l.length:Int)==0)=false:=by rw[cz];omega
   by_cases T:l.length<2
   ·have Z:nT l false false=([],true,4):=by simp[nT,V,T]
    rw[Z];clear Z Y hd
    go_in
    go_wp2
    go_ret3
    exact⟨rfl,0,rfl⟩
   ·have hsl:∀W:ew,(Instr.sliceAt 137 (π (μ ⟨g,o,ν⟩)) ν (μ (ι κ ((l.length:Int)-2))) ν).run fe W=.ok (σ (μ ⟨g,o,ν⟩) (l.length-2) 62) W:=by
     intro W;rw[run_sliceAt_array_h W 137 ⟨g,o,ν⟩ EE .i64 _ eB (by rw[z9];omega),N4,z9];have J:((l.length:Int)-2).toNat=l.length-2:=eB;simp[slicedAt,Result.andThen,J,nE]
    have wM:(convert 140 9 (σ (μ ⟨g,o,ν⟩) (l.length-2) 62)).run fe w=.ok (.string ⟨(l.take (l.length-2)).toArray⟩) w:=by
     have M:(l.take (l.length-2)).length=l.length-2:=ik;have:=dN (P:=fe) w 140 9 5 ⟨g,o,ν⟩ 62 (l.take (l.length-2)) underlying140 underlying5 underlying9 (λj hj=>by
      rw[nE,Y j eB];simp)
     rw[M]at this;exact this
    have hA:=Y (l.length-2) eB;have hB:=Y (l.length-1) eB;have tA:(((l.length:Int)-2).toNat)=l.length-2:=eB;have tB:(((l.length:Int)-2+1).toNat)=l.length-1:=eB;have E:(ByteArray.mk (l.take (l.length-2)).toArray).size<=maxLen:=by
     show(l.take (l.length-2)).toArray.size<=maxLen;unfold maxLen;simp;omega
    go_in
    go_wp2
    go_quiet((go_at_call 210;exact Calls.quiet_of_same (agx _ _ E)))
    go_wp2_with(fail)
    ·have S:=N3 l T jr;rw[S]
     go_ret3
     exact⟨rfl,_,rfl⟩
    ·have S:=Lq l T jr;rw[S]
     go_ret3
     exact⟨rfl,_,rfl⟩
def Ia:Array eA:= #[] ++Array.replicate 62 (.int .u8 0)++ #[ι κ 0,.bool false,.bool false]
theorem ac7:(fe.info? 139).map (λi=>(i.zero,i.size))=μ (μ (.agg Ia),65):=ga
theorem Vw:(∀w,(zeroValue 139).run fe w=.ok (.agg Ia) w)/\(fe.info? 139).map (·.size)=μ 65:=bW ac7
theorem Aa:Ia.size=65:=eF
def N5(j:Nat):eA:=Ia.getD j (.bool false)
theorem DH.zero:DH N5 [] false false:=by
 refine⟨ik,λi hi=>⟨0,?_⟩,λi hi=>by simp at hi,ga,ga,ga⟩;have h:Ia[i]? =μ (.int .u8 0):=by
  unfold Ia;rw[cU (by simp;omega)];simp[hi]
 unfold N5;rw[du,h];rfl
theorem Zd:∀v∈Ia.toList,v.oneCell'=true:=by
 have:Ia.toList.all (·.oneCell')=true:=ga;exact aZ.mp this
theorem EF(h:qR w g o 65 F):
 (gp ⟨g,o,ν⟩ Ia.toList).run fe w=.ok () (w.setCells g o Ia.toList)/\qR (w.setCells g o Ia.toList) g o 65 N5/\lJ w (w.setCells g o Ia.toList) g o 65:=by
 have hl:Ia.toList.length=65:=by simp[Aa]
 have V:=gq (P:=fe) g o Ia.toList 0 w (λj Z=>by rw[Nat.add_zero,h.cell j eB];rfl) (λj Z=>by rw[Nat.add_zero];exact h.fz j eB) Zd;have T:∀(vs:List eA) (o:Nat) (w:ew),(w.setCells g o vs).heap.size=w.heap.size/\(w.setCells g o vs).os=w.os/\(w.setCells g o vs).tape=w.tape/\(w.setCells g o vs).output=w.output/\∀k,k≠g->(w.setCells g o vs).heap[k]? =w.heap[k]? :=by
  intro vs
  induction vs with
  |nil=>intro o w;exact⟨rfl,rfl,rfl,rfl,λ_ _=>rfl⟩
  |cons u r ih=>
   intro o w;have:=ih (o+1) (w.setCell ⟨g,o,ν⟩ u);have b1:Below 0 w (w.setCell ⟨g,o,ν⟩ u):=(au 0 w).setCell (Nat.zero_le _) _;refine⟨this.1.trans ik,this.2.1.trans b1.os,this.2.2.1.trans b1.tape,this.2.2.2.1.trans b1.output,λk Y=>(this.2.2.2.2 k Y).trans (aq _ _ _ k Y)⟩
 have B:=T Ia.toList o w;refine⟨by simpa using V,λj Z=>⟨?_,?_⟩,⟨B.2.1,B.2.2.1,B.2.2.2.1,by rw[B.1];exact Nat.le_refl _,λi _ U=>B.2.2.2.2 i U,λj Z=>bE g _ _ _ _ (λ_ _=>by show j<o \/o+Ia.toList.length<=j;omega),λj=>bY g _ _ _ _⟩⟩;{have X:=bO g Ia.toList o w (λk Y=>by rw[h.cell k eB];rfl) j eB;rw[X];unfold N5;rw[du,Array.getElem?_eq_getElem (by rw[Aa];exact Z)];simp};{exact(bY g _ _ _ _).trans (h.fz j Z)}
def qH(l:List UInt8)(e d:Bool)(c:UInt8):List UInt8×Bool×Bool:=if c=126 then([],false,false)else sL (l,e,d) c
def qI(l:List UInt8)(e d:Bool)(c:UInt8):List UInt8×Bool×Nat:=if c=126 then nT l e d else([],false,0)
theorem RI(g o:Nat)(l:List UInt8)(e d:Bool)(c:UInt8)(w:ew)(h:Rd w g o l e d):
 fc fe 132 #[π (μ ⟨g,o,ν⟩),.int .u8 (c.toNat:Int)] w λe' w'=>e'=ρ (τ #[.string ⟨(qI l e d c).1.toArray⟩,.bool (qI l e d c).2.1,jB (qI l e d c).2.2])/\
  Rd w' g o (qH l e d c).1 (qH l e d c).2.1 (qH l e d c).2.2/\lJ w w' g o 65:=by
 have X:c=126↔((c.toNat:Int)==126)=true:=by
  rw[<-UInt8.toNat_inj,dX];show c.toNat=126↔_;omega
 by_cases hc:c=126
 ·have J:((c.toNat:Int) !=126)=false:=by rw[bne,X.mp hc];rfl
  have Z:qI l e d c=nT l e d:=by simp[qI,hc]
  have Y:qH l e d c=([],false,false):=by simp[qH,hc]
  rw[Z,Y];clear Z Y X hc;have S:=RH g o l e d w h;obtain⟨F,hC,V⟩:=h;have kC:∀n,(gp ⟨g,o,ν⟩ Ia.toList).run fe (w.drewN n)=.ok () ((w.drewN n).setCells g o Ia.toList):=λn=>(EF (w:=w.drewN n) (F:=F) hC).1;have hz:=Vw.1;have hZ:=Aa;have T:Hid (qR w g o 65 F):=hC;clear V hC
  go_in
  go_wp2_with(go_at_call 183;refine S.mono ?_;rintro e' w' ⟨rfl,n,rfl⟩)
  go_ret3
  have U:=EF (w:=w.drewN n) (F:=F) T.out;exact⟨rfl,⟨N5,U.2.1,DH.zero⟩,((lJ.refl w g o 65).drewN n).trans U.2.2⟩
 ·have J:((c.toNat:Int) !=126)=true:=by
   rw[bne];cases E:((c.toNat:Int)==126);{rfl};{exact absurd (X.mpr E) hc}
  have Z:qI l e d c=([],false,0):=by simp[qI,hc]
  have Y:qH l e d c=sL (l,e,d) c:=by simp[qH,hc]
  rw[Z,Y];clear Z Y X hc
  go_in
  go_wp2_with(go_at_call 182;refine(Vv g o l e d c _ h).mono ?_;rintro e' w' ⟨rfl,V,M⟩)
  go_ret3
  exact⟨rfl,V,M⟩
abbrev kP:=List UInt8×Bool×Bool
def mU(a:List (List UInt8)×Nat×kP)(c:UInt8):List (List UInt8)×Nat×kP:=
 let t:=qI a.2.2.1 a.2.2.2.1 a.2.2.2.2 c
 let r:=qH a.2.2.1 a.2.2.2.1 a.2.2.2.2 c
 if t.2.2≠0 then(a.1,a.2.1+1,r)else if t.2.1=true then(a.1++ [t.1],a.2.1,r)else(a.1,a.2.1,r)
def kN(st:kP)(l:List UInt8):List (List UInt8)×Nat×kP:=l.foldl mU ([],0,st)
def strs(l:List (List UInt8)):List eA:=l.map λs=>Value.string ⟨s.toArray⟩
theorem RJ(st:kP)(l:List UInt8)(c:UInt8):kN st (l++ [c])=mU (kN st l) c:=by simp[kN]
theorem Vx(a:List (List UInt8)×Nat×kP)(c:UInt8):(mU a c).1.length+(mU a c).2.1<=a.1.length+a.2.1+1:=by
 unfold mU;simp only;split;{simp only;omega};{split;{simp only[eV,eW,eX];omega};{simp only;omega}}
theorem Lr:∀(l:List UInt8) (a:List (List UInt8)×Nat×kP),(l.foldl mU a).1.length+(l.foldl mU a).2.1<=a.1.length+a.2.1+l.length
 |[],a=>ik
 |c::l,a=>by
  have h1:=Lr l (mU a c);have h2:=Vx a c;simp only[List.foldl_cons,eW];omega
theorem DI(st:kP)(l:List UInt8):(kN st l).1.length+(kN st l).2.1<=l.length:=by
 have:=Lr l ([],0,st);unfold kN;simp only[eX]at this;omega
theorem Zf:(fe.info? 9).map (λi=>(i.zero,i.size,i.bytes))=μ (μ (.string gh),1,16):=ga
theorem Vy {w2:ew} {g2 cap2:Nat} (U:g<w.heap.size)(S:∀k,v.ownBlock=μ k->w.heap.size<=k)(M:Rd w1 g o l e d)(Z:lJ w w1 g o 65)
 (X:(w1.alloc ob).grownBy w2 v.ownBlock) (E:v.ownBlock=μ g2 \/w1.heap.size+1<=g2):
 (∀k,eD (σ (μ ⟨g2,0,ν⟩) n cap2)=μ k->w.heap.size<=k)/\Rd w2 g o l e d/\lJ w w2 g o 65:=by
 have hs:=Z.size;have A5:(w1.alloc ob).heap.size=w1.heap.size+1:=ik;have Y:∀k,k<w.heap.size->w2.heap[k]? =w1.heap[k]? :=λk Y=>by
  rw[X.block k eB (λe=>by have:=S k e.symm;omega)];exact aV w1 ob k eB
 refine⟨λk Y=> ?_,?_,⟨X.os.trans Z.os,X.tape.trans Z.tape,X.output.trans Z.output,by have:=X.size;omega,λk T V=>(Y k T).trans (Z.block k T V),λj J=>(aj (a:=⟨g,j,ν⟩) (Y g U)).trans (Z.cell j J),λj=>(aL (a:=⟨g,j,ν⟩) (Y g U)).trans (Z.fz j)⟩⟩
 ·have:g2=k:=by simpa[eD]using Y
  rcases E with h|h
  {have:=S g2 h;omega};{omega}
 ·obtain⟨F,hC,V⟩:=M;exact⟨F,hC.keep (Y g U),V⟩
theorem Vz(g o:Nat)(st:kP)(s:ByteArray)(w:ew)(h:Rd w g o st.1 st.2.1 st.2.2)(hs:s.size<=100000):
 fc fe 78 #[π (μ ⟨g,o,ν⟩),.string s] w λe w'=>∃v,e=ρ (τ #[v,ι κ ((kN st s.data.toList).2.1:Int)])/\
  Row w' 1 v (kN st s.data.toList).1.length (strs (kN st s.data.toList).1)/\(∀k,v.ownBlock=μ k->w.heap.size<=k)/\((kN st s.data.toList).1=[]->v=σ ν 0 0)/\
  Rd w' g o (kN st s.data.toList).2.2.1 (kN st s.data.toList).2.2.2.1 (kN st s.data.toList).2.2.2.2/\lJ w w' g o 65:=by
 obtain⟨i0,hi,oN,nG,mS⟩:=aX Zf;have yf:g<w.heap.size:=by
  obtain⟨F,hC,_⟩:=h;exact hC.lt eF
 go_in
 go_wp2
 go_loopw [4,5,12] (λv n i wr=>∃(k:Nat) (A:List (List UInt8)×Nat×kP),A=kN st (s.data.toList.take k)/\k<=s.size/\i=ι κ k/\n=ι κ (A.2.1:Int)/\
  Row wr 1 v A.1.length (strs A.1)/\(∀k,v.ownBlock=μ k->w.heap.size<=k)/\(A.1=[]->v=σ ν 0 0)/\Rd wr g o A.2.2.1 A.2.2.2.1 A.2.2.2.2/\lJ w wr g o 65)
  (λ_ _ i _=>s.size-(fh i).toNat)
 case atStart=>exact⟨0,_,rfl,Nat.zero_le _,rfl,rfl,Row.nil _ _,λk hk=>by simp[eD]at hk,λ_=>rfl,h,lJ.refl _ _ _ _⟩
 case round=>
  obtain⟨k,A,hA,hk,rfl,rfl,D,J,S,hR,hg⟩:=hrel;have kH:Hid _:=S;clear S;have y:Hid (A.1.length+A.2.1<=k):=by
   have:=DI st (s.data.toList.take k);rw[<-hA]at this;have h2:(s.data.toList.take k).length<=k:=cB _ _;exact(by omega:A.1.length+A.2.1<=k)
  have HA:Hid _:=hA;clear hA h;by_cases kL:k<s.size
  ·obtain⟨t,dn,Z,hT⟩:∃t dn Z,qI A.2.2.1 A.2.2.2.1 A.2.2.2.2 s[k] =(t,dn,Z):=⟨_,_,_,rfl⟩
   obtain⟨R',Ls⟩:∃R',qH A.2.2.1 A.2.2.2.1 A.2.2.2.2 s[k] =R':=⟨_,rfl⟩
   have E:fc fe 132 #[π (μ ⟨g,o,ν⟩),.int .u8 (s[k].toNat:Int)] wr λe' w'=>e'=ρ (τ #[.string ⟨t.toArray⟩,.bool dn,jB Z])/\
    Row w' 1 u4 A.1.length (strs A.1)/\Rd w' g o R'.1 R'.2.1 R'.2.2/\lJ w w' g o 65:=by
    have hq:=RI g o A.2.2.1 A.2.2.2.1 A.2.2.2.2 s[k] wr hR;rw[hT,Ls]at hq;refine hq.mono λe' w' ⟨h1,h2,h3⟩=>⟨h1,D.keep h3.size (λj hj=>h3.block j (D.lt j hj) (λe1=>by have:=J j hj;omega)),h2,hg.trans h3⟩
   have T:(kN st (s.data.toList.take (k+1))=if Z≠0 then(A.1,A.2.1+1,R')else if dn=true then(A.1++ [t],A.2.1,R')else(A.1,A.2.1,R')):=by
    have:s.data.toList.take (k+1)=s.data.toList.take k++ [s[k]] :=Hp s k kL;rw[this,RJ,<-HA.out];unfold mU;simp only[hT,Ls]
   have HN:Hid _:=T;clear T;have hn:A.2.1<=100000:=by have:=y.out;omega
   clear hT Ls D hR hg;by_cases Y:Z=0
   ·subst Y;have M:jB 0=η:=rfl;rw[M]at E;clear M;cases dn
    ·go_wp2_with(go_at_call 132;refine E.mono ?_;rintro e w1 ⟨rfl,U,X,V⟩);go_roundw
     case rel=>exact⟨k+1,_,HN.out.symm,eB,by go_num,rfl,U,J,kH.out,X,V⟩
     case measure=>simp[fh];omega
    ·have m1:A.1.length+1<=maxLen:=by have:=y.out;unfold maxLen;omega
     have b1:(A.1.length+1)*16<=140737488355328:=by have:=y.out;omega
     go_wp2_with(first
      |(go_at_call 132;refine E.mono ?_;rintro e w1 ⟨rfl,U,X,V⟩)
      |(at_builtin;go_must(refine iU _ rfl (.tmp 29) (.tmp 31) 164 rfl 9 i0 (.string gh) 1 16 underlying164 hi oN nG mS rfl eF u4 A.1.length (strs A.1) rfl (Row.alloc jr _) _ 1 1 [.string ⟨t.toArray⟩] rfl rfl eF (rh _ _ _) (Nc _) m1 b1 ?_)))
     intro g2 cap2 w2 sH tE lp;have hS:=Vy (n:=A.1.length+1) (cap2:=cap2) yf J X V tE lp;clear tE lp U X V
     go_wp2
     go_roundw
     case rel=>exact⟨k+1,(A.1++ [t],A.2.1,R'),by rw[HN.out];rfl,eB,by go_num,rfl,by simpa[strs]using sH,hS.1,λh=>by simp at h,hS.2.1,hS.2.2⟩
     case measure=>simp[fh];omega
   ·have M:jB Z=.iface 128 (ι κ (Z:Int)):=by simp[jB,Y]
    rw[M]at E;clear M;go_wp2_with(go_at_call 132;refine E.mono ?_;rintro e w1 ⟨rfl,U,X,V⟩);go_roundw
    case rel=>exact⟨k+1,(A.1,A.2.1+1,R'),by rw[HN.out,ai Y],eB,by go_num,by go_num,U,J,kH.out,X,V⟩
    case measure=>simp[fh];omega
  ·go_wp2
   have hA:kN st s.data.toList=A:=by
    rw[HA.out,aH];show s.size<=k;omega
   rw[hA]
   go_ret2
   exact⟨u4,rfl,D,J,kH.out,hR,hg⟩
theorem wN(s:ByteArray)(a b:Nat):(s.extract a b).data.toList=(s.data.toList.take b).drop a:=by
 rw[ByteArray.data_extract];simp[List.drop_take]
theorem RK:∀c:UInt8,sJ c=true->(c^^^32≠126/\¬c^^^32<32/\c^^^32≠125)/\c^^^32^^^32=c:=by
 have h:∀n:Fin 256,sJ (UInt8.ofNat n)=true->(UInt8.ofNat n^^^32≠126/\¬UInt8.ofNat n^^^32<32/\UInt8.ofNat n^^^32≠125)/\UInt8.ofNat n^^^32^^^32=UInt8.ofNat n:=by decide+kernel
 intro c;have:=h ⟨c.toNat,c.toNat_lt⟩;simpa using this
theorem Lt:∀c:UInt8,sJ c=false->c≠126/\¬c<32/\c≠125:=by
 intro c h;unfold sJ at h;simp at h;exact⟨h.1.1,by rw[UInt8.lt_iff_toNat_lt];have:=h.2;rw[UInt8.le_iff_toNat_le]at this;omega,h.1.2⟩
theorem Bt:∀(l:List UInt8) (o:List (List UInt8)) (n:Nat) (st:kP),l.foldl mU (o,n,st)=(o++(l.foldl mU ([],0,st)).1,n+(l.foldl mU ([],0,st)).2.1,(l.foldl mU ([],0,st)).2.2)
 |[],o,n,st=>ik
 |c::l,o,n,st=>by
  have key:∀(o:List (List UInt8)) (n:Nat),mU (o,n,st) c=(o++(mU ([],0,st) c).1,n+(mU ([],0,st) c).2.1,(mU ([],0,st) c).2.2):=by
   intro o n;unfold mU;simp only;split;{simp};{split<;>simp}
  rw[bI,bI,key o n,Bt l (o++_) _ _];obtain⟨x,y,z,e⟩:∃x y z,mU ([],0,st) c=(x,y,z):=⟨_,_,_,rfl⟩
  rw[e];simp only;rw[Bt l x y z];simp[Nat.add_assoc]
theorem rR(st:kP)(a b:List UInt8):kN st (a++b)=((kN st a).1++(kN (kN st a).2.2 b).1,(kN st a).2.1+(kN (kN st a).2.2 b).2.1,(kN (kN st a).2.2 b).2.2):=by
 unfold kN;rw[db];exact Bt b _ _ _
theorem EG(o:List (List UInt8))(n:Nat)(l:List UInt8)(e d:Bool)(c:UInt8)(h:c≠126):mU (o,n,(l,e,d)) c=(o,n,sL (l,e,d) c):=by
 simp[mU,qI,qH,h]
theorem RL(o:List (List UInt8))(n:Nat)(l:List UInt8)(c:UInt8)(h:l.length<62):(Dc c).foldl mU (o,n,(l,false,false))=(o,n,(l++ [c],false,false)):=by
 unfold Dc;by_cases hc:sJ c=true
 ·obtain⟨⟨Y,X,V⟩,T⟩:=RK c hc;rw[ai hc,bI,bI,gu,EG o n l false false 125 eF];have U:sL (l,false,false) 125=(l,true,false):=by simp[sL]
  rw[U,EG _ _ _ _ _ _ Y];have Z:sL (l,true,false) (c^^^32)=(l++ [c^^^32^^^32],false,false):=by
   simp[sL,X,V,Nat.ne_of_lt h]
  rw[Z,T]
 ·have S:sJ c=false:=by simpa using hc
  obtain⟨Y,X,V⟩:=Lt c S;rw[af hc,bI,gu,EG _ _ _ _ _ _ Y];have Z:sL (l,false,false) c=(l++ [c],false,false):=by
   simp[sL,X,V,Nat.ne_of_lt h]
  rw[Z]
theorem Ib(o:List (List UInt8))(n:Nat):∀(m l:List UInt8),l.length+m.length<=62->(tq m).foldl mU (o,n,(l,false,false))=(o,n,(l++m,false,false))
 |[],l,_=>by simp[tq]
 |c::m,l,h=>by
  have h':l.length+(m.length+1)<=62:=by simpa using h
  have e:tq (c::m)=Dc c++tq m:=by simp[tq]
  rw[e,db,RL o n l c eB,Ib o n m (l++ [c]) (by simp;omega)];simp
theorem JD(l:List UInt8):nT (mD l) false false=(l,true,0):=by
 have hl:(mD l).length=l.length+2:=oO l;have X:(mD l).take ((mD l).length-2)=l:=by rw[hl];simp[mD]
 have Z:(mD l).getD ((mD l).length-2) 0=KW l:=by
  rw[hl];simp[mD]
 have Y:(mD l).getD ((mD l).length-1) 0=KX l:=by
  rw[hl];simp[mD]
 unfold nT;rw[af ik,af eB,af eB,Z,Y,X,ai];rw[Hq,Hr];omega
theorem N7(l:List UInt8)(h:l.length<=60):kN ([],false,false) (mb l)=([l],0,([],false,false)):=by
 unfold kN mb;rw[bI,db];have Z:mU ([],0,([],false,false)) 126=([],0,([],false,false)):=by simp[mU,qI,qH,nT]
 rw[Z,Ib [] 0 (mD l) [] (by rw[oO];simp;omega)];simp[mU,qI,qH,JD]
theorem yu(l:List UInt8):(mb l).length=(tq (mD l)).length+2:=by simp[mb]
theorem RM(l:List UInt8)(h:l.length<=60):(mb l).length<=126:=by
 rw[yu];have:=DB (mD l);rw[oO]at this;omega
def kc(x:Int):UInt8:=UInt8.ofNat x.toNat
theorem nU(x:Int)(h0:0<=x)(h1:x<=255):((kc x).toNat:Int)=x:=by
 unfold kc;rw[UInt8.toNat_ofNat_of_lt' (by show x.toNat<256;omega)];omega
def Cu(os:List jQ):List UInt8:=os.flatMap λo=>[kc o.1,kc o.2]
def mV(code id:Int)(os:List jQ):List UInt8:=kc code::kc id::kc os.length::Cu os
theorem N8(os:List jQ)(o:jQ):Cu (os++ [o])=Cu os++ [kc o.1,kc o.2] :=by simp[Cu]
theorem sM(os:List jQ):(Cu os).length=2*os.length:=by
 induction os with
 |nil=>rfl
 |cons o r ih=>simp only[Cu,List.flatMap_cons,eV,eW,eX]at ih⊢;omega
theorem EH:∀(r seen:List jQ),qC seen r=0->∀o∈r,yK o.1=true/\yK o.2=true
 |[],_,_,o,Z=>by simp at Z
 |x::r,seen,h,o,Z=>by
  unfold qC at h;split at h;{simp at h}
  ·rename_i Y
   split at h;{simp at h}
   ·rcases aP.mp Z with rfl|Z
    {simpa using Y};{exact EH r _ h o Z}
theorem N9 {code id:Int} {os:List jQ} (h:j4 code id os=0):1<=code/\code<=6/\(0<=id/\id<=255)/\os.length<=8/\(5<=code->os.length=0)/\qC [] os=0:=by
 unfold j4 at h;split at h;{simp at h}
 ·rename_i h1
  split at h;{simp at h}
  ·split at h;{simp at h}
   ·have Z:yK id=true:=by cases hq:yK id<;>simp_all
    exact⟨eB,eB,(DA id).mp Z,eB,eB,h⟩
theorem Lu(code id:Int)(a:Option eh)(n cap:Nat)(os:List jQ)(w:ew)(U:n<=1000000)(V:n<=cap)(T:jm w a n os)(hf:j4 code id os≠0):
 fc fe 175 #[.agg #[ι κ code,ι κ id,σ a n cap]] w λe w'=>e=ρ (τ #[.string gh,jB (j4 code id os)])/\eH w w':=by
 have X:eH w (w.alloc (γ #[ι κ code,ι κ id,σ a n cap] 37)):=(au _ _).alloc (Nat.le_refl _) _;have Z:=uI code id a n cap os (w.alloc (γ #[ι κ code,ι κ id,σ a n cap] 37)) U V (T.below X);generalize j4 code id os=f at hf Z;have Y:jB f=.iface 128 (ι κ (f:Int)):=by simp[jB,hf]
 rw[Y]at Z⊢;clear Y
 go_in
 go_wp2_with(fail);refine Z.mono ?_;rintro e w1 ⟨rfl,S⟩
 go_wp2
 go_ret2
 exact⟨rfl,fP X S⟩
theorem JE(code id:Int)(a:Option eh)(n cap:Nat)(os:List jQ)(w:ew)(KK:n<=cap)(y:jm w a n os)(hf:j4 code id os=0):
 fc fe 175 #[.agg #[ι κ code,ι κ id,σ a n cap]] w λe w'=>e=ρ (τ #[.string ⟨(mV code id os).toArray⟩,η])/\eH w w':=by
 obtain⟨i0,hi,oN,nG,mS⟩:=aX aa6;obtain⟨p1,p2,⟨p3,p4⟩,p5,p6,p7⟩:=N9 hf;have oa:=EH os [] p7;have hl:=y.1;have ng:eH w (w.alloc (γ #[ι κ code,ι κ id,σ a n cap] 37)):=(au _ _).alloc (Nat.le_refl _) _;have kA:=uI code id a n cap os (w.alloc (γ #[ι κ code,ι κ id,σ a n cap] 37)) eB KK (y.below ng);have e0:jB 0=η:=rfl;rw[hf,e0]at kA;clear e0 p6 p7 hf;have VA:∀w1:ew,Below (w.alloc (γ #[ι κ code,ι κ id,σ a n cap] 37)).heap.size (w.alloc (γ #[ι κ code,ι κ id,σ a n cap] 37)) w1->
  w1.cell? ⟨w.heap.size,0,ν⟩=μ (ι κ code)/\w1.cell? ⟨w.heap.size,1,ν⟩=μ (ι κ id)/\w1.cell? ⟨w.heap.size,2,ν⟩=μ (σ a n cap):=by
  intro w1 hb;have T:w.heap.size<(w.alloc (γ #[ι κ code,ι κ id,σ a n cap] 37)).heap.size:=ik;have hA:=λj=>ak w #[ι κ code,ι κ id,σ a n cap] 37 (0,0) j;exact⟨(hb.cell (p:=⟨w.heap.size,0,ν⟩) T).trans (hA 0),(hb.cell (p:=⟨w.heap.size,1,ν⟩) T).trans (hA 1),(hb.cell (p:=⟨w.heap.size,2,ν⟩) T).trans (hA 2)⟩
 go_in
 go_wp2_with(fail);refine kA.mono ?_;rintro e w1 ⟨rfl,S⟩;obtain⟨q0,q1,q2⟩:=VA w1 S;have wi:=fP ng S;have T:w.heap.size<w1.heap.size:=by
  have:=S.size;simp at this;omega
 clear VA S kA ng;go_wp2_with(fail);have uN:Row (w1.alloc (γ #[.int .u8 code,.int .u8 id,.int .u8 (n:Int)] 5)) 1 (σ (μ ⟨w1.heap.size,0,ν⟩) 3 3) 3 (jd [kc code,kc id,kc os.length]):=by
  refine Row.made w1 1 5 _ (0,0) 3 3 _ rfl rfl (Nat.le_refl _) eF (.inl rfl) ?_;intro j u hu;simp only[jd,eQ,eR,nU code eB eB,nU id p3 p4,hl,nU (n:Int) eB eB]at hu;simpa using hu
 have yW:eH w (w1.alloc (γ #[.int .u8 code,.int .u8 id,.int .u8 (n:Int)] 5)):=wi.alloc wi.size _
 go_loopw [5,27] (λv i wr=>∃(k g cp:Nat) (E:List UInt8),E=kc code::kc id::kc os.length::Cu (os.take k)/\k<=n/\i=ι κ k/\v=σ (μ ⟨g,0,ν⟩) E.length cp/\Row wr 1 v E.length (jd E)/\
  w.heap.size<=g/\eH w wr)
  (λ_ i _=>n-(fh i).toNat)
 case atStart=>exact⟨0,w1.heap.size,3,_,rfl,Nat.zero_le _,rfl,rfl,uN,wi.size,yW⟩
 case round=>
  obtain⟨k,g,cp,E,J,hk,rfl,rfl,U,Ky,X⟩:=hrel;have PT:E.length<=19:=by
   have h1:=sM (os.take k);have h2:(os.take k).length<=8:=by simp;omega
   rw[J];simp only[eW];omega
  have HE:Hid _:=J;have HL:Hid _:=hl;clear J uN yW hl;have m2:E.length+2<=maxLen:=by unfold maxLen;omega
  have b2:(E.length+2)*1<=140737488355328:=eB;by_cases kL:k<n
  ·have AW:=y.below X;rcases AW.2 with h0|⟨b,off,rfl,hc⟩
   ·omega
   have rj:k<os.length:=by rw[HL.out];exact kL
   obtain⟨c1,c2⟩:=hc k rj;obtain⟨D,A⟩:=oa os[k] (aF _);have HT:Hid (os.take (k+1)=os.take k++ [os[k]]):=az rj;generalize os[k] =o at c1 c2 HT D A;obtain⟨o1a,o1b⟩:=(DA o.1).mp D;obtain⟨o2a,o2b⟩:=(DA o.2).mp A;clear hc D A AW;have n9:(k:Int)<(n:Int):=eB;have Y:eH w (wr.alloc (γ #[ι κ o.1,ι κ o.2] 276)):=X.alloc X.size _;have Z:Row (wr.alloc (γ #[ι κ o.1,ι κ o.2] 276)) 1 (σ (μ ⟨g,0,ν⟩) E.length cp) E.length (jd E):=U.alloc _;go_wp2_with(at_builtin;go_must(refine iU _ rfl (.tmp 31) (.tmp 38) 140 rfl 5 i0 (.int .u8 0) 1 1 underlying140 hi oN nG mS rfl eF _ E.length (jd E) rfl (Z.alloc _) _ 2 2 [.int .u8 o.1,.int .u8 o.2] rfl rfl eF ?hcc (l8 _ _ _ _) m2 b2 ?_))
   case hcc=>
    have:=qj (wr.alloc (γ #[ι κ o.1,ι κ o.2] 276)) (.int .u8 o.1) (.int .u8 o.2) 5;simpa using this
   intro V cap2 w2 sH tE lp;have tC:μ g=μ V \/(wr.alloc (γ #[ι κ o.1,ι κ o.2] 276)).heap.size+1<=V:=by
    rcases lp with h|h
    {exact .inl h};{exact .inr (by simp;omega)}
   have R:=Hf tE tC Ky Y;have tu:Row w2 1 (σ (μ ⟨V,0,ν⟩) (E.length+2) cap2) (E++ [kc o.1,kc o.2]).length (jd (E++ [kc o.1,kc o.2])):=by
    rw[l5,aA];simp only[jd,eQ,eR,nU o.1 o1a o1b,nU o.2 o2a o2b];exact sH
   have HN:Hid (E++ [kc o.1,kc o.2] =kc code::kc id::kc os.length::Cu (os.take (k+1))):=by
    show E++ [kc o.1,kc o.2] =_;rw[HE.out,HT.out,N8];rfl
   have M:Hid ((E++ [kc o.1,kc o.2]).length=E.length+2):=by show(E++ [kc o.1,kc o.2]).length=E.length+2;simp
   clear sH tE lp tC U X Y Z
   go_wp2
   go_roundw
   case rel=>exact⟨k+1,V,cap2,_,HN.out,eB,by go_num,by rw[M.out],tu,R.1,R.2⟩
   case measure=>simp[fh];omega
  ·have aa7:(convert 140 9 (σ (μ ⟨g,0,ν⟩) E.length cp)).run fe wr=.ok (.string ⟨E.toArray⟩) wr:=Row.back U 140 9 5 underlying140 underlying5 underlying9;have HF:Hid (mV code id os=E):=by
    show mV code id os=E;have zH:os.take k=os:=aH (by rw[HL.out];omega);rw[HE.out,zH];rfl
   clear U;go_wp2_with(fail);rw[HF.out]
   go_ret2
   exact⟨rfl,X⟩
theorem VB:(fe.info? 276).map (λi=>(i.zero,i.size,i.bytes))=μ (μ (.agg #[ι κ 0,ι κ 0]),2,16):=ga
theorem VC(w:ew):(zeroValue 37).run fe w=.ok (.agg #[ι κ 0,ι κ 0,σ ν 0 0]) w:=ga
theorem Bu(w:ew)(x y:eA)(t:eE):∀(j:Nat) (u:eA),[x,y][j]? =μ u->(w.alloc (γ #[x,y] t)).drew.cell? ((⟨w.heap.size,0,ν⟩:eh).add j)=μ u:=λj u Z=>qj w x y t j u Z
theorem sN {o:Obj} (Y:∀k,v.ownBlock=μ k->lo+2<=k)(Z:(wr.alloc o).drew.grownBy x1 v.ownBlock)(hb:b<lo+2)(X:b<wr.heap.size):x1.heap[b]? =wr.heap[b]? :=by
 rw[Z.block b (by show b<(wr.alloc o).heap.size;simp;omega) (λe=>by have:=Y b e.symm;omega)];exact aV wr o b X
theorem Lv {o:Obj} (Y:∀k,v.ownBlock=μ k->lo+2<=k)(Z:(wr.alloc o).drew.grownBy x1 v.ownBlock)(hc:wr.cell? ⟨lo+1,j,ν⟩=μ u):x1.cell? ⟨lo+1,j,ν⟩=μ u:=by
 have X:lo+1<wr.heap.size:=ag wr _ hc;rw[aj (w:=wr) (a:=⟨lo+1,j,ν⟩) (sN (b:=lo+1) Y Z eB X)];exact hc
theorem GV {o:Obj} (Y:∀k,v.ownBlock=μ k->lo+2<=k)(Z:(wr.alloc o).drew.grownBy x1 v.ownBlock)(hc:wr.cell? ⟨lo+1,j,ν⟩=μ u)(hf:wr.frozen? ⟨lo+1,j,ν⟩=false):x1.frozen? ⟨lo+1,j,ν⟩=false:=by
 have X:lo+1<wr.heap.size:=ag wr _ hc;rw[aL (w:=wr) (a:=⟨lo+1,j,ν⟩) (sN (b:=lo+1) Y Z eB X)];exact hf
def m8:List UInt8->List jQ
 |k::n::r=>((k.toNat:Int),(n.toNat:Int))::m8 r
 |_=>[]
theorem Cv(s:ByteArray)(k:Nat)(h:k<s.size):s.data.toList.drop k=s[k] ::s.data.toList.drop (k+1):=by
 rw[aR (by simpa using h)];rfl
theorem wO(Y:wr.heap[w.heap.size]? =μ (γ #[ι κ 0,ι κ 0,σ ν 0 0] 37 (0,0)))(hb:eH wr w1):
 w1.cell? ⟨w.heap.size,0,ν⟩=μ (ι κ 0)/\w1.cell? ⟨w.heap.size,1,ν⟩=μ (ι κ 0)/\w1.cell? ⟨w.heap.size,2,ν⟩=μ (σ ν 0 0)/\∀j,w1.frozen? ⟨w.heap.size,j,ν⟩=false:=by
 have X:w.heap.size<wr.heap.size:=(ay.1 Y).1;have Z:w1.heap[w.heap.size]? =μ (γ #[ι κ 0,ι κ 0,σ ν 0 0] 37 (0,0)):=by rw[hb.block _ X];exact Y
 exact⟨ax w1 _ 0 _ 37 (0,0) Z,ax w1 _ 1 _ 37 (0,0) Z,ax w1 _ 2 _ 37 (0,0) Z,λj=>bF w1 _ j _ 37 Z⟩
def jk(l:List UInt8):Int×Int×List jQ×Nat:=
 if l.length<3 \/(l.length:Int)≠(3:Int)+(2:Int)*((l.getD 2 0).toNat:Int)then(0,0,[],4)
 else if j4 ((l.getD 0 0).toNat:Int) ((l.getD 1 0).toNat:Int) (m8 (l.drop 3))=0 then(((l.getD 0 0).toNat:Int),((l.getD 1 0).toNat:Int),m8 (l.drop 3),0)
 else(0,0,[],4)
def EJ(l:List UInt8)(w:ew)(e:Ending)(w':ew):Prop:=
 ∃(a:Option eh) (n cap f:Nat) (code id:Int) (os:List jQ),e=ρ (τ #[.agg #[ι κ code,ι κ id,σ a n cap],jB f])/\jm w' a n os/\n<=cap/\jk l=(code,id,os,f)/\eH w w'/\(∀j,eD (σ a n cap)=μ j->w.heap.size<=j/\j<w'.heap.size)/\kY a cap
theorem yv(s:ByteArray)(h3:3<=s.size)(heq:(s.size:Int)=(3:Int)+(2:Int)*(s[2].toNat:Int)):
 jk s.data.toList=if j4 (s[0].toNat:Int) (s[1].toNat:Int) (m8 (s.data.toList.drop 3))=0 then((s[0].toNat:Int),(s[1].toNat:Int),m8 (s.data.toList.drop 3),0)else(0,0,[],4):=by
 have hl:s.data.toList.length=s.size:=ik;unfold jk;rw[oq s 0 eB,oq s 1 eB,oq s 2 eB,hl,af eB]
theorem Cw {x y z:eA} (Y:Row w1 2 (σ ao k cp) k (je ok))(X:∀j,eD (σ ao k cp)=μ j->w.heap.size+2<=j)(hb:eH w w1):
 jm (((w1.setCell ⟨w.heap.size,0,ν⟩ x).setCell ⟨w.heap.size,1,ν⟩ y).setCell ⟨w.heap.size,2,ν⟩ z) ao k ok/\eH w (((w1.setCell ⟨w.heap.size,0,ν⟩ x).setCell ⟨w.heap.size,1,ν⟩ y).setCell ⟨w.heap.size,2,ν⟩ z):=by
 refine⟨Row.opts (Y.keep ik (λj Z=> ?_)),((hb.setCell (Nat.le_refl _) _).setCell (Nat.le_refl _) _).setCell (Nat.le_refl _) _⟩;have:=X j Z;rw[aq _ _ _ _ (by show j≠w.heap.size;omega),aq _ _ _ _ (by show j≠w.heap.size;omega),aq _ _ _ _ (by show j≠w.heap.size;omega)]
theorem Dj(w:ew)(a b:Obj):((w.alloc a).alloc b).drew.heap[w.heap.size+1]? =μ b:=by
 have h:=aY (w.alloc a) b;have e:(w.alloc a).heap.size=w.heap.size+1:=ik;rw[e]at h;exact h
theorem Bv(w:ew)(a b:Obj):((w.alloc a).alloc b).drew.heap[w.heap.size]? =μ a:=by
 show((w.alloc a).alloc b).heap[w.heap.size]? =μ a;rw[aV (w.alloc a) b w.heap.size ik];exact aY w a
theorem JF {g' jH:Nat} {c d:Int} {x y:Nat}
 (U:wr.heap[w.heap.size+1]? =μ (γ #[ι κ c,ι κ d,σ ao k cp] 37 (0,0)))
 (M:wr.heap[w.heap.size]? =μ (γ #[ι κ 0,ι κ 0,σ ν 0 0] 37 (0,0)))
 (_hrow:Row wr 2 (σ ao k cp) k (je ok)) (Y:∀j,eD (σ ao k cp)=μ j->w.heap.size+2<=j) (S:eH w wr)
 (T:Row x1 2 (σ (μ ⟨g',0,ν⟩) (k+1) jH) (k+1) (je ok++ [ι κ (κ.wrap (x:Int)),ι κ (κ.wrap (y:Int))]))
 (X:(wr.alloc ob).drew.grownBy x1 (eD (σ ao k cp))) (E:eD (σ ao k cp)=μ g' \/(wr.alloc ob).drew.heap.size<=g') (hx:x<2^8) (hy:y<2^8):
 Row (x1.setCell ⟨w.heap.size+1,2,ν⟩ (σ (μ ⟨g',0,ν⟩) (k+1) jH)) 2 (σ (μ ⟨g',0,ν⟩) (k+1) jH) (k+1) (je (ok++ [((x:Int),(y:Int))]))/\
 (x1.setCell ⟨w.heap.size+1,2,ν⟩ (σ (μ ⟨g',0,ν⟩) (k+1) jH)).heap[w.heap.size+1]? =μ (γ #[ι κ c,ι κ d,σ (μ ⟨g',0,ν⟩) (k+1) jH] 37 (0,0))/\
 (x1.setCell ⟨w.heap.size+1,2,ν⟩ (σ (μ ⟨g',0,ν⟩) (k+1) jH)).heap[w.heap.size]? =μ (γ #[ι κ 0,ι κ 0,σ ν 0 0] 37 (0,0))/\
 (∀j,eD (σ (μ ⟨g',0,ν⟩) (k+1) jH)=μ j->w.heap.size+2<=j)/\eH w (x1.setCell ⟨w.heap.size+1,2,ν⟩ (σ (μ ⟨g',0,ν⟩) (k+1) jH)):=by
 have D:w.heap.size+1<wr.heap.size:=(ay.1 U).1;have k1:=sN (b:=w.heap.size+1) Y X eB D;have k0:=sN (b:=w.heap.size) Y X eB eB;have TU:(wr.alloc ob).drew.heap.size=wr.heap.size+1:=by show(wr.alloc ob).heap.size=_;simp
 have GU:w.heap.size+2<=g':=by
  rcases E with h|h
  {exact Y g' h};{omega}
 have V:x1.heap[w.heap.size+1]? =μ (γ #[ι κ c,ι κ d,σ ao k cp] 37 (0,0)):=by rw[k1];exact U
 refine⟨?_,?_,?_,?_,?_⟩
 ·have ex:κ.wrap (x:Int)=(x:Int):=aS _ ⟨eB,eB⟩;have J:κ.wrap (y:Int)=(y:Int):=aS _ ⟨eB,eB⟩;rw[ex,J,<-mN ok ((x:Int),(y:Int))]at T;refine T.keep ik (λj Z=> ?_);have:g'=j:=by simpa[eD]using Z
  exact aq _ _ _ _ (by show j≠w.heap.size+1;omega)
 {rw[bP x1 (w.heap.size+1) 2 _ 37 (0,0) _ V];exact cG x1 _ _ _ 37 (0,0) V};{rw[aq _ _ _ _ (by show w.heap.size≠w.heap.size+1;omega),k0];exact M}
 ·intro j Z;have:g'=j:=by simpa[eD]using Z
  omega
 ·have A:eH w (wr.alloc ob).drew:=(S.alloc S.size _).drew;refine bD ?_ (by show w.heap.size<=w.heap.size+1;omega) _;refine A.grown X eB (λj Z=> ?_);have:=Y j Z;omega
theorem JG(s:ByteArray)(w:ew)(hs:s.size<=1000)(h3:3<=s.size)(heq:(s.size:Int)=(3:Int)+(2:Int)*(s[2].toNat:Int)):
 fc fe 184 #[.string s] w λe w'=>EJ s.data.toList w e w':=by
 obtain⟨i0,hi,oN,nG,mS⟩:=aX VB;have hz:=VC;have g1:¬(s.size:Int)<3:=eB;have m7:=s[2].toNat_lt;have g2:((s.size:Int) !=(3:Int)+(2:Int)*(s[2].toNat:Int))=false:=by rw[heq];simp
 have HE:Hid _:=heq;clear heq;have b0:0<s.size:=eB;have b1:1<s.size:=eB;have b2:2<s.size:=eB;have yW:=s[0].toNat_lt;have Z:=s[1].toNat_lt;have z0:(0:Int)<(s.size:Int):=eB;have z1:(1:Int)<(s.size:Int):=eB
 go_in
 go_wp2
 go_region
 go_wp2
 go_loopw [5] (λi wr=>∃(k cp:Nat) (ao:Option eh) (ok:List jQ),3+2*k<=s.size/\i=ι κ ((3+2*k:Nat):Int)/\ok.length=k/\m8 (s.data.toList.drop 3)=ok++m8 (s.data.toList.drop (3+2*k))/\Row wr 2 (σ ao k cp) k (je ok)/\
  wr.heap[w.heap.size+1]? =μ (γ #[ι κ (s[0].toNat:Int),ι κ (s[1].toNat:Int),σ ao k cp] 37 (0,0))/\wr.heap[w.heap.size]? =μ (γ #[ι κ 0,ι κ 0,σ ν 0 0] 37 (0,0))/\
  (∀j,eD (σ ao k cp)=μ j->w.heap.size+2<=j)/\eH w wr)
  (λi _=>s.size-(fh i).toNat)
 case atStart=>
  refine⟨0,0,ν,[],eB,rfl,rfl,rfl,Row.nil _ _,?_,?_,λj Y=>by simp[eD]at Y,(((au _ _).alloc (Nat.le_refl _) _).alloc ik _).drew⟩;{exact Dj w _ _};{exact Bv w _ _}
 case round=>
  obtain⟨k,cp,ao,ok,hk,rfl,jb,D,X,Lw,EI,h,iY⟩:=hrel;have hP:Hid _:=D;clear D;have cv:wr.cell? ⟨w.heap.size+1,2,ν⟩=μ (σ ao k cp):=ax wr _ 2 _ 37 (0,0) Lw;have fv:wr.frozen? ⟨w.heap.size+1,2,ν⟩=false:=bF wr _ 2 _ 37 Lw;have Zg:w.heap.size+1<wr.heap.size:=ag wr _ cv;have U:Hid _:=Lw;have T:Hid _:=EI;clear Lw EI;by_cases kL:3+2*k<s.size
  ·have GH:3+2*k+1<s.size:=by have:=HE.out;omega
   obtain⟨q,hq⟩:∃q,q=3+2*k:=⟨_,rfl⟩
   rw[<-hq]at kL GH;have HQ:Hid _:=hq;have y0:(0:Int)<=(q:Int):=eB;have y1:(q:Int)<(s.size:Int):=eB;have y2:(q:Int)+1<(s.size:Int):=eB;have y3:(0:Int)<=(q:Int)+1:=eB;have yw:κ.wrap ((q:Int)+1)=(q:Int)+1:=aS _ ⟨eB,eB⟩;have hbq:=s[q].toNat_lt;have alh:=s[q+1].toNat_lt;have m1:k+1<=maxLen:=by unfold maxLen;omega
   have bb1:(k+1)*16<=140737488355328:=eB;rw[<-hq];clear hq;have HP2:Hid (m8 (s.data.toList.drop 3)=(ok++ [((s[q].toNat:Int),(s[q+1].toNat:Int))])++m8 (s.data.toList.drop (3+2*(k+1)))):=by
    show m8 (s.data.toList.drop 3)=_;rw[hP.out,<-HQ.out,Cv s q kL,Cv s (q+1) GH];have S:q+1+1=3+2*(k+1):=by have:=HQ.out;omega
    rw[S];simp[m8]
   go_wp2
   go_region_law ((refine mE (by rfl) (.tmp 35) (.tmp 46) 35 (by rfl) 276 i0 (.agg #[ι κ 0,ι κ 0]) 2 16 underlying35 hi oN nG mS (by rfl) eF (σ ao k cp) k (je ok) (by rfl) ((X.alloc _).drew) _ 1 1 [ι κ (κ.wrap (s[q].toNat:Int)),ι κ (κ.wrap (s[q+1].toNat:Int))] (by rfl) (by rfl) eF (Bu _ _ _ _) (l8 _ _ _ _) m1 bb1 ?_;intro g' jH x1 lE kR jR;have c1:=Lv h kR cv;have f1:=GV h kR cv fv))
   all_goals have hS:=JF (c:=(s[0].toNat:Int)) (d:=(s[1].toNat:Int)) U.out T.out X h iY lE kR jR s[q].toNat_lt s[q+1].toNat_lt
   all_goals clear lE kR jR c1 f1
   all_goals go_wp2_with(fail)
   all_goals go_roundw
   all_goals first
    |exact⟨k+1,jH,some ⟨g',0,none⟩,_,by have:=HQ.out;omega,by have:=HQ.out;go_num,by simp[jb],HP2.out,hS⟩
    |(simp[fh];omega)
  ·have A:3+2*k=s.size:=eB;have VD:m8 (s.data.toList.drop 3)=ok:=by
    rw[hP.out,A,bg (by show s.size<=s.size;omega)];simp[m8]
   have yR:=X.opts;have DE:=X.Ud;have c0:wr.cell? ⟨w.heap.size+1,0,ν⟩=μ (ι κ (s[0].toNat:Int)):=ax wr _ 0 _ 37 (0,0) U.out;have c1:wr.cell? ⟨w.heap.size+1,1,ν⟩=μ (ι κ (s[1].toNat:Int)):=ax wr _ 1 _ 37 (0,0) U.out;have M:=uI (s[0].toNat:Int) (s[1].toNat:Int) ao k cp ok wr eB DE yR;have HK:Hid _:=VD;clear hP VD A;by_cases hf:j4 (s[0].toNat:Int) (s[1].toNat:Int) ok=0
   ·have J:jB 0=η:=rfl;rw[hf,J]at M;clear J;have HF:Hid _:=hf;clear hf;go_wp2_with(fail);refine M.mono ?_;rintro e w1 ⟨rfl,Z⟩;have d0:=(Z.cell (p:=⟨w.heap.size+1,0,ν⟩) Zg).trans c0;have d1:=(Z.cell (p:=⟨w.heap.size+1,1,ν⟩) Zg).trans c1;have d2:=(Z.cell (p:=⟨w.heap.size+1,2,ν⟩) Zg).trans cv;obtain⟨r0,r1,r2,r3⟩:=wO T.out Z;have wi:=fP iY Z;have V:Hid ((∀j,eD (σ ao k cp)=μ j->w.heap.size<=j/\j<w1.heap.size)/\kY ao cp):=⟨λj Y=>⟨by have:=h j Y;omega,(X.below Z).lt j Y⟩,λe=>by
     rcases X.2 with⟨S,_⟩|⟨g9,c9,S,_⟩
     ·simp at S;exact S.2.2
     ·rw[e]at S;simp at S⟩
    have E:=Cw (x:=ι κ (s[0].toNat:Int)) (y:=ι κ (s[1].toNat:Int)) (z:=σ ao k cp) (X.below Z) h wi;have HV:Hid (jk s.data.toList=((s[0].toNat:Int),(s[1].toNat:Int),ok,0)):=by
     show jk s.data.toList=_;rw[yv s h3 HE.out,HK.out,ai HF.out]
    clear M Z c0 c1 cv X;go_wp2_with(fail);refine aE (v:=τ #[.agg #[ι κ (s[0].toNat:Int),ι κ (s[1].toNat:Int),σ ao k cp],η]) (by simp[results,results184,go_sem,r0,r1,r2]) rfl ?_;exact⟨ao,k,cp,0,_,_,ok,rfl,E.1,DE,HV.out,E.2,λj Y=>⟨(V.out.1 j Y).1,by simpa using(V.out.1 j Y).2⟩,V.out.2⟩
   ·have J:jB (j4 (s[0].toNat:Int) (s[1].toNat:Int) ok)=.iface 128 (ι κ (j4 (s[0].toNat:Int) (s[1].toNat:Int) ok:Int)):=by simp[jB,hf]
    rw[J]at M;clear J;have HF:Hid _:=hf;clear hf;have HV:Hid (jk s.data.toList=(0,0,[],4)):=by
     show jk s.data.toList=_;rw[yv s h3 HE.out,HK.out,af HF.out]
    generalize j4 (s[0].toNat:Int) (s[1].toNat:Int) ok=ff at M;go_wp2_with(fail);refine M.mono ?_;rintro e w1 ⟨rfl,Z⟩;obtain⟨r0,r1,r2,r3⟩:=wO T.out Z;have wi:=fP iY Z;have E:=Cw (ok:=[]) (ao:=ν) (k:=0) (cp:=0) (x:=ι κ 0) (y:=ι κ 0) (z:=σ ν 0 0) (Row.nil w1 2) (λj Y=>by simp[eD]at Y) wi;clear M Z c0 c1 cv X yR;go_wp2_with(fail);refine aE (v:=τ #[.agg #[ι κ 0,ι κ 0,σ ν 0 0],.iface 128 (ι κ 4)]) (by simp[results,results184,go_sem,r0,r1,r2]) rfl ?_;exact⟨ν,0,0,4,0,0,[],rfl,E.1,Nat.le_refl _,HV.out,E.2,λj Y=>by simp[eD]at Y,λ_=>rfl⟩
theorem Cx(s:ByteArray)(w:ew)(hs:s.size<=1000)(h:jk s.data.toList=(0,0,[],4))(hb:s.size<3 \/ ∃T:3<=s.size,(s.size:Int)≠(3:Int)+(2:Int)*(s[2].toNat:Int)):
 fc fe 184 #[.string s] w λe w'=>EJ s.data.toList w e w':=by
 have hz:=VC;have Y:Hid _:=h;clear h;have U:eH w (w.alloc (γ #[ι κ 0,ι κ 0,σ ν 0 0] 37)):=(au _ _).alloc (Nat.le_refl _) _;have V:jm (w.alloc (γ #[ι κ 0,ι κ 0,σ ν 0 0] 37)) ν 0 [] :=⟨rfl,.inl rfl⟩
 rcases hb with h1|⟨T,X⟩
 ·have g1:(s.size:Int)<3:=eB
  go_in
  go_wp2_with(fail);refine aE (v:=τ #[.agg #[ι κ 0,ι κ 0,σ ν 0 0],.iface 128 (ι κ 4)]) (by simp[results,results184,go_sem]) rfl ?_;exact⟨ν,0,0,4,0,0,[],rfl,V,Nat.le_refl _,Y.out,U,λj Z=>by simp[eD]at Z,λ_=>rfl⟩
 ·have g1:¬(s.size:Int)<3:=eB;have m7:=s[2].toNat_lt;have b2:2<s.size:=eB;have g2:((s.size:Int) !=(3:Int)+(2:Int)*(s[2].toNat:Int))=true:=by rw[dW];exact X
  clear X
  go_in
  go_wp2_with(fail);refine aE (v:=τ #[.agg #[ι κ 0,ι κ 0,σ ν 0 0],.iface 128 (ι κ 4)]) (by simp[results,results184,go_sem]) rfl ?_;exact⟨ν,0,0,4,0,0,[],rfl,V,Nat.le_refl _,Y.out,U,λj Z=>by simp[eD]at Z,λ_=>rfl⟩
theorem Lx(s:ByteArray)(w:ew)(hs:s.size<=1000):fc fe 184 #[.string s] w λe w'=>EJ s.data.toList w e w':=by
 have hl:s.data.toList.length=s.size:=ik;by_cases Z:3<=s.size;{by_cases heq:(s.size:Int)=(3:Int)+(2:Int)*(s[2].toNat:Int);{exact JG s w hs Z heq};{refine Cx s w hs ?_ (.inr ⟨Z,heq⟩);unfold jk;rw[oq s 2 eB,hl,ai (.inr heq)]}};{refine Cx s w hs ?_ (.inl eB);unfold jk;rw[hl,ai (.inl eB)]}
open St
open Go.ChangeShapes Go.WideShapes Go.ChangeAt
structure AV where
 kind:ByteArray
 a:Int
 b:Int
 c:Int
 d:Int
 s:ByteArray
 PX:Int
 pid:Int
 po:Option eh
 pn:Nat
 EK:Nat
 x:SV
instance:Inhabited AV:=⟨⟨gh,0,0,0,0,gh,0,0,ν,0,0,SV.zero⟩⟩
def AV.at_(v:AV)(w:ew)(b o:Nat):Prop:=
 w.cell? ⟨b,o,ν⟩=μ (.string v.kind)/\w.cell? ⟨b,o+1,ν⟩=μ (ι κ v.a)/\w.cell? ⟨b,o+2,ν⟩=μ (ι κ v.b)/\w.cell? ⟨b,o+3,ν⟩=μ (ι κ v.c)/\w.cell? ⟨b,o+4,ν⟩=μ (ι κ v.d)/\w.cell? ⟨b,o+5,ν⟩=μ (.string v.s)/\
 w.cell? ⟨b,o+6,ν⟩=μ (ι κ v.PX)/\w.cell? ⟨b,o+7,ν⟩=μ (ι κ v.pid)/\w.cell? ⟨b,o+8,ν⟩=μ (σ v.po v.pn v.EK)/\
 w.cell? ⟨b,o+9,ν⟩=μ (ι κ v.x.own)/\w.cell? ⟨b,o+10,ν⟩=μ (ι κ v.x.seq)/\w.cell? ⟨b,o+11,ν⟩=μ (σ v.x.a v.x.n v.x.cap)
structure EL(w:ew)(a:Option eh)(n:Nat)(V:Nat->AV)(E:Nat->List jQ):Prop where
 row:n=0 \/ ∃b off,a=μ ⟨b,off,ν⟩/\∀j,j<n->(V j).at_ w b (off+j*12)
 opt:∀j,j<n->jm w (V j).x.a (V j).x.n (E j)/\kY (V j).x.a (V j).x.cap/\(V j).x.n<=maxLen/\(V j).pn<=maxLen
 pk:∀j,j<n->∃os:List jQ,jm w (V j).po (V j).pn os/\kY (V j).po (V j).EK/\(V j).pn<=(V j).EK
theorem AV.at_.below {v:AV} (h:v.at_ w b o)(hb:eH w w'):v.at_ w' b o:=by
 obtain⟨c0,c1,c2,c3,c4,X,V,U,T,c9,Z,Y⟩:=h;have l:=ag w _ c0;have k:∀i u,w.cell? ⟨b,i,ν⟩=μ u->w'.cell? ⟨b,i,ν⟩=μ u:=λi u S=>(hb.cell (p:=⟨b,i,ν⟩) l).trans S;exact⟨k _ _ c0,k _ _ c1,k _ _ c2,k _ _ c3,k _ _ c4,k _ _ X,k _ _ V,k _ _ U,k _ _ T,k _ _ c9,k _ _ Z,k _ _ Y⟩
theorem EL.below {w w':ew} {a:Option eh} {n:Nat} {V:Nat->AV} {E:Nat->List jQ} (h:EL w a n V E)(hb:eH w w'):EL w' a n V E:=by
 refine⟨?_,λj Z=>⟨(h.opt j Z).1.below hb,(h.opt j Z).2⟩,λj Z=>by obtain⟨os,o1,o2⟩:=h.pk j Z;exact⟨os,o1.below hb,o2⟩⟩;rcases h.row with Y|⟨b,off,rfl,Y⟩
 {exact .inl Y};{exact .inr ⟨b,off,rfl,λj Z=>(Y j Z).below hb⟩}
theorem EM {enc:eE×eA->H} {t e:eE} {y:DataW H×List MemPlace} (Y:fe.underlying t=μ (.slice e))
 (Z:DataW.trod enc fe W 0 (λ_=>true) true m t [v] =μ y):∃(a:Option eh) (n cap:Nat),v=σ a n cap/\n<=maxLen/\n<=cap:=by
 rcases dv Y Z with⟨hcs,_⟩|⟨a,len,cap,m',n',D,Pl,hcs,_,hl,hm,_,_,_⟩
 {simp at hcs;subst hcs;exact⟨ν,0,0,rfl,eF,Nat.le_refl _⟩};{simp at hcs;subst hcs;exact⟨μ a,len,cap,rfl,eB,hl⟩}
theorem RN {enc:eE×eA->H} {a:Option eh} {cap:Nat} {d:DataW H} {ps:List MemPlace}
 (h:DataW.Trod enc fe W 0 (λ_=>true) true 23 (σ a n cap) d ps):
 ∃(V:Nat->AV) (E:Nat->List jQ),EL W a n V E/\n<=maxLen:=by
 obtain⟨fuel,hf⟩:=h;rcases dv underlying23 hf with⟨hcs,_⟩|⟨x,len,cp,m',n',D,Pl,hcs,_,hl,hm,KY,_,hx⟩
 ·simp[fB]at hcs;obtain⟨rfl,rfl,rfl⟩:=hcs;exact⟨λ_=>default,λ_=>[],⟨.inl rfl,λj Z=>eB,λj Z=>eB⟩,eF⟩
 ·simp[fB]at hcs;obtain⟨rfl,rfl,rfl⟩:=hcs;simp at KY;have ce:(fe).cellsOf 42=12:=ga;rw[ce]at hx;have each:∀i,i<n->∃q:AV×List jQ,(∀b off,x=⟨b,off,ν⟩->q.1.at_ W b (off+i*12))/\(W.cell? (x.add (i*12))).isSome=true/\jm W q.1.x.a q.1.x.n q.2/\kY q.1.x.a q.1.x.cap/\q.1.x.n<=maxLen/\q.1.pn<=maxLen/\∃os:List jQ,jm W q.1.po q.1.pn os/\kY q.1.po q.1.EK/\q.1.pn<=q.1.EK:=by
   intro i hi;obtain⟨cs',h1,h2⟩:=hx i eB;obtain⟨_,hlen,hcell⟩:=World.cells?_some h1;obtain⟨xs,k,hk,hxy,_,QK,Y⟩:=dc underlying42 h2
   match xs,QK,cs',hlen with
   |[y0,y1,y2,y3,y4,y5,y6,y7],_,[v0,v1,v2,v3,v4,v5,v6,v7,v8,v9,v10,v11],_=>
    have g0:=Y 0 _ rfl;have g1:=Y 1 _ rfl;have g2:=Y 2 _ rfl;have g3:=Y 3 _ rfl;have g4:=Y 4 _ rfl;have g5:=Y 5 _ rfl;have g6:=Y 6 _ rfl;have g7:=Y 7 _ rfl;have ci:(fe).cellsOf 3=1:=ga;have J:(fe).cellsOf 9=1:=ga;have cp3:(fe).cellsOf 37=3:=ga;have cx3:(fe).cellsOf 40=3:=ga;have cse:(fe).cellsOf 38=1:=ga;have cso:(fe).cellsOf 35=1:=ga;simp[ci,J,cp3,cx3]at g0 g1 g2 g3 g4 g5 g6 g7;obtain⟨s0,f0,_,_⟩:=dx underlying9 g0;obtain⟨i1,f1,_,_⟩:=bq underlying3 g1;obtain⟨i2,f2,_,_⟩:=bq underlying3 g2;obtain⟨i3,f3,_,_⟩:=bq underlying3 g3;obtain⟨i4,f4,_,_⟩:=bq underlying3 g4;obtain⟨s5,f5,_,_⟩:=dx underlying9 g5;obtain⟨xp,kp,_,_,_,A,X⟩:=dc underlying37 g6;obtain⟨xq,kq,_,_,_,y,U⟩:=dc underlying40 g7
    match xp,A,xq,y with
    |[p0,p1,p2],_,[z0,z1,z2],_=>
     have e0:=X 0 _ rfl;have e1:=X 1 _ rfl;have e2:=X 2 _ rfl;have e3:=U 0 _ rfl;have e4:=U 1 _ rfl;have e5:=U 2 _ rfl;simp[ci,cse,cso]at e0 e1 e2 e3 e4 e5;obtain⟨i6,f6,_,_⟩:=bq underlying3 e0;obtain⟨i7,f7,_,_⟩:=bq underlying3 e1;obtain⟨pa,pn,EK,f8,hpn,hpc⟩:=EM underlying35 e2;obtain⟨i9,f9,_,_⟩:=bq underlying3 e3;obtain⟨i10,S,_,_⟩:=bq underlying3 e4;obtain⟨ea,en,ec,es,f11,eo,ez,em⟩:=NK e5;simp at f0 f1 f2 f3 f4 f5 f6 f7 f9 S;subst f0 f1 f2 f3 f4 f5 f6 f7 f8 f9 S f11;obtain⟨pos,po1,po2,_⟩:=Q9 (a:=pa) (n:=pn) (cap:=EK) (W:=W) ⟨_,e2⟩;have si:=hcell 0 eB;rw[Go.Deep.add_add]at si;refine⟨(⟨s0,i1,i2,i3,i4,s5,i6,i7,pa,pn,EK,⟨i9,i10,ea,en,ec⟩⟩,es),λb off he=> ?_,by rw[show i*12+0=i*12 by omega]at si;rw[si];rfl,eo,ez,em,hpn,pos,po1,po2,hpc⟩;subst he;have c:=λj (Z:j<12)=>hcell j Z;simp only[nE]at c;have r:∀j,off+i*12+j=off+(i*12)+j:=λj=>rfl;exact⟨c 0 eB,c 1 eB,c 2 eB,c 3 eB,c 4 eB,c 5 eB,c 6 eB,c 7 eB,c 8 eB,c 9 eB,c 10 eB,c 11 eB⟩
  obtain⟨q,T⟩:=Go.Deep.choose_lt each;refine⟨λi=>(q i).1,λi=>(q i).2,⟨?_,λj Z=>⟨(T j Z).2.2.1,(T j Z).2.2.2.1,(T j Z).2.2.2.2.1,(T j Z).2.2.2.2.2.1⟩,λj Z=>(T j Z).2.2.2.2.2.2⟩,eB⟩;by_cases h0:n=0;{exact .inl h0}
  ·obtain⟨b,off,M⟩:=x;obtain⟨u,hu⟩:=Option.isSome_iff_exists.1 (T 0 eB).2.1;have Eh:M=ν:=by simpa[Addr.add]using de hu
   subst Eh;exact .inr ⟨b,off,rfl,λj Z=>(T j Z).1 b off rfl⟩
theorem Dk(c i:Int)(a:Option eh)(n cap:Nat)(w:ew):
 fc fe 65 #[.agg #[ι κ c,ι κ i,σ a n cap]] w λe w'=>e=ρ (.bool (decide ((n:Int)<=12)))/\eH w w':=by
 go_in
 go_wp2
 go_ret;exact⟨rfl,(au _ _).alloc (Nat.le_refl _) _⟩
theorem GX(a:Option eh)(n cap:Nat)(V:Nat->AV)(E:Nat->List jQ)(most:Int)(w:ew)(h:EL w a n V E)(hm:most<=1000):
 fc fe 16 #[σ a n cap,ι κ most] w λe w'=>(∃b:Bool,e=ρ (.bool b)/\(b=true->(n:Int)<=most/\∀j,j<n->(V j).x.n<=9/\(V j).pn<=12/\(V j).s.size<=200))/\eH w w':=by
 by_cases h0:most<(n:Int)
 ·go_in
  go_wp2
  go_ret;exact⟨⟨false,rfl,λh=>by cases h⟩,au _ _⟩
 go_in
 go_wp2
 go_loopw [5] (λi wr=>∃k:Nat,k<=n/\i=ι κ k/\(∀j,j<k->(V j).x.n<=9/\(V j).pn<=12/\(V j).s.size<=200)/\eH w wr) (λi _=>n-(fh i).toNat)
 case atStart=>exact⟨0,Nat.zero_le _,rfl,λj J=>eB,au _ _⟩
 case round=>
  obtain⟨k,hk,rfl,hA,T⟩:=hrel;have M:Hid _:=hA;clear hA;by_cases kL:k<n
  ·have n9:(k:Int)<(n:Int):=eB;obtain⟨_,_,U,X⟩:=h.opt k kL;rcases h.row with h1|⟨b,off,rfl,hcs⟩
   {omega};have Y:Hid (∀W,eH w W->(V k).at_ W b (off+k*12)):=λW hW=>(hcs k kL).below hW;obtain⟨v,hv⟩:=fq (V k);rw[hv]at Y U X;have A:Hid _:=hv;obtain⟨vk,va,vb,vc,vd,vs,vpc,vpi,vpo,y,Cy,vx⟩:=v;obtain⟨xo,xq,xa,xn,xc⟩:=vx;simp only at U X;obtain⟨c0,c1,c2,c3,c4,c5,c6,c7,c8,c9,Un,Yy⟩:=Y.out wr T;simp only at c5 c6 c7 c8 Yy;have Z:=Dk vpc vpi vpo y Cy wr;unfold maxLen at U X;have D:Hid _:=T;clear hcs hv T c0 c1 c2 c3 c4 c9 Un;by_cases hs:200<(vs.size:Int)
   ·go_wp2
    go_ret;exact⟨⟨false,rfl,λh=>by cases h⟩,D.out⟩
   ·by_cases hp:(y:Int)<=12
    ·rw[cQ hp]at Z;go_wp2_with(fail);refine Z.mono ?_;rintro e w1 ⟨rfl,k1⟩;have kO:=fP D.out k1;obtain⟨_,_,_,_,_,_,_,_,_,_,_,d11⟩:=Y.out w1 kO;simp only at d11;have S:Hid _:=kO;clear Z k1 kO c5 c6 c7 c8 Yy;by_cases h9:9<(xn:Int)
     ·go_wp2
      go_ret;exact⟨⟨false,rfl,λh=>by cases h⟩,S.out⟩
     ·go_wp2
      go_roundw
      case rel=>
       refine⟨k+1,eB,by go_num,λj J=> ?_,S.out⟩;by_cases X5:j=k;{rw[X5,A.out];show xn<=9/\y<=12/\vs.size<=200;omega};{exact M.out j eB}
      case measure=>simp[fh];omega
    ·rw[dh hp]at Z;go_wp2_with(fail);refine Z.mono ?_;rintro e w1 ⟨rfl,k1⟩;have S:Hid _:=fP D.out k1;clear Z k1
     go_wp2
     go_ret;exact⟨⟨false,rfl,λh=>by cases h⟩,S.out⟩
  ·have yc:¬(k:Int)<(n:Int):=eB
   go_wp2
   go_ret
   first|exact⟨.inr ⟨rfl,λj J=>M.out j eB⟩,T⟩|exact⟨⟨true,rfl,λ_=>⟨eB,λj J=>M.out j eB⟩⟩,T⟩|exact⟨.inr ⟨rfl,eB,λj J=>M.out j eB⟩,T⟩
open Go.ChangeMaps Go.MapKept
def zOf:eA->Int
 | .int _ z=>z
 |_=>0
theorem SMap.agD(h:SMap w b n f)(hf:∀k,sd k->(f k).isSome=true->1<=k/\k<=6):SMap w b 6 f:=by
 obtain⟨D,⟨es,clock,hb,F,hs,M⟩,hat⟩:=h.own;refine⟨⟨D,⟨es,clock,hb,F,?_,M⟩,hat⟩⟩;have T:∀x∈es.toList,∃z:Int,x.key=.int .i64 z/\1<=z/\z<=6:=by
  intro x hx;obtain⟨y,hy⟩:=F.reads x hx;have E:=WideElems.rd_key hy;obtain⟨z,U,hl,V⟩:=cE underlying3 E;have J:=Bg V;refine⟨z,U,hf z J ?_⟩;cases e:f z with
  |some _=>rfl
  |none=>
   have S:=hat z J;rw[e]at S;have Y:=dL S;rw[M,Maps.has_eq]at Y;have sy:y∈(es.toList.map (WideElems.rg fe 3 tW)).foldr DataW.insert [] :=(Go.WideShapes.sorted_perm _).mem_iff.2 (bK.2 ⟨x,hx,WideElems.rg_of hy⟩);have:=List.any_eq_false.1 Y y sy;rw[hl]at this;simp[rO]at this
 have X:=((stamped_iff es clock).1 F.stamped).2.2;have hlen:=vv (es.toList.map (λx=>zOf x.key)) [1,2,3,4,5,6] (by
  rw[dy];refine X.imp_of_mem ?_;intro x y hx hy A e;obtain⟨a,Z,_⟩:=T x hx;obtain⟨c,hc,_⟩:=T y hy;rw[Z,hc]at e;simp only[zOf]at e;exact A (by rw[Z,hc,e])) (λz U=>by
  obtain⟨x,hx,rfl⟩:=bK.1 U;obtain⟨a,Z,Y,h2⟩:=T x hx;rw[Z];simp only[zOf];simp;omega)
 simpa using hlen
theorem Tie.range {m:FM} {F:Int->Option PS} (h:Tie w m f F):∀k,sd k->(f k).isSome=true->1<=k/\k<=6:=by
 intro k Z hs;cases e:F k with
 |none=>rw[h.zT Z e]at hs;cases hs
 |some q=>
  obtain⟨s,_,Y⟩:=h.vy Z e;exact(jC Y.ok).1
theorem BR.six {m:FM} {K:Int->Option PS} {O:Nat->Int->Option PS} (h:BR w B m n K O):BR w B m 6 K O:=by
 obtain⟨kn,ow,hF,Y,Z⟩:=h.ex;exact⟨⟨kn,ow,⟨hF.oE,hF.row,hF.km.agD Y.range,λi b e=>(hF.om i b e).agD (Z i (aK.1 e).1).range,hF.few,hF.nB,hF.nd⟩,Y,Z⟩,h.Rl⟩
theorem BR.avoid {m:FM} (h:BR w B m n (λ_=>ν) (λ_ _=>ν))(no:Nat->Prop)(V:∀j,no j->j<w.heap.size):BR w B {m with no:=no} n (λ_=>ν) (λ_ _=>ν):=by
 obtain⟨kn,ow,hF,X,Y⟩:=h.ex;exact⟨⟨kn,ow,⟨hF.oE,hF.row,hF.km,hF.om,hF.few,hF.nB,hF.nd⟩,λk Z=>X k Z,λi hi k Z=>Y i hi k Z⟩,V⟩
def Still(a b:ew):Prop:=∀(j:Nat) (C:Array eA) (t:eE) (fr:Nat×Nat),a.heap[j]? =μ (γ C t fr)->b.heap[j]? =a.heap[j]?
theorem ji.drew {w:ew} {B:Nat} {C:Array eA} {t:eE} (h:ji w B C t):ji w.drew B C t:=h
abbrev ada:=Int×Bool×Int
def Ab(me f s:Int):ada:=if f=me then(0,false,0)else(f,s==me,4)
def jj(p:ada):ada:=if p.2.2<=1 then(0,false,0)else(p.1,p.2.1,p.2.2-1)
theorem EO(w:ew):(zeroValue 116).run fe w=.ok (.agg #[ι κ 0,.bool false,ι κ 0]) w:=ga
theorem Ic(w:ew):(zeroValue 230).run fe w=.ok (.agg #[ι κ 0,ι κ 0]) w:=ga
theorem VE(a c me f s:Int)(b:Bool)(w:ew):fc fe 187 #[.agg #[ι κ a,.bool b,ι κ c],ι κ me,.agg #[ι κ f,ι κ s]] w λe w'=>
 e=ρ (.agg #[ι κ (Ab me f s).1,.bool (Ab me f s).2.1,ι κ (Ab me f s).2.2])/\eH w w':=by
 have hz:=EO;have hb:∀(A B C:Array eA) (t u v:eE),eH w (((w.alloc (γ A t)).alloc (γ B u)).alloc (γ C v)):=λA B C t u v=>((gK _ _).alloc ik _).alloc (by simp;omega) _;cases q:(f==me)
 ·have hv:Ab me f s=(f,s==me,4):=by simp at q;simp[Ab,q]
  rw[hv];clear hv
  go_in
  go_wp2
  refine aE (v:=.agg #[ι κ f,.bool (s==me),ι κ 4]) (by simp[results,results187,go_sem]) rfl ?_;exact⟨rfl,hb _ _ _ _ _ _⟩
 ·have hv:Ab me f s=(0,false,0):=by simp at q;simp[Ab,q]
  rw[hv];clear hv
  go_in
  go_wp2
  refine aE (v:=.agg #[ι κ 0,.bool false,ι κ 0]) (by simp[results,results187,go_sem]) rfl ?_;exact⟨rfl,hb _ _ _ _ _ _⟩
theorem VF(a c:Int)(b:Bool)(w:ew)(hc:0<=c)(TQ:c<=100):fc fe 84 #[.agg #[ι κ a,.bool b,ι κ c]] w λe w'=>
 e=ρ (.agg #[ι κ (jj (a,b,c)).1,.bool (jj (a,b,c)).2.1,ι κ (jj (a,b,c)).2.2])/\eH w w':=by
 have hz:=EO;have hb:∀(A B:Array eA) (t u:eE),eH w ((w.alloc (γ A t)).alloc (γ B u)):=λA B t u=>(gK _ _).alloc ik _;by_cases q:c<=1
 ·have hv:jj (a,b,c)=(0,false,0):=by simp[jj,q]
  rw[hv];clear hv
  go_in
  go_wp2
  refine aE (v:=.agg #[ι κ 0,.bool false,ι κ 0]) (by simp[results,results84,go_sem]) rfl ?_;exact⟨rfl,hb _ _ _ _⟩
 ·have hv:jj (a,b,c)=(a,b,c-1):=by simp[jj,q]
  rw[hv];clear hv
  go_in
  go_wp2
  refine aE (v:=.agg #[ι κ a,.bool b,ι κ (c-1)]) (by simp[results,results84,go_sem]) rfl ?_;exact⟨rfl,hb _ _ _ _⟩
theorem VG(a c me:Int)(b:Bool)(w:ew):fc fe 149 #[.agg #[ι κ a,.bool b,ι κ c],ι κ me] w λe w'=>
 e=ρ (.agg #[ι κ me,ι κ a])/\eH w w':=by
 have hz:=Ic;have hb:∀(A B:Array eA) (t u:eE),eH w ((w.alloc (γ A t)).alloc (γ B u)):=λA B t u=>(gK _ _).alloc ik _
 go_in
 go_wp2
 refine aE (v:=.agg #[ι κ me,ι κ a]) (by simp[results,results149,go_sem]) rfl ?_;exact⟨rfl,hb _ _ _ _⟩
open St (u8 pW)
theorem abh(W:ew)(a b:Int)(Y:0<=a)(X:a<=255)(b0:0<=b)(b1:b<=255):(convert 140 9 (σ (μ ⟨W.heap.size,0,ν⟩) 2 2)).run fe (W.alloc (γ #[.int .u8 a,.int .u8 b] 5))=.ok (.string ⟨#[u8 a,u8 b]⟩) (W.alloc (γ #[.int .u8 a,.int .u8 b] 5)):=by
 have h:Row (W.alloc (γ #[.int .u8 a,.int .u8 b] 5)) 1 (σ (μ ⟨W.heap.size,0,ν⟩) 2 2) 2 (jd [u8 a,u8 b]):=by
  refine Row.made W 1 _ _ (0,0) 2 2 _ rfl rfl (Nat.le_refl _) eF (.inl rfl) ?_;intro j u Z;simp only[jd,eQ,eR,pW a Y X,pW b b0 b1]at Z;simpa using Z
 exact Row.back h 140 9 5 underlying140 underlying5 underlying9
def uQ(f s:Int):Bool:=decide (1<=f)&&decide (f<=6)&&decide (0<=s)&&decide (s<=6)
theorem Oa(f s:Int):∀(Q:Prop),(¬1<=f->uQ f s=false->Q)->(1<=f->¬f<=6->uQ f s=false->Q)->(1<=f->f<=6->¬0<=s->uQ f s=false->Q)->(1<=f->f<=6->0<=s->¬s<=6->uQ f s=false->Q)->(1<=f->f<=6->0<=s->s<=6->uQ f s=true->Q)->Q:=by
 intro Q q1 q2 U T S;by_cases Z:1<=f;{by_cases Y:f<=6;{by_cases X:0<=s;{by_cases V:s<=6;{exact S Z Y X V (by simp[uQ,Z,Y,X,V])};{exact T Z Y X V (by simp[uQ,V])}};{exact U Z Y X (by simp[uQ,X])}};{exact q2 Z Y (by simp[uQ,Y])}};{exact q1 Z (by simp[uQ,Z])}
theorem xP(f s:Int)(w:ew):fc fe 196 #[.agg #[ι κ f,ι κ s]] w λe w'=>e=ρ (.bool (uQ f s))/\eH w w':=by
 refine Oa f s _ ?_ ?_ ?_ ?_ ?_
 all_goals
  intros
  rename_i hv
  rw[hv];clear hv
  go_in
  go_wp2
  go_ret;exact⟨by first|rfl|(simp;omega),gK _ _⟩
theorem Ly(f s:Int)(w:ew)(h1:1<=f)(h2:f<=6)(h3:0<=s)(h4:s<=6)(h:uQ f s=true):fc fe 148 #[.agg #[ι κ f,ι κ s]] w λe w'=>e=ρ (τ #[.string ⟨#[u8 f,u8 s]⟩,η])/\eH w w':=by
 have Y:=xP f s (w.alloc (γ #[ι κ f,ι κ s] 230));rw[h]at Y;have V:=gK w (γ #[ι κ f,ι κ s] 230);have hA:=ji.new w #[ι κ f,ι κ s] 230;have wM:=λW=>abh W f s eB eB eB eB;clear h
 go_in
 go_wp2_with(fail);refine Y.mono ?_;rintro e w1 ⟨rfl,k1⟩;have Z:=hA.below k1;have c0:w1.cell? ⟨w.heap.size,0,ν⟩=μ (ι κ f):=Z.cell 0;have c1:w1.cell? ⟨w.heap.size,1,ν⟩=μ (ι κ s):=Z.cell 1;have l1:w.heap.size<w1.heap.size:=Z.lt;have X:=fP V k1;clear hA Z Y k1
 go_wp2
 go_ret2
 exact⟨rfl,X.alloc X.size _⟩
def kT(l:List UInt8):Int×Int×Nat:=
 if l.length=2/\uQ ((l.getD 0 0).toNat:Int) ((l.getD 1 0).toNat:Int)=true then(((l.getD 0 0).toNat:Int),((l.getD 1 0).toNat:Int),0)else(0,0,4)
theorem Ob(s:ByteArray)(w:ew):fc fe 186 #[.string s] w λe w'=>e=ρ (τ #[.agg #[ι κ (kT s.data.toList).1,ι κ (kT s.data.toList).2.1],jB (kT s.data.toList).2.2])/\eH w w':=by
 have hz:=Ic;have hl:s.data.toList.length=s.size:=ik;by_cases Y:s.size=2
 ·have b0:0<s.size:=eB;have b1:1<s.size:=eB;have z0:(0:Int)<(s.size:Int):=eB;have z1:(1:Int)<(s.size:Int):=eB;have yW:=s[0].toNat_lt;have kO:=s[1].toNat_lt;have g2:((s.size:Int) !=2)=false:=by rw[Y];rfl
  have A:eH w ((w.alloc (γ #[ι κ 0,ι κ 0] 230)).alloc (γ #[ι κ (s[0].toNat:Int),ι κ (s[1].toNat:Int)] 230)).drew:=jK ((gK _ _).alloc ik _);have J:=(ji.new w #[ι κ 0,ι κ 0] 230).below (gK (w.alloc (γ #[ι κ 0,ι κ 0] 230)) (γ #[ι κ (s[0].toNat:Int),ι κ (s[1].toNat:Int)] 230));have E:ji ((w.alloc (γ #[ι κ 0,ι κ 0] 230)).alloc (γ #[ι κ (s[0].toNat:Int),ι κ (s[1].toNat:Int)] 230)) (w.heap.size+1) #[ι κ (s[0].toNat:Int),ι κ (s[1].toNat:Int)] 230:=ji.Gy _ _ _ _ ik;have Z:Hid (kT s.data.toList=if uQ (s[0].toNat:Int) (s[1].toNat:Int)=true then((s[0].toNat:Int),(s[1].toNat:Int),0)else(0,0,4)):=by
   show _=_;unfold kT;rw[oq s 0 b0,oq s 1 b1,hl];simp[Y]
  have HS:Hid _:=Y;clear Y hl
  go_in
  go_wp2
  go_region
  go_wp2_with(fail);obtain⟨M,U⟩:=fq (((w.alloc (γ #[ι κ 0,ι κ 0] 230)).alloc (γ #[ι κ (s[0].toNat:Int),ι κ (s[1].toNat:Int)] 230)).drew);have Gs:ji M w.heap.size #[ι κ 0,ι κ 0] 230:=by rw[<-U];exact J
  have Ep:ji M (w.heap.size+1) #[ι κ (s[0].toNat:Int),ι κ (s[1].toNat:Int)] 230:=by rw[<-U];exact E
  rw[U]at A⊢;clear U J E;generalize s[0].toNat=x at*;generalize s[1].toNat=y at*;refine(xP (x:Int) (y:Int) _).mono ?_;rintro e T ⟨rfl,k2⟩;have X:=Gs.below k2;have h:=Ep.below k2;have r0:T.cell? ⟨w.heap.size,0,ν⟩=μ (ι κ 0):=X.cell 0;have r1:T.cell? ⟨w.heap.size,1,ν⟩=μ (ι κ 0):=X.cell 1;have rf:=X.frozen;have rl:=X.lt;have x0:T.cell? ⟨w.heap.size+1,0,ν⟩=μ (ι κ (x:Int)):=h.cell 0;have x1:T.cell? ⟨w.heap.size+1,1,ν⟩=μ (ι κ (y:Int)):=h.cell 1;have D:=fP A k2;cases V:uQ (x:Int) (y:Int)
  ·have S:Hid (kT s.data.toList=(0,0,4)):=by show _=_;rw[Z.out,af (by simp[V])]
   clear Z V;go_wp2_with(fail);rw[S.out];refine aE (v:=τ #[.agg #[ι κ 0,ι κ 0],.iface 128 (ι κ 4)]) (by simp[results,results186,go_sem,r0,r1]) rfl ?_;exact⟨rfl,(D.setCell (Nat.le_refl _) _).setCell (Nat.le_refl _) _⟩
  ·have S:Hid (kT s.data.toList=((x:Int),(y:Int),0)):=by show _=_;rw[Z.out,ai V]
   clear Z V;go_wp2_with(fail);rw[S.out];refine aE (v:=τ #[.agg #[ι κ (x:Int),ι κ (y:Int)],η]) (by simp[results,results186,go_sem,r0,r1]) rfl ?_;exact⟨rfl,(D.setCell (Nat.le_refl _) _).setCell (Nat.le_refl _) _⟩
 ·have g2:((s.size:Int) !=2)=true:=by rw[dW];omega
  have ng:=gK w (γ #[ι κ 0,ι κ 0] 230);have Z:Hid (kT s.data.toList=(0,0,4)):=by show _=_;unfold kT;rw[hl,af eB]
  clear Y hl
  go_in
  go_wp2_with(fail);rw[Z.out];refine aE (v:=τ #[.agg #[ι κ 0,ι κ 0],.iface 128 (ι κ 4)]) (by simp[results,results186,go_sem]) rfl ?_;exact⟨rfl,ng⟩
namespace Rt
structure lK where
 who:Int
 both:Bool
 left:Int
def nobody:lK:=⟨0,false,0⟩
structure jI where
 m:Int
 L:LS
 rd:kP
 pe:lK
 out:List UInt8
abbrev zD:=Int×Int×List UInt8
structure iW where
 id:Int
 n:Nat
 P:Nat->jI
 K:Int->Option PS
 O:Nat->Int->Option PS
 kx:List zD
 drop:Int
def lF(P:Nat->jI)(i:Nat)(p:jI):Nat->jI:=λx=>if x=i then p else P x
def iW.jh(r:iW)(i:Nat)(p:jI):iW:={r with P:=lF r.P i p}
def jI.put(p:jI)(c:UInt8)(s:List UInt8):jI:=
 if c≠76/\p.L.st≠9 then p else if s.length+1<=60 then {p with out:=p.out++Plain.mb (c::s)}else p
def jI.say(p:jI):List kZ->jI
 |[] =>p
 |q::r=>(if j4 q.1 q.2.1 q.2.2=0 then p.put 76 (mV q.1 q.2.1 q.2.2)else p).say r
def jI.iZ(p:jI)(up:Bool):jI×Nat:=
 let e:=lr p.L (if up then 0 else 1)
 if e.2.2≠0 then(p,e.2.2)else(({p with L:=e.1,rd:=([],false,false)}:jI).say e.2.1,0)
def jq(L:LS):LS×List kZ:=
 if(kI L).st=3 then((lr (lr (kI L) 1).1 0).1,l9 L++(lr (kI L) 1).2.1++(lr (lr (kI L) 1).1 0).2.1)else(kI L,l9 L)
def jI.tick(p:jI):jI:=({p with L:=(jq p.L).1}:jI).say (jq p.L).2
def jI.packet(p:jI)(s:List UInt8):jI:=
 let q:=jk s
 if q.2.2.2=0 then({p with L:=(jW p.L (q.1,q.2.1,q.2.2.1)).1}:jI).say (jW p.L (q.1,q.2.1,q.2.2.1)).2.1 else p
def j1(P:Nat->jI)(n:Int):Nat->Option Nat
 |0=>none
 |k+1=>if(P k).pe.both=true/\(P k).pe.who=n/\(match j1 P n k with|none=>true|some b=>decide ((P k).m<(P b).m))=true then some k else j1 P n k
def jJ(r:iW):List jQ:=(ft 6).filterMap λ(j:Nat)=>(j1 r.P ((j:Int)+1) r.n).map λb=>((j:Int)+1,(r.P b).m)
def y8(K:Int->Option PS)(i:Int):Int:=match K i with|none=>0|some q=>q.1
def Bw(K:Int->Option PS)(i:Int):List jQ:=match K i with|none=>[] |some q=>q.2
def iW.EP(r:iW)(seq:Int)(es:List jQ):iW:={r with K:=wF r.K r.id (seq,es),O:=λi=>wF (r.O i) r.id (seq,es)}
def iW.behind(r:iW)(seq:Int):iW:=if seq<1000000 then r.EP (seq+1) (jJ r)else r
def iW.change(r:iW):iW:=if Bw r.K r.id=jJ r then r else r.behind (y8 r.K r.id)
def iW.meet(r:iW)(i:Nat)(q:lK):iW:=
 let r1:=r.jh i {r.P i with pe:=q}
 if q.who=(r.P i).pe.who/\q.both=(r.P i).pe.both then r1 else
  let r2:=({r1 with O:=λx=>if x=i then λ_=>ν else r1.O x}:iW).change
  if q.both=true then {r2 with O:=λx=>if x=i then qU (r2.O i) r2.K else r2.O x}else r2
def iW.iZ(r:iW)(i:Nat)(up:Bool):iW×Nat:=
 let e:=(r.P i).iZ up
 if e.2≠0 then(r,e.2)else((r.jh i e.1).meet i nobody,0)
def qu(K:Int->Option PS):k8:=λx y=>match K x with|none=>0|some q=>((q.2.find? λe=>e.1==(y:Int)).map (·.2)).getD 0
def lv(r:iW):List HP:=qq (kE (qu r.K)) r.id.toNat
def iW.send(r:iW)(t:zD):iW:=
 if t.1=r.id then {r with kx:=r.kx++ [t] }else
  match (if 1<=t.2.1 then(Bl (lv r) t.1).bind λh=>j1 r.P h.sj r.n else ν)with
  |none=>{r with drop:=r.drop+1}
  |some i=>r.jh i ((r.P i).put 77 (kc t.1::kc (t.2.1-1)::t.2.2))
def ju(me:Int)(f s:Int):lK:=if f=me then nobody else⟨f,decide (s=me),4⟩
def iV(p:lK):lK:=if p.left<=1 then nobody else {p with left:=p.left-1}
def iW.take(r:iW)(i:Nat)(c:UInt8)(s:List UInt8):iW:=
 let r1:=if c=76 then r.jh i ((r.P i).packet s)else r
 if(r1.P i).L.st≠9 then r1.meet i nobody
 else if c=72 then(if(kT s).2.2=0 then r1.meet i (ju r1.id (kT s).1 (kT s).2.1)else r1)
 else if c=83 then
  (let q:=St.iB s
   if q.2.2.2≠0 \/(r1.P i).pe.both=false then r1
   else if q.1=r1.id/\0<newF r1.K q.1 q.2.1 q.2.2.1 then r1.behind q.2.1
   else
    let r2:iW:={r1 with K:=lQ r1.K q.1 q.2.1 q.2.2.1,O:=pw r1.K r1.O i q.1 q.2.1 q.2.2.1}
    if 0<=newF r1.K q.1 q.2.1 q.2.2.1 then r2.jh i ((r2.P i).put 65 (rN q.1 q.2.1 q.2.2.1))else r2)
 else if c=65 then
  (let q:=St.iB s
   if q.2.2.2=0 then {r1 with O:=λx=>if x=i/\0<=newF r1.K q.1 q.2.1 q.2.2.1 then yU (r1.O i) q.1 else r1.O x}else r1)
 else if c=77 then(if 2<=s.length/\s.length<=22 then r1.send (((s.getD 0 0).toNat:Int),((s.getD 1 0).toNat:Int),s.drop 2)else r1)
 else r1
def iW.takes(r:iW)(i:Nat):List (List UInt8)->iW
 |[] =>r
 |t::l=>(match t with|[] =>r|c::s=>r.take i c s).takes i l
def iW.recv(r:iW)(i:Nat)(l:List UInt8):iW:=
 let a:=kN (r.P i).rd l
 (r.jh i {r.P i with rd:=a.2.2}).takes i a.1
def lV(F:Int->Option PS):List (Int×PS):=(ft 6).filterMap λ(j:Nat)=>(F ((j:Int)+1)).map λq=>((j:Int)+1,q)
def jI.kU(p:jI):List (Int×PS)->jI
 |[] =>p
 |q::l=>(p.put 83 (rN q.1 q.2.1 q.2.2)).kU l
def iW.jj(r:iW)(i:Nat):iW:=
 let r1:=r.jh i (r.P i).tick
 if(r1.P i).L.st≠9 then r1.meet i nobody else
  let r2:=r1.meet i (iV (r1.P i).pe)
  let p:=(r2.P i).put 72 [kc r2.id,kc (r2.P i).pe.who]
  r2.jh i (if(r2.P i).pe.both=true then p.kU (lV (r2.O i))else p)
def iW.jn(r:iW):Nat->iW
 |0=>r
 |k+1=>(r.jn k).jj k
def iW.tick(r:iW):iW:=r.jn r.n
def iW.out(r:iW)(i:Nat):iW:=r.jh i {r.P i with out:=[] }
def Ie(id:Int)(m:Nat->Int)(i:Nat):jI:=⟨m i,{Zh (8*id+i+1)with st:=1},([],false,false),nobody,[]⟩
where Zh (g:Int):LS:=⟨255,g,255,g,0,0,0,255,0,0,0⟩
def jZ(id:Int)(n:Nat)(m:Nat->Int):iW:=
 ⟨id,n,Ie id m,λx=>if x=id then μ (1,[])else ν,λ_ x=>if x=id then μ (1,[])else ν,[],0⟩
def kD(r:iW)(t:Int)(tx:List UInt8):iW×Nat:=if t<1 \/6<t \/20<tx.length then(r,1)else(r.send (t,8,tx),0)
end Rt
section
variable {P:Program}
theorem GY(s:ByteArray):(gw (λb:UInt8=>ι gg (b.toNat:Int)) s.data).extract 0 s.size=gw (λb:UInt8=>ι gg (b.toNat:Int)) s.data:=by
 have hs:s.size=(gw (λb:UInt8=>ι gg (b.toNat:Int)) s.data).size:=by rw[dV];rfl
 rw[hs,Array.extract_size]
theorem wP(g:Nat):∀(vs:List eA) (o:Nat) (w:ew),(w.setCells g o vs).heap.size=w.heap.size/\(w.setCells g o vs).os=w.os/\(w.setCells g o vs).tape=w.tape/\(w.setCells g o vs).output=w.output/\∀k,k≠g->(w.setCells g o vs).heap[k]? =w.heap[k]?
 |[],o,w=>⟨rfl,rfl,rfl,rfl,λ_ _=>rfl⟩
 |u::r,o,w=>by
  have h:=wP g r (o+1) (w.setCell ⟨g,o,ν⟩ u);have b1:Below 0 w (w.setCell ⟨g,o,ν⟩ u):=(au 0 w).setCell (Nat.zero_le _) _;exact⟨h.1.trans ik,h.2.1.trans b1.os,h.2.2.1.trans b1.tape,h.2.2.2.1.trans b1.output,λk Z=>(h.2.2.2.2 k Z).trans (aq _ _ _ k Z)⟩
theorem Oc(l:List UInt8):∀u∈jd l,u.oneCell'=true:=by
 intro u Z;obtain⟨b,_,rfl⟩:=bK.1 Z;rfl
theorem Od(s:ByteArray):(gw (λb:UInt8=>ι gg (b.toNat:Int)) s.data).toList=jd s.data.toList:=by simp[jd]
theorem Row.Zi {w:ew} {v:eA} {n:Nat} {xs:List eA} (h:Row w 1 v n xs):v=σ ν 0 0/\n=0/\xs=[] \/ ∃g cap,v=σ (μ ⟨g,0,ν⟩) n cap/\g<w.heap.size/\n<=cap/\cap<=maxLen/\(∀(j:Nat) (u:eA),xs[j]? =μ u->w.cell? ⟨g,j,ν⟩=μ u)/\(∀j,j<cap*1->(w.cell? ⟨g,j,ν⟩).isSome=true/\w.frozen? ⟨g,j,ν⟩=false):=by
 rcases h.2 with⟨Z,Y⟩|⟨g,cap,Z,X,V,U,T,S⟩
 {exact .inl ⟨Z,Y,aJ (by rw[h.1,Y])⟩};{exact .inr ⟨g,cap,Z,X,V,U,T,S⟩}
theorem wQ(w:ew)(t u ty e:eE)(i:TypeInfo)(z:eA)(T:P.underlying t=μ (.slice e))(S:P.underlying u=μ .string)(hi:P.info? e=μ i)(hz:i.zero=μ z)(sE:i.size=1)(wq:i.bytes=1)(Nd:z.cells.size=1)
 (v:eA) (n:Nat) (xs:List eA) (X:Row w 1 v n xs) (s:ByteArray) (hs:s.size<=1000000) (hn:n<=1000000000):
 ∃v' w',(gA #[t,u] ty #[v,.string s]).run P w=.ok v' w'/\Row w' 1 v' (n+s.size) (xs++jd s.data.toList)/\w.grownBy w' v.ownBlock/\(v'.ownBlock=v.ownBlock \/ ∃k,v'.ownBlock=μ k/\w.heap.size<=k):=by
 have hsl:(jd s.data.toList).length=s.size:=by simp[rE]
 have hex:=GY s;rcases X.Zi with⟨rfl,rfl,rfl⟩|⟨g,cap,rfl,hg,uG,Gw,hcell,J⟩
 ·by_cases h0:s.size=0;{have D:s.data.toList=[] :=aJ (by simpa using h0);refine⟨σ ν 0 0,w,?_,by rw[h0,D];exact Row.nil _ _,⟨rfl,rfl,rfl,Nat.le_refl _,λ_ _ _=>rfl⟩,.inl rfl⟩;simp[gA,gD T,gD S,sizeOf,typeInfo,hi,gE,gF,h0]}
  ·have U:=run_append_nil_string (P:=P) (w:=w) t u ty e i z T S hi hz s eB eB (by rw[wq];omega);have yc:=grownCap_ge w s.size 0 e;refine⟨_,_,U,?_,⟨rfl,rfl,rfl,ik,λk Y _=>aV w.drew _ k Y⟩,.inr ⟨_,rfl,Nat.le_refl _⟩⟩;simp only[Nat.zero_add,gG];refine Row.made w.drew 1 e _ (0,0) s.size _ _ (by rw[hsl,Nat.mul_one]) ?_ yc (dr _ _ _ _ (by unfold maxLen;omega)) (.inl rfl) (λj x Z=> ?_);{rw[dB,size_zeroCells,Nd,dV];have:s.data.size=s.size:=rfl;omega}
   ·have V:j<s.size:=by rw[<-hsl];exact(aK.1 Z).1
    rw[cU (by rw[dV];exact V),<-Z,<-Od s,Array.getElem?_toList]
 ·by_cases U:n+s.size<=cap
  ·have M:∀j,j<(jd s.data.toList).length->(w.cell? ⟨g,0+n*1+j,ν⟩).isSome=true/\w.frozen? ⟨g,0+n*1+j,ν⟩=false:=λj Z=>J _ eB;have kC:=gq (P:=P) g (0+n*1) (jd s.data.toList) 0 w (λj Z=>by rw[Nat.add_zero];exact(M j Z).1) (λj Z=>by rw[Nat.add_zero];exact(M j Z).2) (Oc _);have B:=wP g (jd s.data.toList) (0+n*1) w;refine⟨σ (μ ⟨g,0,ν⟩) (n+s.size) cap,w.setCells g (0+n*1) (jd s.data.toList),?_,⟨by rw[aA,X.1,hsl];omega,.inr ⟨g,cap,rfl,by rw[B.1];exact hg,U,Gw,λj x hx=> ?_,λj Z=> ?_⟩⟩,⟨B.2.1,B.2.2.1,B.2.2.2.1,by rw[B.1];exact Nat.le_refl _,λk _ Y=>B.2.2.2.2 k (λe=>Y (by simp[eD,e]))⟩,.inl rfl⟩
   ·simp[gA,gD T,gD S,sizeOf,typeInfo,hi,sE,gE,gF,U,hex,add_plain];have E:(gp ⟨g,n,ν⟩ (jd s.data.toList)).run P w=.ok () (w.setCells g n (jd s.data.toList)):=by simpa using kC
    have e8:List.map (λb:UInt8=>ι gg (b.toNat:Int)) s.data.toList=jd s.data.toList:=rfl;rw[e8,E];rfl
   ·rcases Nat.lt_or_ge j xs.length with Z|Z
    ·rw[bH Z]at hx;rw[bE g _ _ _ _ (λ_ _=>.inl (by show j<0+n*1;have:=X.1;omega))];exact hcell j x hx
    ·rw[bB Z]at hx;have V:j-xs.length<(jd s.data.toList).length:=(aK.1 hx).1;have:=bO g (jd s.data.toList) (0+n*1) w (λk Y=>(M k Y).1) (j-xs.length) V;have e1:0+n*1+(j-xs.length)=j:=by have:=X.1;omega
     rw[e1]at this;rw[this,<-hx,aw V]
   ·rw[bY];refine⟨?_,(J j Z).2⟩;by_cases hq:n*1<=j/\j<n*1+(jd s.data.toList).length;{have:=bO g (jd s.data.toList) (0+n*1) w (λk Y=>(M k Y).1) (j-n*1) eB;have e1:0+n*1+(j-n*1)=j:=eB;rw[e1]at this;rw[this];rfl};{rw[bE g _ _ _ _ (λ_ _=>by show j<0+n*1 \/0+n*1+(jd s.data.toList).length<=j;omega)];exact(J j Z).1}
  ·have PY:¬n+s.size<=cap:=U;have A:¬(9223372036854775807<((n:Int)+(s.size:Int))):=eB;have hcc:cap<n+s.size:=eB;have hnx:gH (n+s.size) cap<=281474976710656:=by have:=nextslicecap_le hcc;omega
   have y:¬(281474976710656<gH (n+s.size) cap*i.bytes):=by rw[wq];omega
   have rj:=gJ (P:=P) (w:=w.drew) ⟨g,0,ν⟩ xs (λj x Z=>by rw[add_plain];exact hcell j x Z);have h:(loadCells ⟨g,0,ν⟩ (n*i.size)).run P w.drew=.ok xs.toArray w.drew:=by
    rw[sE,<-X.1];exact rj
   have yc:=grownCap_ge w (n+s.size) cap e;refine⟨σ (μ ⟨w.heap.size,0,ν⟩) (n+s.size) (grownCap w (n+s.size) cap e),w.drew.alloc (γ (xs.toArray++(jd s.data.toList).toArray++Builtin.zeroCells z.cells (grownCap w (n+s.size) cap e-(n+s.size))) e),?_,?_,⟨rfl,rfl,rfl,ik,λk Y _=>aV w.drew _ k Y⟩,.inr ⟨_,rfl,Nat.le_refl _⟩⟩;{simp[gA,gD T,gD S,sizeOf,typeInfo,zeroValue,hi,hz,gE,PY,A,y,Question.forced,newRow,grownCap,gF,hex,h];congr 2;apply Array.ext';simp[jd]}
   ·refine Row.made w.drew 1 e _ (0,0) (n+s.size) _ _ (by rw[aA,X.1,hsl];omega) ?_ yc (dr _ _ _ _ (by unfold maxLen;omega)) (.inl rfl) (λj x Z=> ?_)
    ·rw[dB,dB,size_zeroCells,Nd];have h1:xs.toArray.size=n:=by simpa using X.1
     have h2:(jd s.data.toList).toArray.size=s.size:=by simpa using hsl
     rw[h1,h2];omega
    ·have V:j<(xs++jd s.data.toList).length:=(aK.1 Z).1;rw[cU (by simpa using V),List.append_toArray,List.getElem?_toArray];exact Z
theorem ub(w:ew) {ops:Array Oper} {rest:List Oper} {o:Oper} {a:Act} {Q:Exit->Act->ew->Prop} (Z:o.guard=ν)(sl x:Operand)(t u:eE)
 (M:o.op=.call {callee:=.builtin .append,args:= #[sl,x],argTypes:= #[t,u] })
 (e:eE) (i:TypeInfo) (z:eA) (E:P.underlying t=μ (.slice e)) (D:P.underlying u=μ .string) (hi:P.info? e=μ i) (A:i.zero=μ z) (sE:i.size=1) (wq:i.bytes=1) (Y:z.cells.size=1)
 (v:eA) (n:Nat) (xs:List eA) (hs:a.eval sl=v) (y:Row w 1 v n xs) (s:ByteArray) (hx:a.eval x=.string s) (hsl:s.size<=1000000) (S:n<=1000000000)
 (h:∀v' w',Row w' 1 v' (n+s.size) (xs++jd s.data.toList)->w.grownBy w' v.ownBlock->(v'.ownBlock=v.ownBlock \/ ∃k,v'.ownBlock=μ k/\w.heap.size<=k)->wpList P ops Q rest (a.put o.dst v') w'):wpList P ops Q (o::rest) a w:=by
 refine wpList_plain Z λK T=> ?_;obtain⟨v',w',J,X,V,U⟩:=wQ (P:=P) w t u o.type e i z E D hi A sE wq Y v n xs y s hsl S;unfold Oper.wp execOp;simp only[M,resolve,invoke,builtin,fT,Sem.run_pure,eO,List.map_toArray,eQ,eR,hs,hx,J];exact T _ _ (h v' w' X V U)
end
namespace Rt
variable {B g o:Nat} {v:Value} {w w':World}
def xQ(p:jI)(B:Nat)(v:eA)(F:Nat->eA):Nat->eA:=λj=>
 if j=0 then .int .i64 p.m else if j=1 then π (μ ⟨B,0,ν⟩)else if j<67 then F (j-2)else if j=67 then .int .i64 p.pe.who else if j=68 then .bool p.pe.both else if j=69 then .int .i64 p.pe.left else v
structure qW(w:ew)(g o B:Nat)(v:eA)(p:jI):Prop where
 xR:∃F,qR w g o 71 (xQ p B v F)/\DH F p.rd.1 p.rd.2.1 p.rd.2.2
 lk:Lk w B (p.L.c (σ ν 0 0))
 ou:Row w 1 v p.out.length (jd p.out)
 few:p.out.length<=1000000000
 ok:AY p.L
 gB:g≠B
 vg:v.ownBlock≠μ g
 vB:v.ownBlock≠μ B
 nz:g≠0/\B≠0/\v.ownBlock≠μ 0
theorem qW.c0 {p:jI} (h:qW w g o B v p):w.cell? ⟨g,o,ν⟩=μ (ι κ p.m):=by obtain⟨F,hC,_⟩:=h.xR;exact hC.cell 0 eF
theorem qW.c1 {p:jI} (h:qW w g o B v p):w.cell? ⟨g,o+1,ν⟩=μ (π (μ ⟨B,0,ν⟩)):=by obtain⟨F,hC,_⟩:=h.xR;exact hC.cell 1 eF
theorem qW.c67 {p:jI} (h:qW w g o B v p):w.cell? ⟨g,o+67,ν⟩=μ (ι κ p.pe.who):=by obtain⟨F,hC,_⟩:=h.xR;exact hC.cell 67 eF
theorem qW.c68 {p:jI} (h:qW w g o B v p):w.cell? ⟨g,o+68,ν⟩=μ (.bool p.pe.both):=by obtain⟨F,hC,_⟩:=h.xR;exact hC.cell 68 eF
theorem qW.c69 {p:jI} (h:qW w g o B v p):w.cell? ⟨g,o+69,ν⟩=μ (.int .i64 p.pe.left):=by obtain⟨F,hC,_⟩:=h.xR;exact hC.cell 69 eF
theorem qW.c70 {p:jI} (h:qW w g o B v p):w.cell? ⟨g,o+70,ν⟩=μ v:=by obtain⟨F,hC,_⟩:=h.xR;exact hC.cell 70 eF
theorem qW.fz {w:ew} {g o B:Nat} {v:eA} {p:jI} (h:qW w g o B v p):∀j,j<71->w.frozen? ⟨g,o+j,ν⟩=false:=by obtain⟨F,hC,_⟩:=h.xR;exact λj Z=>hC.fz j Z
theorem qW.lt {w:ew} {g o B:Nat} {v:eA} {p:jI} (h:qW w g o B v p):g<w.heap.size:=by obtain⟨F,hC,_⟩:=h.xR;exact hC.lt eF
theorem qW.below {w w':ew} {g o B:Nat} {v:eA} {p:jI} (h:qW w g o B v p)(hb:eH w w'):qW w' g o B v p:=by
 obtain⟨F,hC,Z⟩:=h.xR;exact⟨⟨F,hC.below eF hb,Z⟩,h.lk.below hb,h.ou.below hb,h.few,h.ok,h.gB,h.vg,h.vB,h.nz⟩
structure oe(w w':ew)(g o B:Nat)(v:eA):Prop where
 os:w'.os=w.os
 tape:w'.tape=w.tape
 output:w'.output=w.output
 size:w.heap.size<=w'.heap.size
 block:∀i,i<w.heap.size->i≠g->i≠B->v.ownBlock≠μ i->w'.heap[i]? =w.heap[i]?
 cell:∀j,j<o \/o+71<=j->w'.cell? ⟨g,j,ν⟩=w.cell? ⟨g,j,ν⟩
 fz:∀j,w'.frozen? ⟨g,j,ν⟩=w.frozen? ⟨g,j,ν⟩
theorem oe.refl(w:ew)(g o B:Nat)(v:eA):oe w w g o B v:=⟨rfl,rfl,rfl,Nat.le_refl _,λ_ _ _ _ _=>rfl,λ_ _=>rfl,λ_=>rfl⟩
theorem oe.jg(o B:Nat)(v:eA)(h:eH w w')(Z:g<w.heap.size):oe w w' g o B v:=
 ⟨h.os,h.tape,h.output,h.size,λi hi _ _ _=>h.block i hi,λj _=>aj (a:=⟨g,j,ν⟩) (h.block g Z),λj=>aL (a:=⟨g,j,ν⟩) (h.block g Z)⟩
theorem oe.trans {a b c:ew} {g o B:Nat} {v v':eA} (h:oe a b g o B v)(k:oe b c g o B v')(hv:∀i,v'.ownBlock=μ i->v.ownBlock=μ i \/a.heap.size<=i):oe a c g o B v:=
 ⟨k.os.trans h.os,k.tape.trans h.tape,k.output.trans h.output,Nat.le_trans h.size k.size,λi hi Y X V=>(k.block i (Nat.lt_of_lt_of_le hi h.size) Y X (λe=>by
  rcases hv i e with Z|Z
  ·exact V Z
  ·omega)).trans (h.block i hi Y X V),λj U=>(k.cell j U).trans (h.cell j U),λj=>(k.fz j).trans (h.fz j)⟩
theorem za(g o B:Nat)(v:eA)(p:jI)(w:ew)(h:qW w g o B v p):
 fc fe 83 #[π (μ ⟨g,o,ν⟩)] w λe w'=>e=ρ (.bool (p.L.st==9))/\w=w':=by
 have c1:=h.c1;have hl:=h.lt;have hs:=Hn B _ p.L _ [] w (r8.rest h.lk);clear h
 go_in
 go_wp2_with(fail);refine hs.mono ?_;rintro e w1 ⟨rfl,rfl⟩;clear hs
 go_wp2
 go_ret;exact⟨rfl,rfl⟩
theorem VH:(fe.info? 5).map (λi=>(i.zero,i.size,i.bytes))=μ (μ (.int .u8 0),1,1):=ga
theorem PZ(p:jI)(B:Nat)(v v':eA)(F:Nat->eA)(l:List UInt8):∀j,j<71->tR (xQ p B v F) 70 v' j=xQ {p with out:=l} B v' F j:=by
 intro j hj;by_cases e:j=70;{subst e;rw[qt];rfl};{rw[jV _ _ e];unfold xQ;by_cases Z:j=0;{simp[Z]};{by_cases Y:j=1;{simp[Y]};{by_cases X:j<67;{simp[Z,Y,X]};{by_cases V:j=67;{simp[V]};{by_cases U:j=68;{simp[U]};{have T:j=69:=eB;simp[T]}}}}}}
theorem qW.grow {W x:ew} {p:jI} (h:qW w g o B v p)(hb:eH w W)(X:W.grownBy x v.ownBlock)(v':eA)(l:List UInt8)(A:Row x 1 v' (p.out++l).length (jd (p.out++l)))(D:(p.out++l).length<=1000000000)(y:v'.ownBlock=v.ownBlock \/ ∃k,v'.ownBlock=μ k/\W.heap.size<=k):
 qW (x.setCell ⟨g,o+70,ν⟩ v') g o B v' {p with out:=p.out++l} /\oe w (x.setCell ⟨g,o+70,ν⟩ v') g o B v/\(∀i,v'.ownBlock=μ i->v.ownBlock=μ i \/w.heap.size<=i):=by
 have hW:=h.below hb;have Y:∀i,i<w.heap.size->v.ownBlock≠μ i->x.heap[i]? =w.heap[i]? :=λi hi hv=>(X.block i (Nat.lt_of_lt_of_le hi hb.size) (λe=>hv e.symm)).trans (hb.block i hi);have hv:∀i,v'.ownBlock=μ i->v.ownBlock=μ i \/w.heap.size<=i:=λi e=>by
  rcases y with Z|⟨k,Z,e2⟩
  ·exact .inl (by rw[<-Z];exact e)
  ·rw[e]at Z;have:i=k:=by simpa using Z
   have:=hb.size;exact .inr eB
 have V:v'.ownBlock≠μ g:=λe=>by
  rcases hv g e with Z|Z
  {exact h.vg Z};{have:=h.lt;omega}
 have T:v'.ownBlock≠μ B:=λe=>by
  rcases hv B e with Z|Z
  {exact h.vB Z};{have:=h.lk.lt;omega}
 obtain⟨F,hC,J⟩:=h.xR;have U:qR x g o 71 (xQ p B v F):=hC.keep (Y g h.lt h.vg);refine⟨⟨⟨F,(U.set 70 eF v').congr (PZ p B v v' F _),J⟩,?_,?_,D,h.ok,h.gB,V,T,h.nz.1,h.nz.2.1,λe=>by
  rcases hv 0 e with Z|Z
  ·exact h.nz.2.2 Z
  ·have:=h.lt;omega⟩,⟨?_,?_,?_,?_,?_,?_,?_⟩,hv⟩
 {exact h.lk.keep ((aq _ _ _ B (λe=>h.gB e.symm)).trans (Y B h.lk.lt h.vB))};{exact A.keep ik (λk E=>aq _ _ _ k (λe=>V (by rw[E];exact congrArg μ e)))};{exact((au 0 x).setCell (Nat.zero_le _) _).os.trans (X.os.trans hb.os)};{exact((au 0 x).setCell (Nat.zero_le _) _).tape.trans (X.tape.trans hb.tape)};{exact((au 0 x).setCell (Nat.zero_le _) _).output.trans (X.output.trans hb.output)};{exact Nat.le_trans hb.size (Nat.le_trans X.size ik)};{exact λi hi S _ M=>(aq _ _ _ i S).trans (Y i hi M)};{exact λj hj=>(aW _ _ _ _ (λe=>by have:=congrArg gj e;simp at this;omega)).trans (aj (a:=⟨g,j,ν⟩) (Y g h.lt h.vg))};{exact λj=>(mT _ _ _ _).trans (aL (a:=⟨g,j,ν⟩) (Y g h.lt h.vg))}
structure mc(w w':ew)(g o B:Nat)(v:eA)(p:jI):Prop where
 ex:∃v',qW w' g o B v' p/\(∀i,v'.ownBlock=μ i->v.ownBlock=μ i \/w.heap.size<=i)
 kept:oe w w' g o B v
theorem mc.still {p:jI} (h:qW w g o B v p)(hb:eH w w'):mc w w' g o B v p:=⟨⟨v,h.below hb,λ_ e=>.inl e⟩,oe.jg o B v hb h.lt⟩
theorem mc.trans {a b c:ew} {g o B:Nat} {v v':eA} {p:jI} (X:oe a b g o B v)(hv:∀i,v'.ownBlock=μ i->v.ownBlock=μ i \/a.heap.size<=i)(V:mc b c g o B v' p):mc a c g o B v p:=by
 obtain⟨⟨v2,T,Y⟩,U⟩:=V;refine⟨⟨v2,T,λi e=> ?_⟩,X.trans U hv⟩;rcases Y i e with Z|Z
 {exact hv i Z};{exact .inr (Nat.le_trans X.size Z)}
theorem zb(l:List UInt8)(h:l.length<=60):(Plain.mb l).length<=126:=by
 have:=RM l;omega
theorem DJ(g o B:Nat)(v:eA)(p:jI)(T s:ByteArray)(c:UInt8)(w:ew)(h:qW w g o B v p)(hT:T.data.toList=[c])(hs:s.size<=1000)(hn:p.out.length<=900000000):
 fc fe 150 #[π (μ ⟨g,o,ν⟩),.string T,.string s] w λe w'=>e=ρ (τ #[])/\mc w w' g o B v (p.put c s.data.toList):=by
 obtain⟨i0,hi,oN,nG,mS⟩:=aX VH;have hop:=za g o B v p w h;have hTs:T.size=1:=by have:=congrArg List.length hT;simpa using this
 have U:T.toList=[c] :=by rw[dm];exact hT
 have Nq:(T++s).size=s.size+1:=by rw[ByteArray.size_append,hTs];omega
 have Y:(T++s).data.toList=c::s.data.toList:=by rw[ByteArray.data_append];simp[hT]
 have hsl:s.data.toList.length=s.size:=ik;have c70:=h.c70;have f70:=h.fz 70 eF;have hl:=h.lt;have HP:Hid _:=h;have lL:∀W:ew,eH w W->jI.put p c s.data.toList=p->mc w W g o B v (p.put c s.data.toList):=λW hW e=>by rw[e];exact mc.still HP.out hW
 have A:Hid _:=lL;clear lL;have main:(c=76 \/p.L.st=9)->Hid (s.size+1<=60->p.put c s.data.toList={p with out:=p.out++Plain.mb (c::s.data.toList)})/\Hid (¬s.size+1<=60->p.put c s.data.toList=p):=λhc=>by
  have j9:¬(c≠76/\p.L.st≠9):=λ⟨a,b⟩=>by rcases hc with e|e<;>contradiction
  refine⟨λh1=> ?_,λh1=> ?_⟩;{unfold jI.put;rw[af j9,ai (by rw[hsl];exact h1)]};{unfold jI.put;rw[af j9,af (by rw[hsl];exact h1)]}
 by_cases M:c=76
 ·have q:(T.toList==[76])=true:=by rw[U,M];rfl
  obtain⟨E,D⟩:=main (.inl M);clear main U hop h;by_cases V:s.size+1<=60
  ·have Z:=Lp (T++s) w eB;rw[Y]at Z;have xM:=zb (c::s.data.toList) (by simp;omega);have E1:Hid _:=E.out V;obtain⟨L,hL⟩:=fq (Plain.mb (c::s.data.toList));rw[hL]at Z xM E1;clear E D Y hL
   go_in
   go_wp2_with(fail);refine Z.mono ?_;rintro e w1 ⟨rfl,b1⟩;have X:=HP.out.below b1;have y:=X.c70;have e70:=X.fz 70 eF;have dl:=X.lt;have MZ:=X.ou;have HV:Hid (v.ownBlock≠μ g):=X.vg;clear Z c70 f70;go_wp2_with(at_builtin;go_must(refine ub _ rfl (.tmp 28) (.tmp 29) 140 9 rfl 5 i0 (.int .u8 0) underlying140 underlying9 hi oN nG mS rfl v p.out.length (jd p.out) rfl MZ ⟨L.toArray⟩ rfl (by show L.toArray.size<=1000000;simp;omega) eB ?_));intro v' x hr J jA;have Zk:∃a' n' c',v'=σ a' n' c':=by
    rcases hr.2 with⟨e,_⟩|⟨g',c',e,_⟩
    {exact⟨_,_,_,e⟩};{exact⟨_,_,_,e⟩}
   obtain⟨a',n',c',rfl⟩:=Zk;have Yd:Row x 1 (σ a' n' c') (p.out++L).length (jd (p.out++L)):=by
    rw[aA,l5];exact hr
   obtain⟨G1,G2,G3⟩:=qW.grow HP.out b1 J (σ a' n' c') L Yd (by rw[aA];omega) jA;have y70:x.cell? ⟨g,o+70,ν⟩=μ v:=(aj (a:=⟨g,o+70,ν⟩) (J.block g dl (λe=>HV.out e.symm))).trans y;have z70:x.frozen? ⟨g,o+70,ν⟩=false:=(aL (a:=⟨g,o+70,ν⟩) (J.block g dl (λe=>HV.out e.symm))).trans e70;have xl:g<x.heap.size:=ag x _ y70;have S:Hid (mc w (x.setCell ⟨g,o+70,ν⟩ (σ a' n' c')) g o B v (p.put c s.data.toList)):=by
    show mc _ _ _ _ _ _ _;rw[E1.out];exact⟨⟨_,G1,G3⟩,G2⟩
   clear G1 G2 G3 hr Yd J jA MZ X
   go_wp2
   first|go_end0|refine iX rfl rfl ?_
   exact⟨rfl,S.out⟩
  ·have Z:=PU (T++s) w eB (by unfold maxLen;omega);have S:Hid (mc w w g o B v (p.put c s.data.toList)):=A.out w (au _ _) (D.out V);clear E D Y
   go_in
   go_wp2_with(fail);refine Z.mono ?_;rintro e w1 ⟨rfl,rfl⟩;clear Z
   go_wp2
   first|go_end0|refine iX rfl rfl ?_
   exact⟨rfl,S.out⟩
 ·have q:(T.toList==[76])=false:=by
   rw[U,cz];intro e;exact M (by simpa using e)
  cases h9:(p.L.st==9)
  ·have kC:p.L.st≠9:=by simpa using h9
   have S:Hid (mc w w g o B v (p.put c s.data.toList)):=A.out w (au _ _) (by unfold jI.put;rw[ai ⟨M,kC⟩]);rw[h9]at hop;clear main U h Y
   go_in
   go_wp2_with(fail);refine hop.mono ?_;rintro e w1 ⟨rfl,rfl⟩;clear hop
   go_wp2
   first|go_end0|refine iX rfl rfl ?_
   exact⟨rfl,S.out⟩
  ·have kC:p.L.st=9:=by simpa using h9
   obtain⟨E,D⟩:=main (.inr kC);rw[h9]at hop;clear main U h kC;by_cases V:s.size+1<=60
   ·have Z:=Lp (T++s) w eB;rw[Y]at Z;have xM:=zb (c::s.data.toList) (by simp;omega);have E1:Hid _:=E.out V;obtain⟨L,hL⟩:=fq (Plain.mb (c::s.data.toList));rw[hL]at Z xM E1;clear E D Y hL
    go_in
    go_wp2_with(fail);refine hop.mono ?_;rintro e w1 ⟨rfl,rfl⟩;clear hop;go_wp2_with(fail);refine Z.mono ?_;rintro e w1 ⟨rfl,b1⟩;have X:=HP.out.below b1;have y:=X.c70;have e70:=X.fz 70 eF;have dl:=X.lt;have MZ:=X.ou;have HV:Hid (v.ownBlock≠μ g):=X.vg;clear Z c70 f70;go_wp2_with(at_builtin;go_must(refine ub _ rfl (.tmp 28) (.tmp 29) 140 9 rfl 5 i0 (.int .u8 0) underlying140 underlying9 hi oN nG mS rfl v p.out.length (jd p.out) rfl MZ ⟨L.toArray⟩ rfl (by show L.toArray.size<=1000000;simp;omega) eB ?_));intro v' x hr J jA;have Zk:∃a' n' c',v'=σ a' n' c':=by
     rcases hr.2 with⟨e,_⟩|⟨g',c',e,_⟩
     {exact⟨_,_,_,e⟩};{exact⟨_,_,_,e⟩}
    obtain⟨a',n',c',rfl⟩:=Zk;have Yd:Row x 1 (σ a' n' c') (p.out++L).length (jd (p.out++L)):=by
     rw[aA,l5];exact hr
    obtain⟨G1,G2,G3⟩:=qW.grow HP.out b1 J (σ a' n' c') L Yd (by rw[aA];omega) jA;have y70:x.cell? ⟨g,o+70,ν⟩=μ v:=(aj (a:=⟨g,o+70,ν⟩) (J.block g dl (λe=>HV.out e.symm))).trans y;have z70:x.frozen? ⟨g,o+70,ν⟩=false:=(aL (a:=⟨g,o+70,ν⟩) (J.block g dl (λe=>HV.out e.symm))).trans e70;have xl:g<x.heap.size:=ag x _ y70;have S:Hid (mc w (x.setCell ⟨g,o+70,ν⟩ (σ a' n' c')) g o B v (p.put c s.data.toList)):=by
     show mc _ _ _ _ _ _ _;rw[E1.out];exact⟨⟨_,G1,G3⟩,G2⟩
    clear G1 G2 G3 hr Yd J jA MZ X
    go_wp2
    first|go_end0|refine iX rfl rfl ?_
    exact⟨rfl,S.out⟩
   ·have Z:=PU (T++s) w eB (by unfold maxLen;omega);have S:Hid (mc w w g o B v (p.put c s.data.toList)):=A.out w (au _ _) (D.out V);clear E D Y
    go_in
    go_wp2_with(fail);refine hop.mono ?_;rintro e w1 ⟨rfl,rfl⟩;clear hop;go_wp2_with(fail);refine Z.mono ?_;rintro e w1 ⟨rfl,rfl⟩;clear Z
    go_wp2
    first|go_end0|refine iX rfl rfl ?_
    exact⟨rfl,S.out⟩
end Rt
theorem P2:∀(ps:List PV) (j:Nat) (p:PV),ps[j]? =μ p->(QT ps)[j*3]? =μ (ι κ p.code)/\(QT ps)[j*3+1]? =μ (ι κ p.id)/\(QT ps)[j*3+2]? =μ p.val
 |[],j,p,h=>by simp at h
 |q::r,0,p,h=>by
  have:q=p:=by simpa using h
  subst this;exact⟨rfl,rfl,rfl⟩
 |q::r,j+1,p,h=>by
  have Z:r[j]? =μ p:=by simpa using h
  obtain⟨a,b,c⟩:=P2 r j p Z;have e:QT (q::r)=ι κ q.code::ι κ q.id::q.val::QT r:=rfl;rw[e,show(j+1)*3=j*3+1+1+1 by omega,show j*3+1+1+1+1=(j*3+1)+1+1+1 by omega,show j*3+1+1+1+2=(j*3+2)+1+1+1 by omega];simp only[List.getElem?_cons_succ];exact⟨a,b,c⟩
structure adf(w:ew)(v:eA)(ps:List PV):Prop where
 row:Row w 3 v ps.length (QT ps)
 opt:∀p∈ps,jm w p.a p.n p.os/\p.n<=1000
theorem adf.shape {w:ew} {v:eA} {ps:List PV} (h:adf w v ps):∃(a:Option eh) (c:Nat),v=σ a ps.length c/\∀j p,ps[j]? =μ p->∃g,a=μ ⟨g,0,ν⟩/\w.cell? ⟨g,0+j*3,ν⟩=μ (ι κ p.code)/\w.cell? ⟨g,0+j*3+1,ν⟩=μ (ι κ p.id)/\w.cell? ⟨g,0+j*3+2,ν⟩=μ (σ p.a p.n p.cap):=by
 rcases h.row.2 with⟨Z,X⟩|⟨g,c,Z,hg,uG,Gw,hcell,_⟩
 {refine⟨ν,0,by rw[X,Z],λj p Y=> ?_⟩;have:=(aK.1 Y).1;omega};{refine⟨_,c,Z,λj p Y=>⟨g,rfl,?_⟩⟩;obtain⟨a,b,d⟩:=P2 ps j p Y;rw[Nat.zero_add];exact⟨hcell _ _ a,hcell _ _ b,hcell _ _ d⟩}
namespace Rt
variable {B g o:Nat} {v:Value} {w w1:World}
def wR(p:jI)(q:kZ):jI:=if j4 q.1 q.2.1 q.2.2=0 then p.put 76 (mV q.1 q.2.1 q.2.2)else p
theorem ER:∀(l:List kZ) (p:jI) (q:kZ),p.say (l++ [q])=wR (p.say l) q
 |[],_,_=>rfl
 |x::l,p,q=>by
  show(wR p x).say (l++ [q])=wR ((wR p x).say l) q;exact ER l (wR p x) q
theorem xS(p:jI)(c:UInt8)(s:List UInt8):(p.put c s).out.length<=p.out.length+126:=by
 unfold jI.put;split;{omega}
 ·split
  ·rename_i h
   have:=zb (c::s) (by simpa using h);simp only[eV];omega
  ·omega
theorem VI(p:jI)(q:kZ):(wR p q).out.length<=p.out.length+126:=by
 unfold wR;split;{exact xS _ _ _};{omega}
theorem Ac:∀(l:List kZ) (p:jI),(p.say l).out.length<=p.out.length+126*l.length
 |[],p=>by simp[jI.say]
 |x::l,p=>by
  have h1:=Ac l (wR p x);have h2:=VI p x;have e:p.say (x::l)=(wR p x).say l:=rfl;rw[e,cS];omega
structure PtQ(w:ew)(g o B:Nat)(v:eA)(p:jI)(X:Nat->Prop)(vl:eA)(qs:List PV):Prop where
 xR:∃F,qR w g o 71 (xQ p B v F)/\DH F p.rd.1 p.rd.2.1 p.rd.2.2
 rep:r8 w B X p.L vl qs
 ou:Row w 1 v p.out.length (jd p.out)
 few:p.out.length<=1000000000
 ok:AY p.L
 gB:g≠B
 vg:v.ownBlock≠μ g
 vB:v.ownBlock≠μ B
 nz:g≠0/\B≠0/\v.ownBlock≠μ 0
 xg:X g
 xv:∀k,v.ownBlock=μ k->X k
theorem RO {code id:Int} {os:List jQ} (h:j4 code id os=0):(mV code id os).length<=100:=by
 have h8:os.length<=8:=by
  unfold j4 at h;split at h;{simp at h};{split at h;{simp at h};{omega}}
 have:=sM os;simp only[mV,eW];omega
theorem VJ(g o B:Nat)(v:eA)(p:jI)(X:Nat->Prop)(vl:eA)(qs:List PV)(w:ew)(h:PtQ w g o B v p X vl qs)(hq:qs.length<=40)(hn:p.out.length<=800000000):
 fc fe 123 #[π (μ ⟨g,o,ν⟩)] w λe w'=>e=ρ (τ #[])/\mc w w' g o B v (p.say (qs.map PV.abs)):=by
 have vW:=YD B X p.L vl qs w h.rep;have c1:w.cell? ⟨g,o+1,ν⟩=μ (π (μ ⟨B,0,ν⟩)):=by obtain⟨F,hC,_⟩:=h.xR;exact hC.cell 1 eF
 have GU:g<w.heap.size:=by obtain⟨F,hC,_⟩:=h.xR;exact hC.lt eF
 have Z:Hid _:=h;clear h
 go_in
 go_wp2_with(fail);refine vW.mono ?_;rintro e w1 ⟨rfl,hR,jf,JH,T⟩;have hP1:qW w1 g o B v p:=by
  obtain⟨F,hC,hF⟩:=Z.out.xR;have hkv:∀k,v.ownBlock=μ k->w1.heap[k]? =w.heap[k]? :=λk J=>T.block k (Z.out.ou.lt k J) (λe=>Z.out.vB (by rw[J,e])) ik;exact⟨⟨F,hC.keep (T.block g GU Z.out.gB ik),hF⟩,hR.lk,Z.out.ou.keep T.size hkv,Z.out.few,Z.out.ok,Z.out.gB,Z.out.vg,Z.out.vB,Z.out.nz⟩
 have XY:oe w w1 g o B v:=⟨T.os,T.tape,T.output,T.size,λi hi _ h2 _=>T.block i hi h2 ik,λj _=>aj (a:=⟨g,j,ν⟩) (T.block g GU Z.out.gB ik),λj=>aL (a:=⟨g,j,ν⟩) (T.block g GU Z.out.gB ik)⟩
 have hPk:∀W:ew,oe w1 W g o B v->adf W vl qs:=λW kW=>by
  refine⟨jf.keep kW.size (λk J=>kW.block k (jf.lt k J) (λY=>Z.out.rep.own k J (by rw[Y];exact Z.out.xg)) (λY=>Z.out.rep.own k J (by rw[Y];exact Z.out.rep.self)) (λY=>Z.out.rep.own k J (Z.out.xv k Y))),λq Hm=>⟨(JH q Hm).opt.Pk (λk J=> ?_),(JH q Hm).few⟩⟩;obtain⟨f1,_,f3⟩:=(JH q Hm).far k J;exact kW.block k f3 (λY=>f1 (by rw[Y];exact Z.out.xg)) (λY=>f1 (by rw[Y];exact Z.out.rep.self)) (λY=>f1 (Z.out.xv k Y))
 have hle:∀q∈qs,q.n<=q.cap:=λq Hm=>(JH q Hm).le;have Jd:g<w1.heap.size:=hP1.lt;obtain⟨a,ca,rfl,_⟩:=(hPk w1 (oe.refl _ _ _ _ _)).shape;obtain⟨n,pQ⟩:=fq (qs.length);have H1:Hid _:=hP1;have HK1:Hid _:=XY;have HPk:Hid _:=hPk;have HLe:Hid _:=hle;have HN:Hid _:=pQ;rw[pQ]at hq;rw[pQ];clear vW hR jf JH T hP1 XY hPk hle pQ c1
 go_wp2
 go_loopw [12] (λi wr=>∃(k:Nat) (A:eA),k<=n/\i=ι κ k/\qW wr g o B A (p.say ((qs.map PV.abs).take k))/\oe w1 wr g o B v/\(∀i,A.ownBlock=μ i->v.ownBlock=μ i \/w1.heap.size<=i)) (λi _=>n-(fh i).toNat)
 case atStart=>exact⟨0,v,Nat.zero_le _,rfl,H1.out,oe.refl _ _ _ _ _,λ_ e=>.inl e⟩
 case round=>
  obtain⟨k,A,J,rfl,hP,S,D⟩:=hrel;by_cases kL:k<n
  ·have n9:(k:Int)<(n:Int):=eB;have GF:(0:Int)<=(k:Int):=eB;have lk:k<qs.length:=by have:=HN.out;omega
   have PK:=HPk.out wr S;obtain⟨a',ca',Y,f1⟩:=PK.shape;obtain⟨g1,ea,x0,x1,x2⟩:=f1 k qs[k] (aw lk);have e1':a=a':=by simpa using(bQ Y).1
   rw[ea]at e1';subst e1';have ho:=PK.opt qs[k] (aF lk);have DE:=HLe.out qs[k] (aF lk);have Zl:Hid ((qs.map PV.abs).take (k+1)=(qs.map PV.abs).take k++ [qs[k].abs]):=by
    show _=_;rw[az (by simpa using lk)];simp
   generalize qs[k] =q at x0 x1 x2 ho DE Zl;obtain⟨V,U,qa,qn,Zm,M⟩:=q;simp only at x0 x1 x2 ho DE;have z0:wr.cell? ⟨g1,k*3,ν⟩=μ (ι κ V):=by rw[Nat.zero_add]at x0;exact x0
   have z1:wr.cell? ⟨g1,k*3+1,ν⟩=μ (ι κ U):=by rw[Nat.zero_add]at x1;exact x1
   have z2:wr.cell? ⟨g1,k*3+2,ν⟩=μ (σ qa qn Zm):=by rw[Nat.zero_add]at x2;exact x2
   have hln:(p.say ((qs.map PV.abs).take k)).out.length<=900000000:=by
    have h1:=Ac ((qs.map PV.abs).take k) p;have h2:((qs.map PV.abs).take k).length<=k:=cB _ _;omega
   have ba:=gK wr (γ #[ι κ V,ι κ U,σ qa qn Zm] 37);have HP:Hid _:=hP;have HKk:Hid _:=S;have E:Hid _:=D;clear PK f1 Y ea x0 x1 x2 hP S D;by_cases hf:j4 V U M=0
   ·have y:=JE V U qa qn Zm M _ DE (ho.1.below ba) hf;have DK:=RO hf;have E1:Hid (p.say ((qs.map PV.abs).take (k+1))=(p.say ((qs.map PV.abs).take k)).put 76 (mV V U M)):=by
     show _=_;rw[Zl.out,ER];show wR _ (V,U,M)=_;unfold wR;rw[ai hf]
    clear hf ho;obtain⟨L,hL⟩:=fq (mV V U M);rw[hL]at y DK E1;clear hL;go_wp2_with(fail);refine y.mono ?_;rintro e w3 ⟨rfl,b3⟩;have k3:=fP ba b3;have oH:=DJ g o B A (p.say ((qs.map PV.abs).take k)) ⟨#[76]⟩ ⟨L.toArray⟩ 76 w3 (HP.out.below k3) rfl (by show L.toArray.size<=1000;simp;omega) hln;have eL:(⟨L.toArray⟩:ByteArray).data.toList=L:=ik;rw[eL]at oH;clear y b3;go_wp2_with(fail);refine oH.mono ?_;rintro e w4 ⟨rfl,hW⟩;have nK:mc w1 w4 g o B v (p.say ((qs.map PV.abs).take (k+1))):=by
     rw[E1.out];exact mc.trans (HKk.out.trans (oe.jg o B A k3 HP.out.lt) E.out) E.out hW
    have HW:Hid _:=nK;clear oH hW nK k3 ba
    go_wp2
    go_roundw
    case rel=>
     obtain⟨⟨v5,h5,h6⟩,h7⟩:=HW.out;exact⟨k+1,v5,eB,by go_num,h5,h7,h6⟩
    case measure=>simp[fh];omega
   ·have y:=Lu V U qa qn Zm M _ eB DE (ho.1.below ba) hf;have ee:jB (j4 V U M)=.iface 128 (ι κ (j4 V U M:Int)):=by simp only[jB];rw[af hf]
    rw[ee]at y;have E1:Hid (p.say ((qs.map PV.abs).take (k+1))=p.say ((qs.map PV.abs).take k)):=by
     show _=_;rw[Zl.out,ER];show wR _ (V,U,M)=_;unfold wR;rw[af hf]
    clear hf ho ee;generalize j4 V U M=f at y;go_wp2_with(fail);refine y.mono ?_;rintro e w3 ⟨rfl,b3⟩;have Ez:Hid _:=fP ba b3;clear y b3 ba
    go_wp2
    go_roundw
    case rel=>exact⟨k+1,A,eB,by go_num,by rw[E1.out];exact HP.out.below Ez.out,HKk.out.trans (oe.jg o B A Ez.out HP.out.lt) E.out,E.out⟩
    case measure=>simp[fh];omega
  ·have yc:¬(k:Int)<(n:Int):=eB;have HE:Hid (mc w wr g o B v (p.say (qs.map PV.abs))):=by
    have Y:(qs.map PV.abs).take k=qs.map PV.abs:=aH (by have:=HN.out;simp;omega);rw[Y]at hP;exact mc.trans HK1.out (λ_ e=>.inl e) ⟨⟨A,hP,D⟩,S⟩
   clear hP S D
   go_wp2
   first|go_end0|refine iX rfl rfl ?_
   exact⟨rfl,HE.out⟩
structure Cz(w w1:ew)(g o B:Nat)(v:eA)(p:jI)(out:List kZ):Prop where
 ex:∃vl qs,PtQ w1 g o B v p (λk=>k<w.heap.size) vl qs/\qs.map PV.abs=out
 kept:oe w w1 g o B v
theorem qW.begin {p:jI} (h:qW w g o B v p):Cz w w g o B v p [] :=
 ⟨⟨σ ν 0 0,[],⟨h.xR,r8.rest h.lk,h.ou,h.few,h.ok,h.gB,h.vg,h.vB,h.nz,h.lt,λk Z=>h.ou.lt k Z⟩,rfl⟩,oe.refl _ _ _ _ _⟩
theorem Cz.tab {p:jI} {out:List kZ} (h:Cz w w1 g o B v p out)(Y:jt w):jt w1:=λe s X hs=>by
 obtain⟨vl,qs,Z,_⟩:=h.ex;exact(aj (a:=⟨0,e*10+s,ν⟩) (h.kept.block 0 Y.lt (λe=>Z.nz.1 e.symm) (λe=>Z.nz.2.1 e.symm) Z.nz.2.2)).trans (Y e s X hs)
theorem Cz.went {w2:ew} {p:jI} {out agJ:List kZ} {vl:eA} {qs:List PV} {s':LS} (Z:PtQ w1 g o B v p (λk=>k<w.heap.size) vl qs)(h:qs.map PV.abs=out)(Y:oe w w1 g o B v)
 (A:nR w1 w2 B (λk=>k<w.heap.size) s' vl qs agJ) (jb:AY s'):Cz w w2 g o B v {p with L:=s'} (out++agJ):=by
 obtain⟨⟨v2,q2,D,S,hv2⟩,V⟩:=A;obtain⟨F,hC,hF⟩:=Z.xR;have hlg:g<w1.heap.size:=hC.lt eF;have jy:∀i,vl.ownBlock=μ i->¬i<w.heap.size:=λi e=>Z.rep.own i e;have hb:∀i,i<w.heap.size->i≠B->w2.heap[i]? =w1.heap[i]? :=λi hi E=>V.block i (Nat.lt_of_lt_of_le hi Y.size) E (λe=>jy i e hi);have X:w2.heap[g]? =w1.heap[g]? :=hb g Z.xg Z.gB;refine⟨⟨v2,qs++q2,⟨⟨F,hC.keep X,hF⟩,D,Z.ou.keep V.size (λk T=>hb k (Z.xv k T) (λe=>Z.vB (by rw[T,e]))),Z.few,jb,Z.gB,Z.vg,Z.vB,Z.nz,Z.xg,Z.xv⟩,by rw[cW,h,S]⟩,?_⟩;exact⟨V.os.trans Y.os,V.tape.trans Y.tape,V.output.trans Y.output,Nat.le_trans Y.size V.size,λi hi M U J=>(hb i hi U).trans (Y.block i hi M U J),λj y=>(aj (a:=⟨g,j,ν⟩) X).trans (Y.cell j y),λj=>(aL (a:=⟨g,j,ν⟩) X).trans (Y.fz j)⟩
theorem Cz.say {w w1:ew} {g o B:Nat} {v:eA} {p:jI} {out:List kZ} (h:Cz w w1 g o B v p out)(V:out.length<=40)(X:p.out.length<=800000000):
 fc fe 123 #[π (μ ⟨g,o,ν⟩)] w1 λe w'=>e=ρ (τ #[])/\mc w w' g o B v (p.say out):=by
 obtain⟨U,qs,Z,rfl⟩:=h.ex;refine(VJ g o B v p _ U qs w1 Z (by simpa using V) X).mono ?_;rintro e w' ⟨rfl,Y⟩;exact⟨rfl,mc.trans h.kept (λ_ e=>.inl e) Y⟩
theorem Cz.do_ {p:jI} {out:List kZ} (h:Cz w w1 g o B v p out)(V:jt w)(hq:out.length<=40)(ev:Int):
 fc fe 120 #[π (μ ⟨B,0,ν⟩),ι κ ev] w1 λe w'=>e=ρ (jB (lr p.L ev).2.2)/\Cz w w' g o B v {p with L:=(lr p.L ev).1} (out++(lr p.L ev).2.1):=by
 have X:=h.tab V;obtain⟨T,qs,Z,Y⟩:=h.ex;have hl:qs.length=out.length:=by rw[<-Y];simp
 refine(acx ev B _ p.L T qs w1 X Z.rep Z.ok.bd eB).mono ?_;rintro e w' ⟨rfl,U⟩;exact⟨rfl,Cz.went Z Y h.kept U (Z.ok.lr ev)⟩
theorem Cz.tick {w:ew} {g o B:Nat} {v:eA} {p:jI} (h:qW w g o B v p)(X:jt w):
 fc fe 147 #[π (μ ⟨B,0,ν⟩)] w λe w'=>e=ρ (τ #[])/\Cz w w' g o B v {p with L:=kI p.L} (l9 p.L):=by
 have hw:=h.ok.wt;have hb:=h.begin;obtain⟨V,qs,Z,T⟩:=hb.ex;have S:qs=[] :=by simpa using T
 subst S;have Y:V.ownBlock≠μ 0:=λe=>Z.rep.own 0 e X.lt;refine(Us B _ p.L V [] w X h.nz.2.1 Y Z.rep h.ok.bd ik eB eB).mono ?_;rintro e w' ⟨rfl,U⟩;refine⟨rfl,?_⟩;have:=Cz.went Z rfl hb.kept U h.ok.tick;simpa using this
theorem Cz.state {p:jI} {out:List kZ} (h:Cz w w1 g o B v p out):
 fc fe 114 #[π (μ ⟨B,0,ν⟩)] w1 λe w'=>e=ρ (ι κ p.L.st)/\w1=w':=by
 obtain⟨Y,qs,Z,ho⟩:=h.ex;exact Hn B _ p.L Y qs w1 Z.rep
theorem Cz.ptr {p:jI} {out:List kZ} (h:Cz w w1 g o B v p out):w1.cell? ⟨g,o+1,ν⟩=μ (π (μ ⟨B,0,ν⟩))/\g<w1.heap.size:=by
 obtain⟨vl,qs,Z,ho⟩:=h.ex;obtain⟨F,hC,hF⟩:=Z.xR;exact⟨hC.cell 1 eF,hC.lt eF⟩
end Rt
theorem r8.far {w w':ew} {B M:Nat} {X:Nat->Prop} {s:LS} {v:eA} {ps:List PV} (h:r8 w B X s v ps)(k:Kept w w' M ν)(U:X M)(E:B≠M):r8 w' B X s v ps:=by
 have hb:∀j,j<w.heap.size->j≠M->w'.heap[j]? =w.heap[j]? :=λj Z S=>k.block j Z S ik;refine⟨h.lk.keep (hb B h.lk.lt E),h.row.keep k.size (λj Z=>hb j (h.row.lt j Z) (λe=>h.own j Z (by rw[e];exact U))),h.own,h.self,λj Z=>Nat.lt_of_lt_of_le (h.old j Z) k.size,λp J=> ?_⟩;obtain⟨o,z,l,f,fr⟩:=h.pk p J;exact⟨o.Pk (λj Z=>by obtain⟨Y,_,V⟩:=fr j Z;exact hb j V (λe=>Y (by rw[e];exact U))),z,l,f,λj Z=>by obtain⟨Y,T,V⟩:=fr j Z;exact⟨Y,T,Nat.lt_of_lt_of_le V k.size⟩⟩
theorem ES:∀(L:List UInt8) (s:LS) (a:kZ),(yI L s a).length<=L.length
 |[],_,_=>Nat.le_refl _
 |c::r,s,a=>by
  have e:yI (c::r) s a=Gz c s a++yI r (qB c s) a:=rfl;have h1:=ES r (qB c s) a;have h2:=KI c s a;rw[e,aA,cS];omega
theorem ud(s:LS)(ev:Int)(a:kZ):(tO s ev a).2.1.length<=4:=by
 by_cases hf:(jv s.st ev).2.2=0;{rw[uo _ hf];have h1:=ES (jv s.st ev).1 (s.next (jv s.st ev).2.1) a;have h2:=A8 s.st ev;show(qk s ev a).length<=4;unfold qk;omega};{rw[wB _ hf];simp}
theorem Ad(s:LS)(ev:Int):(lr s ev).2.1.length<=4:=by
 unfold lr;split;{exact ud _ _ _};{simp}
theorem Ig(s:LS):(l9 s).length<=4:=by
 have hc:∀(s:LS) (ev:Int),(qk s ev (0,0,[])).length<=4:=λs ev=>by
  have h1:=ES (jv s.st ev).1 (s.next (jv s.st ev).2.1) (0,0,[]);have h2:=A8 s.st ev;unfold qk;omega
 unfold l9;split;{simp};{split;{simp};{split;{exact hc _ _};{exact hc _ _}}}
theorem Ih(s:LS)(p:kZ):(jW s p).2.1.length<=4:=by
 unfold jW;split;{simp};{split;{unfold uK;split;{split;{exact ud _ _ _};{exact ud _ _ _}};{exact ud _ _ _}};{split;{exact ud _ _ _};{split;{exact ud _ _ _};{unfold ur;split;{simp};{split;{split;{simp};{exact ud _ _ _}};{exact ud _ _ _}}}}}}
namespace Rt
variable {B g o:Nat} {v:Value} {w w1:World}
theorem Ii(L:LS):(jq L).2.length<=12:=by
 unfold jq;have h1:=Ig L;have h2:=Ad (kI L) 1;have h3:=Ad (lr (kI L) 1).1 0;split;{simp only[eV];omega};{simp only;omega}
theorem RP(g o B:Nat)(v:eA)(p:jI)(w:ew)(h:qW w g o B v p)(M:jt w)(hn:p.out.length<=800000000):
 fc fe 82 #[π (μ ⟨g,o,ν⟩)] w λe w'=>e=ρ (τ #[])/\mc w w' g o B v p.tick:=by
 have y:=Cz.tick h M;have c1:=h.c1;have hl:=h.lt;have hlen:=Ii p.L;clear h
 go_in
 go_wp2_with(fail);refine y.mono ?_;rintro e w1 ⟨rfl,V⟩;have kC:=V.state;obtain⟨d1,dl⟩:=V.ptr;clear y c1 hl;go_wp2_with(fail);refine kC.mono ?_;rintro e w2 ⟨rfl,rfl⟩;clear kC;cases A:((kI p.L).st==3)
 ·have U:(kI p.L).st≠3:=by simpa using A
  have Z:jq p.L=(kI p.L,l9 p.L):=by unfold jq;rw[af U]
  have X:p.tick=({p with L:=kI p.L}:jI).say (l9 p.L):=by unfold jI.tick;rw[Z]
  rw[Z]at hlen;have hs:=V.say (by simp only at hlen;omega) hn;rw[<-X]at hs;have E:Hid _:=X;clear Z X U V;go_wp2_with(fail);refine hs.mono ?_;rintro e w3 ⟨rfl,J⟩;clear hs
  go_wp2
  first|go_end0|refine iX rfl rfl ?_
  exact⟨rfl,J⟩
 ·have U:(kI p.L).st=3:=by simpa using A
  have l1:=Ig p.L;have l2:=Ad (kI p.L) 1;have S:=V.do_ M eB 1;have Z:jq p.L=((lr (lr (kI p.L) 1).1 0).1,l9 p.L++(lr (kI p.L) 1).2.1++(lr (lr (kI p.L) 1).1 0).2.1):=by unfold jq;rw[ai U]
  have X:p.tick=({p with L:=(lr (lr (kI p.L) 1).1 0).1}:jI).say (l9 p.L++(lr (kI p.L) 1).2.1++(lr (lr (kI p.L) 1).1 0).2.1):=by unfold jI.tick;rw[Z]
  rw[Z]at hlen;have E:Hid _:=X;clear Z X U V;go_wp2_with(fail);refine S.mono ?_;rintro e w3 ⟨rfl,Y⟩;have D:=Y.do_ M (by simp only[eV];omega) 0;obtain⟨f1,fl⟩:=Y.ptr;clear S Y;go_wp2_with(fail);refine D.mono ?_;rintro e w4 ⟨rfl,T⟩;have hs:=T.say (Nat.le_trans (show _<=12 from hlen) eF) hn;clear D T;go_wp2_with(fail);refine hs.mono ?_;rintro e w5 ⟨rfl,J⟩;clear hs
  go_wp2
  first|go_end0|refine iX rfl rfl ?_
  refine⟨rfl,?_⟩;rw[E.out];exact J
theorem adg(ev:Int)(T:ev=0 \/ev=1)(B:Nat)(X:Nat->Prop)(s:LS)(v:eA)(ps:List PV)(w:ew)(V:jt w)(h:r8 w B X s v ps)(hf:(lr s ev).2.2≠0):
 fc fe 120 #[π (μ ⟨B,0,ν⟩),ι κ ev] w λe w'=>e=ρ (.iface 128 (ι κ ((lr s ev).2.2:Int)))/\eH w w':=by
 have hz:=tg;have ed:lr s ev=tO s ev (0,0,[]):=by unfold lr;rw[ai eB]
 rw[ed]at hf⊢;have Z:(jv s.st ev).2.2≠0:=λe=>hf (by rw[uo _ e]);rw[wB _ Z];obtain⟨D,nx,f,Y⟩:∃D nx f,jv s.st ev=(D,nx,f):=⟨_,_,_,rfl⟩
 rw[Y]at Z⊢;have hc:=Pq B X s v ps ⟨0,0,ν,0,0,[]⟩ ev D nx f w V h Y Z;clear h V Y Z hf ed;rcases T with rfl|rfl
 all_goals
  go_in
  go_wp2_with(fail);refine hc.mono ?_;rintro e w1 ⟨rfl,U⟩;clear hc
  go_wp2
  go_ret;exact⟨rfl,U⟩
theorem VK(p:jI)(B:Nat)(v:eA)(F G:Nat->eA)(r:kP):∀j,j<71->(if 2<=j/\j<2+65 then G (j-2)else xQ p B v F j)=xQ {p with rd:=r} B v G j:=by
 intro j hj;by_cases e:2<=j/\j<2+65;{rw[ai e];unfold xQ;rw[af eB,af eB,ai eB]};{rw[af e];unfold xQ;by_cases Z:j=0;{simp[Z]};{by_cases Y:j=1;{simp[Y]};{have X:¬j<67:=eB;simp[Z,Y,X]}}}
theorem Cz.read {w2:ew} {p:jI} {out:List kZ} (h:Cz w w1 g o B v p out)(r:kP)(J:Rd w2 g (o+2) r.1 r.2.1 r.2.2)(Y:lJ w1 w2 g (o+2) 65):Cz w w2 g o B v {p with rd:=r} out:=by
 obtain⟨D,qs,Z,M⟩:=h.ex;obtain⟨F,hC,hF⟩:=Z.xR;obtain⟨G,S,X⟩:=J;have V:Kept w1 w2 g ν:=⟨Y.os,Y.tape,Y.output,Y.size,λi hi E _=>Y.block i hi E⟩
 have hl:=hC.lt eF;refine⟨⟨D,qs,⟨⟨G,(hC.join Y S).congr (VK p B v F G r),X⟩,Z.rep.far V Z.xg (λe=>Z.gB e.symm),Z.ou.keep Y.size (λk U=>Y.block k (Z.ou.lt k U) (λe=>Z.vg (by rw[U,e]))),Z.few,Z.ok,Z.gB,Z.vg,Z.vB,Z.nz,Z.xg,Z.xv⟩,M⟩,?_⟩;refine h.kept.trans (v':=v) ⟨Y.os,Y.tape,Y.output,Y.size,λi hi T _ _=>Y.block i hi T,λj hj=>Y.cell j eB,Y.fz⟩ (λ_ e=>.inl e)
theorem Cz.rdC {p:jI} {out:List kZ} (h:Cz w w1 g o B v p out):∃F,qR w1 g (o+2) 65 F/\DH F p.rd.1 p.rd.2.1 p.rd.2.2:=by
 obtain⟨vl,qs,Z,ho⟩:=h.ex;obtain⟨F,hC,hF⟩:=Z.xR;refine⟨F,(hC.sub 2 65 eF).congr (λj hj=> ?_),hF⟩;unfold xQ;rw[af eB,af eB,ai eB,show 2+j-2=j by omega]
theorem RQ(up:Bool)(g o B:Nat)(v:eA)(p:jI)(w:ew)(h:qW w g o B v p)(U:jt w)(M:p.out.length<=800000000):
 fc fe 73 #[π (μ ⟨g,o,ν⟩),.bool up] w λe w'=>e=ρ (jB (p.iZ up).2)/\mc w w' g o B v (p.iZ up).1:=by
 obtain⟨ev,Z⟩:∃ev:Int,(if up=true then(0:Int)else 1)=ev:=⟨_,rfl⟩
 have V:ev=0 \/ev=1:=by rw[<-Z];cases up<;>simp
 have c1:=h.c1;have hl:=h.lt;by_cases hf:(lr p.L ev).2.2=0
 ·have Y:p.iZ up=(({p with L:=(lr p.L ev).1,rd:=([],false,false)}:jI).say (lr p.L ev).2.1,0):=by
   unfold jI.iZ;rw[Z];simp only;rw[af (by simpa using hf)]
  rw[Y];have hd:=h.begin.do_ U ik ev;rw[hf]at hd;have T:jB 0=η:=rfl;rw[T]at hd⊢;have hlen:=Ad p.L ev;have hz:=Vw.1;have hZ:=Aa;have HE:Hid _:=Y;clear Y hf h;cases up
  all_goals
   simp only[if_true,if_false,Bool.false_eq_true]at Z;subst Z
   go_in
   go_wp2_with(fail);refine hd.mono ?_;rintro e w1 ⟨rfl,X⟩;obtain⟨F,hC,hF⟩:=X.rdC;obtain⟨k1,k2,k3⟩:=EF hC;have hs:=(X.read ([],false,false) ⟨N5,k2,DH.zero⟩ k3).say (by simp only[gG];omega) M;obtain⟨d1,dl⟩:=X.ptr;have dl2:g<(w1.setCells g (o+2) Ia.toList).heap.size:=Nat.lt_of_lt_of_le dl k3.size;clear hd X hC hF k2 k3;go_wp2_with(fail);refine hs.mono ?_;rintro e w3 ⟨rfl,S⟩;clear hs
   go_wp2
   go_ret;exact⟨rfl,S⟩
 ·have Y:p.iZ up=(p,(lr p.L ev).2.2):=by
   unfold jI.iZ;rw[Z];simp only;rw[ai hf]
  rw[Y];have hd:=adg ev V B _ p.L _ [] w U (r8.rest h.lk) hf;have ee:jB (lr p.L ev).2.2=.iface 128 (ι κ ((lr p.L ev).2.2:Int)):=by simp only[jB];rw[af hf]
  simp only;rw[ee];have HP:Hid _:=h;clear Y hf h ee;generalize (lr p.L ev).2.2=f at hd⊢;cases up
  all_goals
   simp only[if_true,if_false,Bool.false_eq_true]at Z;subst Z
   go_in
   go_wp2_with(fail);refine hd.mono ?_;rintro e w1 ⟨rfl,hb⟩;clear hd
   go_wp2
   go_ret;exact⟨rfl,mc.still HP.out hb⟩
end Rt
theorem VL:(fe.info? 5).map (λi=>(i.zero,i.size,i.bytes))=μ (μ (.int .u8 0),1,1):=ga
def stH(own seq:Int):List UInt8:=[St.u8 own,St.u8 (seq%256),St.u8 (seq/256%256),St.u8 (seq/65536)]
theorem Zq(own seq:Int):(stH own seq).length=4:=rfl
theorem VM(w:ew)(own seq:Int)(p1:1<=own)(p2:own<=6)(p3:1<=seq)(p4:seq<=1000000):Row (w.alloc (γ #[.int .u8 own,.int .u8 (seq%256),.int .u8 (seq/256%256),.int .u8 (seq/65536)] 5)) 1 (σ (μ ⟨w.heap.size,0,ν⟩) 4 4) 4 (jd [St.u8 own,St.u8 (seq%256),St.u8 (seq/256%256),St.u8 (seq/65536)]):=by
 refine Row.made w 1 _ _ (0,0) 4 4 _ rfl rfl (Nat.le_refl _) eF (.inl rfl) ?_;intro j u Z;simp only[jd,eQ,eR,pW own eB eB,pW (seq%256) eB eB,pW (seq/256%256) eB eB,pW (seq/65536) eB eB]at Z;simpa using Z
theorem Oe(own seq:Int)(a:Option eh)(n cap:Nat)(os:List jQ)(w:ew)(M:jm w a n os)(hf:oK own seq os=0):
 fc fe 198 #[.agg #[ι κ own,ι κ seq,σ a n cap]] w λe w'=>e=ρ (τ #[.string ⟨(rN own seq os).toArray⟩,η])/\eH w w':=by
 obtain⟨i0,hi,oN,nG,mS⟩:=aX VL;obtain⟨⟨p1,p2⟩,⟨p3,p4⟩,p5,p6⟩:=jC hf;have oa:=pI own os 0 p6;have hl:=M.1;have A:=gK w (γ #[ι κ own,ι κ seq,σ a n cap] 40);have J:=yQ own seq a n cap os _ eB (M.below A);have e0:jB 0=η:=rfl;rw[hf,e0]at J;clear e0 p6 hf
 go_in
 go_wp2_with(fail);refine J.mono ?_;rintro e w1 ⟨rfl,D⟩;obtain⟨q0,q1,q2,hz⟩:=acz D;have wi:=fP A D;clear D J A;go_wp2_with(fail);have uN:Row (w1.alloc (γ #[.int .u8 own,.int .u8 (seq%256),.int .u8 (seq/256%256),.int .u8 (seq/65536)] 5)) 1 (σ (μ ⟨w1.heap.size,0,ν⟩) 4 4) 4 (jd [St.u8 own,St.u8 (seq%256),St.u8 (seq/256%256),St.u8 (seq/65536)]):=VM w1 own seq p1 p2 p3 p4;have yW:eH w (w1.alloc (γ #[.int .u8 own,.int .u8 (seq%256),.int .u8 (seq/256%256),.int .u8 (seq/65536)] 5)):=wi.alloc wi.size _
 go_loopw [5,31] (λv i wr=>∃(k g cp:Nat) (E:List UInt8),E=stH own seq++MU (os.take k)/\k<=n/\i=ι κ k/\v=σ (μ ⟨g,0,ν⟩) E.length cp/\Row wr 1 v E.length (jd E)/\
  w.heap.size<=g/\eH w wr)
  (λ_ i _=>n-(fh i).toNat)
 case atStart=>exact⟨0,w1.heap.size,4,_,rfl,Nat.zero_le _,rfl,rfl,uN,wi.size,yW⟩
 case round=>
  obtain⟨k,g,cp,E,S,hk,rfl,rfl,U,Ky,X⟩:=hrel;have PT:E.length<=19:=by
   have h1:=yN (os.take k);have h2:(os.take k).length<=6:=by simp;omega
   rw[S,aA,Zq];omega
  have HE:Hid _:=S;have HL:Hid _:=hl;clear S uN yW hl;have m2:E.length+2<=maxLen:=by unfold maxLen;omega
  have b2:(E.length+2)*1<=140737488355328:=eB;by_cases kL:k<n
  ·have AW:=M.below X;rcases AW.2 with h0|⟨b,off,rfl,hc⟩
   ·omega
   have rj:k<os.length:=by rw[HL.out];exact kL
   obtain⟨c1,c2⟩:=hc k rj;obtain⟨⟨y,o1b⟩,⟨o2a,o2b⟩⟩:=oa os[k] (aF _);have HT:Hid (os.take (k+1)=os.take k++ [os[k]]):=az rj;generalize os[k] =o at c1 c2 HT y o1b o2a o2b;clear hc AW;have n9:(k:Int)<(n:Int):=eB;have Y:eH w (wr.alloc (γ #[ι κ o.1,ι κ o.2] 123)):=X.alloc X.size _;have Z:Row (wr.alloc (γ #[ι κ o.1,ι κ o.2] 123)) 1 (σ (μ ⟨g,0,ν⟩) E.length cp) E.length (jd E):=U.alloc _;go_wp2_with(at_builtin;go_must(refine iU _ rfl (.tmp 35) (.tmp 42) 140 rfl 5 i0 (.int .u8 0) 1 1 underlying140 hi oN nG mS rfl eF _ E.length (jd E) rfl (Z.alloc _) _ 2 2 [.int .u8 o.1,.int .u8 o.2] rfl rfl eF ?hcc (l8 _ _ _ _) m2 b2 ?_))
   case hcc=>
    have:=qj (wr.alloc (γ #[ι κ o.1,ι κ o.2] 123)) (.int .u8 o.1) (.int .u8 o.2) 5;simpa using this
   intro V cap2 w2 sH tE lp;have tC:μ g=μ V \/(wr.alloc (γ #[ι κ o.1,ι κ o.2] 123)).heap.size+1<=V:=by
    rcases lp with h|h
    {exact .inl h};{exact .inr (by simp;omega)}
   have R:=Hf tE tC Ky Y;have tu:Row w2 1 (σ (μ ⟨V,0,ν⟩) (E.length+2) cap2) (E++ [St.u8 o.1,St.u8 o.2]).length (jd (E++ [St.u8 o.1,St.u8 o.2])):=by
    rw[l5,aA];simp only[jd,eQ,eR,pW o.1 (show 0<=o.1 by omega) (show o.1<=255 by omega),pW o.2 (show 0<=o.2 by omega) (show o.2<=255 by omega)];exact sH
   have HN:Hid (E++ [St.u8 o.1,St.u8 o.2] =stH own seq++MU (os.take (k+1))):=by
    show E++ [St.u8 o.1,St.u8 o.2] =_;rw[HE.out,HT.out,Uz,aD]
   have T:Hid ((E++ [St.u8 o.1,St.u8 o.2]).length=E.length+2):=by show(E++ [St.u8 o.1,St.u8 o.2]).length=E.length+2;simp
   clear sH tE lp tC U X Y Z
   go_wp2
   go_roundw
   case rel=>exact⟨k+1,V,cap2,_,HN.out,eB,by go_num,by rw[T.out],tu,R.1,R.2⟩
   case measure=>simp[fh];omega
  ·have aa7:(convert 140 9 (σ (μ ⟨g,0,ν⟩) E.length cp)).run fe wr=.ok (.string ⟨E.toArray⟩) wr:=Row.back U 140 9 5 underlying140 underlying5 underlying9;have HF:Hid (rN own seq os=E):=by
    show rN own seq os=E;have zH:os.take k=os:=aH (by rw[HL.out];omega);rw[HE.out,zH];rfl
   clear U;go_wp2_with(fail);rw[HF.out]
   go_ret2
   exact⟨rfl,X⟩
theorem ET(w:ew)(x y:eA)(t:eE):∀(j:Nat) (u:eA),[x,y][j]? =μ u->(w.alloc (γ #[x,y] t)).drew.cell? ((⟨w.heap.size,0,ν⟩:eh).add j)=μ u:=λj u Z=>qj w x y t j u Z
namespace Rt
theorem qW.rest {w w1:ew} {g o B:Nat} {v:eA} {p:jI} (h:qW w g o B v p)(hb:eH w w1):PtQ w1 g o B v p (λk=>k<w.heap.size) (σ ν 0 0) [] :=by
 have Z:=h.below hb;exact⟨Z.xR,(r8.rest h.lk).below hb,Z.ou,h.few,h.ok,h.gB,h.vg,h.vB,h.nz,h.lt,λk Y=>h.ou.lt k Y⟩
theorem qW.take {w w1:ew} {g o B:Nat} {v:eA} {p:jI} (h:qW w g o B v p)(hb:eH w w1)(T:jt w)(code id:Int)(a:Option eh)(n cap:Nat)(os:List jQ)(E:jm w1 a n os)(D:kY a cap)(Y:n<=cap)(J:n<=1000)
 (A:∀j,eD (σ a n cap)=μ j->w.heap.size<=j/\j<w1.heap.size):
 fc fe 185 #[π (μ ⟨B,0,ν⟩),.agg #[ι κ code,ι κ id,σ a n cap]] w1 λe w'=>e=ρ (jB (jW p.L (code,id,os)).2.2)/\Cz w w' g o B v {p with L:=(jW p.L (code,id,os)).1} (jW p.L (code,id,os)).2.1:=by
 have Z:=h.rest hb;have X:vV w1 (λk=>k<w.heap.size) (σ ν 0 0) ⟨code,id,a,n,cap,os⟩:=⟨E,D,Y,J,λk M=>by
  have y:eD (σ a n cap)=μ k:=D6 M;obtain⟨h1,U⟩:=A k y;exact⟨eB,by simp[eD],U⟩⟩
 refine(Uu B _ p.L _ [] ⟨code,id,a,n,cap,os⟩ w1 (T.below hb) Z.nz.2.1 (by simp[eD]) Z.rep Z.ok.bd ik X Z.ok.m1 Z.ok.m2).mono ?_;rintro e w' ⟨rfl,S⟩;refine⟨rfl,?_⟩;have V:=Cz.went Z rfl (oe.jg o B v hb h.lt) S (Z.ok.jW _);rw[eR,bU]at V;exact V
theorem Lz(s:ByteArray)(g o B:Nat)(v:eA)(p:jI)(w:ew)(h:qW w g o B v p)(hT:jt w)(hs:s.size<=1000)(hn:p.out.length<=800000000):
 fc fe 133 #[π (μ ⟨g,o,ν⟩),.string s] w λe w'=>e=ρ (τ #[])/\mc w w' g o B v (p.packet s.data.toList):=by
 have hp:=Lx s w hs;have HP:Hid _:=h;clear h
 go_in
 go_wp2_with(fail);refine hp.mono ?_;rintro e w1 ⟨a,n,cap,f,code,id,os,rfl,E,y,S,hb,D,hz⟩;clear hp;by_cases hf:f=0
 ·subst hf;have e0:jB 0=η:=rfl;rw[e0];have rj:os.length<=1000:=by
   have Y:jk s.data.toList=(code,id,os,0):=S;unfold jk at Y;split at Y;{simp at Y}
   ·split at Y
    ·rename_i X
     have h3:m8 (s.data.toList.drop 3)=os:=(dQ (dQ (dQ Y).2).2).1;rw[h3]at X;unfold j4 at X;split at X;{simp at X};{split at X;{simp at X};{omega}}
    ·simp at Y
  have mP:n<=1000:=by have:=E.1;omega
  have T:p.packet s.data.toList=({p with L:=(jW p.L (code,id,os)).1}:jI).say (jW p.L (code,id,os)).2.1:=by
   unfold jI.packet;rw[S];rfl
  have ba:=gK w1 (γ #[ι κ code,ι κ id,σ a n cap] 37);have A:=fP hb ba;have hA:=λj=>ak w1 #[ι κ code,ι κ id,σ a n cap] 37 (0,0) j;have ht:=HP.out.take (jK A) hT code id a n cap os (E.below (jK ba)) hz y mP (λj hj=>⟨(D j hj).1,Nat.lt_of_lt_of_le (D j hj).2 ba.size⟩);have hlen:=Ih p.L (code,id,os);obtain⟨U,V⟩:=fq (w1.alloc (γ #[ι κ code,ι κ id,σ a n cap] 37));obtain⟨Z,M⟩:=fq (w1.heap.size);rw[V]at A ht;have d0:U.cell? ⟨Z,0,ν⟩=μ (ι κ code):=by rw[<-V,<-M];exact hA 0
  have d1':U.cell? ⟨Z,1,ν⟩=μ (ι κ id):=by rw[<-V,<-M];exact hA 1
  have d2:U.cell? ⟨Z,2,ν⟩=μ (σ a n cap):=by rw[<-V,<-M];exact hA 2
  have zl:Z<U.heap.size:=ag U _ d0;have d1:=(HP.out.below A).c1;have dl:=(HP.out.below A).lt;have HE:Hid _:=T;have U9:Hid _:=V;have HZ:Hid _:=M;clear T S E D hA V M ba hb;go_wp2_with(fail);rw[U9.out,HZ.out]
  go_region_with(go_at_call 185;refine ht.mono ?_;rintro e w3 ⟨rfl,hG⟩)
  all_goals
   have J:=hG.say eB hn;clear ht hG;go_wp2_with(fail);refine J.mono ?_;rintro e w4 ⟨rfl,hW⟩;clear J
   go_wp2
   first|go_end0|refine iX rfl rfl ?_
   refine⟨rfl,?_⟩;rw[HE.out];exact hW
 ·have ee:jB f=.iface 128 (ι κ (f:Int)):=by simp only[jB];rw[af hf]
  rw[ee];have T:p.packet s.data.toList=p:=by
   unfold jI.packet;rw[S];simp only;rw[af hf]
  have HW:Hid (mc w (w1.alloc (γ #[ι κ code,ι κ id,σ a n cap] 37)) g o B v (p.packet s.data.toList)):=by
   show mc _ _ _ _ _ _ _;rw[T];exact mc.still HP.out (fP hb (gK _ _))
  clear T S E D hf ee
  go_wp2
  first|go_end0|refine iX rfl rfl ?_
  exact⟨rfl,HW.out⟩
theorem yx(T:ByteArray)(c:UInt8)(own seq:Int)(a:Option eh)(n cap:Nat)(es:List jQ)(g o B:Nat)(v:eA)(p:jI)(w:ew)(h:qW w g o B v p)(E:T.data.toList=[c])(U:jm w a n es)(hf:oK own seq es=0)(hn:p.out.length<=800000000):
 fc fe 152 #[π (μ ⟨g,o,ν⟩),.string T,.agg #[ι κ own,ι κ seq,σ a n cap]] w λe w'=>e=ρ (τ #[])/\mc w w' g o B v (p.put c (rN own seq es)):=by
 have V:=gK w (γ #[ι κ own,ι κ seq,σ a n cap] 40);have hA:=λj=>ak w #[ι κ own,ι κ seq,σ a n cap] 40 (0,0) j;have X:=Oe own seq a n cap es _ (U.below V) hf;have J:=(jC hf).2.2.1;have A:(rN own seq es).length<=100:=by
  have M:∀l:List jQ,(MU l).length=2*l.length:=by
   intro l
   induction l with
   |nil=>rfl
   |cons x l ih=>
    have e:MU (x::l)=u8 x.1::u8 x.2::MU l:=rfl;rw[e];simp only[eW,ih];omega
  simp only[rN,eW,M];omega
 obtain⟨L,Z⟩:=fq (rN own seq es);rw[Z]at X A;rw[Z];have HP:Hid _:=h;clear h Z U hf J
 go_in
 go_wp2_with(fail);refine X.mono ?_;rintro e w1 ⟨rfl,b1⟩;have k1:=fP V b1;have Y:=DJ g o B v p T ⟨L.toArray⟩ c w1 (HP.out.below k1) E (by show L.toArray.size<=1000;simp;omega) eB;have S:(⟨L.toArray⟩:ByteArray).data.toList=L:=ik;rw[S]at Y;clear X b1;go_wp2_with(fail);refine Y.mono ?_;rintro e w2 ⟨rfl,D⟩;clear Y
 go_wp2
 first|go_end0|refine iX rfl rfl ?_
 exact⟨rfl,mc.trans (oe.jg o B v k1 HP.out.lt) (λ_ e=>.inl e) D⟩
end Rt
theorem BR.still {w w':ew} {B:Nat} {m:FM} {n:Nat} {K:Int->Option PS} {O:Nat->Int->Option PS} (h:BR w B m n K O)(hs:w.heap.size<=w'.heap.size)(X:∀j,j<w.heap.size->¬m.no j->w'.heap[j]? =w.heap[j]?)
 (E:¬m.no B) (y:¬m.no m.g) (hm:∀b,(b=m.bm \/b∈m.bs)->¬m.no b) (no':Nat->Prop) (S:∀j,no' j->m.no j \/w.heap.size<=j) (M:∀j,no' j->j<w'.heap.size):BR w' B {m with no:=no'} n K O:=by
 have T:=h.mlt;obtain⟨kn,ow,hF,A,D⟩:=h.ex;have mp:∀b,(b=m.bm \/b∈m.bs)->w'.heap[b]? =w.heap[b]? :=λb hb=>X b (T b hb) (hm b hb);have tie:∀ {f:Int->Option SV} {F:Int->Option PS},Tie w m f F->Tie w' {m with no:=no'} f F:=by
  intro f F ht x hr;have:=ht x hr;cases e:F x with
  |none=>rw[e]at this;exact this
  |some q=>
   rw[e]at this;obtain⟨s,J,Z⟩:=this;refine⟨s,J,⟨Z.own,Z.seq,Z.n,Z.opt.kept (cap:=s.cap) (λj Y=>X j (Z.lt j Y) (Z.far j Y).2.2),Z.nil,Z.ok,λj Y=>Nat.lt_of_lt_of_le (Z.lt j Y) hs,λj Y=>⟨(Z.far j Y).1,(Z.far j Y).2.1,λe=> ?_⟩⟩⟩;rcases S j e with U|U
   {exact(Z.far j Y).2.2 U};{have:=Z.lt j Y;omega}
 refine⟨⟨kn,ow,⟨(X B hF.lt E).trans hF.oE,hF.row.keep hs (λx hx=> ?_),hF.km.keep (mp _ (.inl rfl)),λi b e=>(hF.om i b e).keep (mp b (.inr (bL e))),hF.few,hF.nB,hF.nd⟩,tie A,λi hi=>tie (D i hi)⟩,M⟩;have V:m.g=x:=by simpa[FM.sl,eD]using hx
 subst V;exact X m.g (hF.row.lt _ hx) y
namespace Rt
variable {B i j k n:Nat} {F:Nat->Value} {K:Int->Option PS} {Q:Exit->Act->World->Prop} {a b c w w':World} {id:Int} {o:Oper} {ops:Array Oper} {v:Value}
def sA(l:List zD):List eA:=l.flatMap λt=>[ι κ t.1,ι κ t.2.1,.string ⟨t.2.2.toArray⟩]
structure Zt where
 R:Nat
 g:Nat
 cap:Nat
 B:Nat->Nat
 v:Nat->eA
 Bb:Nat
 fm:FM
 iv:eA
def Zt.mine(z:Zt)(n k:Nat):Prop:=k=z.R \/k=z.g \/(∃i,i<n/\(k=z.B i \/(z.v i).ownBlock=μ k)) \/z.iv.ownBlock=μ k
structure mM(w:ew)(z:Zt)(r:iW):Prop where
 n1:1<=r.n
 n3:r.n<=3
 Og:r.n<=z.cap
 id:1<=r.id/\r.id<=6
 oE:ji w z.R #[ι κ r.id,σ (μ ⟨z.g,0,ν⟩) r.n z.cap,π (μ ⟨z.Bb,0,ν⟩),z.iv,ι κ r.drop] 135
 pt:∀i,i<r.n->qW w z.g (i*71) (z.B i) (z.v i) (r.P i)
 ib:Row w 3 z.iv r.kx.length (sA r.kx)
 bs:BR w z.Bb z.fm 6 r.K r.O
 bl:z.fm.bs.length=r.n
 no:∀k,z.mine r.n k->z.fm.no k
 nb:¬z.fm.no z.Bb/\¬z.fm.no z.fm.g/\∀b,(b=z.fm.bm \/b∈z.fm.bs)->¬z.fm.no b
 sR:z.R≠z.g/\z.R≠0/\∀i,i<r.n->z.B i≠z.R/\(z.v i).ownBlock≠μ z.R
 sB:∀i j,i<r.n->j<r.n->i≠j->z.B i≠z.B j/\∀k,(z.v i).ownBlock=μ k->(z.v j).ownBlock≠μ k
 sV:∀i j,i<r.n->j<r.n->(z.v i).ownBlock≠μ (z.B j)
 sI:∀k,z.iv.ownBlock=μ k->k≠z.R/\k≠z.g/\∀i,i<r.n->k≠z.B i/\(z.v i).ownBlock≠μ k
 RT:z.iv.ownBlock≠μ 0/\∀b,(b=z.fm.bm \/b∈z.fm.bs)->b≠0
structure Ae(w w':ew)(z:Zt)(n:Nat):Prop where
 os:w'.os=w.os
 tape:w'.tape=w.tape
 output:w'.output=w.output
 size:w.heap.size<=w'.heap.size
 block:∀k,k<w.heap.size->¬z.mine n k->k≠z.fm.bm->k∉z.fm.bs->w'.heap[k]? =w.heap[k]?
structure Zt.like(z z':Zt):Prop where
 R:z'.R=z.R
 g:z'.g=z.g
 cap:z'.cap=z.cap
 B:z'.B=z.B
 Bb:z'.Bb=z.Bb
 bm:z'.fm.bm=z.fm.bm
 fg:z'.fm.g=z.fm.g
 bs:z'.fm.bs=z.fm.bs
structure iP(w w':ew)(z:Zt)(r:iW)(n:Nat):Prop where
 ex:∃z',mM w' z' r/\z.like z'/\(∀k,z'.mine n k->z.mine n k \/w.heap.size<=k)/\(∀k,z.fm.no k->z'.fm.no k)
 kept:Ae w w' z n
def Bx(v:Nat->eA)(i:Nat)(x:eA):Nat->eA:=λj=>if j=i then x else v j
theorem qv(v:Nat->eA)(i:Nat)(x:eA):Bx v i x i=x:=by simp[Bx]
theorem oh(v:Nat->eA)(x:eA)(h:j≠i):Bx v i x j=v j:=by simp[Bx,h]
theorem jL(P:Nat->jI)(i:Nat)(p:jI):lF P i p i=p:=by simp[lF]
theorem jG(P:Nat->jI)(p:jI)(h:j≠i):lF P i p j=P j:=by simp[lF,h]
theorem mM.port {z:Zt} {r:iW} {p:jI} (h:mM w z r)(hi:i<r.n)(hW:mc w w' z.g (i*71) (z.B i) (z.v i) p):iP w w' z (r.jh i p) r.n:=by
 obtain⟨⟨v',hP,hv⟩,X⟩:=hW;have kL:∀k,z.mine r.n k->k<w.heap.size:=λk Z=>h.bs.Rl k (h.no k Z);have GU:=(h.pt i hi).lt;have y:∀k,k<w.heap.size->v'.ownBlock=μ k->(z.v i).ownBlock=μ k:=λk Z e=>by
  rcases hv k e with T|T
  {exact T};{omega}
 have M:z.mine r.n z.g/\z.mine r.n (z.B i)/\∀k,(z.v i).ownBlock=μ k->z.mine r.n k:=⟨.inr (.inl rfl),.inr (.inr (.inl ⟨i,hi,.inl rfl⟩)),λk Z=>.inr (.inr (.inl ⟨i,hi,.inr Z⟩))⟩
 have Af:∀k,k<w.heap.size->¬z.mine r.n k->w'.heap[k]? =w.heap[k]? :=λk Z A=>X.block k Z (λe=>A (by rw[e];exact M.1)) (λe=>A (by rw[e];exact M.2.1)) (λe=>A (M.2.2 k e));have Gq:=h.bs.still X.size (λj Y hn=>Af j Y (λe=>hn (h.no j e))) h.nb.1 h.nb.2.1 h.nb.2.2 (λk=>z.fm.no k \/(w.heap.size<=k/\k<w'.heap.size/\v'.ownBlock=μ k)) (λj Y=>by
  rcases Y with e|e
  ·exact .inl e
  ·exact .inr e.1) (λj Y=>by
  rcases Y with e|e
  ·exact Nat.lt_of_lt_of_le (h.bs.Rl j e) X.size
  ·exact e.2.1)
 have adi:∀b,(b=z.fm.bm \/b∈z.fm.bs)->b<w.heap.size:=h.bs.mlt;have adk:z.Bb<w.heap.size:=by obtain⟨_,_,hF,_⟩:=h.bs.ex;exact hF.lt
 have adl:z.fm.g<w.heap.size:=by obtain⟨_,_,hF,_⟩:=h.bs.ex;exact hF.row.lt _ rfl
 refine⟨⟨{z with v:=Bx z.v i v',fm:={z.fm with no:=λk=>z.fm.no k \/(w.heap.size<=k/\k<w'.heap.size/\v'.ownBlock=μ k)}},⟨h.n1,h.n3,h.Og,h.id,?_,?_,?_,Gq,h.bl,?_,?_,⟨h.sR.1,h.sR.2.1,?_⟩,?_,?_,?_,h.RT⟩,⟨rfl,rfl,rfl,rfl,rfl,rfl,rfl,rfl⟩,?_,λk Z=>.inl Z⟩,⟨X.os,X.tape,X.output,X.size,λk Z A _ _=>Af k Z A⟩⟩;{exact h.oE.keep (X.block z.R h.oE.lt h.sR.1 (λe=>(h.sR.2.2 i hi).1 e.symm) (h.sR.2.2 i hi).2)}
 ·intro j Y;by_cases e:j=i;{subst e;show qW w' z.g (j*71) (z.B j) (Bx z.v j v' j) (lF r.P j p j);rw[qv,jL];exact hP}
  ·show qW w' z.g (j*71) (z.B j) (Bx z.v i v' j) (lF r.P i p j);rw[oh _ _ e,jG _ _ e];have V:=h.pt j Y;obtain⟨F,hC,hF⟩:=V.xR;have hs:=h.sB j i Y hi e;refine⟨⟨F,λx hx=>⟨(X.cell (j*71+x) ?_).trans (hC.cell x hx),(X.fz _).trans (hC.fz x hx)⟩,hF⟩,V.lk.keep (X.block (z.B j) V.lk.lt (λe=>V.gB e.symm) hs.1 (h.sV i j hi Y)),V.ou.keep X.size (λk Z=>X.block k (V.ou.lt k Z) (λe=>V.vg (by rw[Z,e])) (λe=>h.sV j i Y hi (by rw[Z,e])) (hs.2 k Z)),V.few,V.ok,V.gB,V.vg,V.vB,V.nz⟩;rcases Nat.lt_or_gt_of_ne e with h1|h1
   {exact .inl eB};{exact .inr eB}
 ·exact h.ib.keep X.size (λk Z=>X.block k (h.ib.lt k Z) (h.sI k Z).2.1 ((h.sI k Z).2.2 i hi).1 ((h.sI k Z).2.2 i hi).2)
 ·intro k Z;rcases Z with e|e|⟨j,Y,e|e⟩|e
  {exact .inl (h.no k (.inl e))};{exact .inl (h.no k (.inr (.inl e)))};{exact .inl (h.no k (.inr (.inr (.inl ⟨j,Y,.inl e⟩))))}
  ·by_cases U:j=i
   ·subst U;have e':v'.ownBlock=μ k:=by have:=e;simp only[qv]at this;exact this
    rcases hv k e' with T|T
    {exact .inl (h.no k (.inr (.inr (.inl ⟨j,Y,.inr T⟩))))};{exact .inr ⟨T,hP.ou.lt k e',e'⟩}
   ·have e':(z.v j).ownBlock=μ k:=by have:=e;simp only[oh _ _ U]at this;exact this
    exact .inl (h.no k (.inr (.inr (.inl ⟨j,Y,.inr e'⟩))))
  ·exact .inl (h.no k (.inr (.inr (.inr e))))
 ·refine⟨λe=> ?_,λe=> ?_,λb hb e=> ?_⟩
  ·rcases e with e|e
   {exact h.nb.1 e};{have h8:w.heap.size<=z.Bb:=e.1;omega}
  ·rcases e with e|e
   {exact h.nb.2.1 e};{have h8:w.heap.size<=z.fm.g:=e.1;omega}
  ·rcases e with e|e
   {exact h.nb.2.2 b hb e};{have h9:=adi b hb;omega}
 {intro j Y;refine⟨(h.sR.2.2 j Y).1,?_⟩;by_cases U:j=i;{subst U;show(Bx z.v j v' j).ownBlock≠_;rw[qv];exact λe=>(h.sR.2.2 j Y).2 (y _ h.oE.lt e)};{show(Bx z.v i v' j).ownBlock≠_;rw[oh _ _ U];exact(h.sR.2.2 j Y).2}};{intro a b S hb E;refine⟨(h.sB a b S hb E).1,λk Z=> ?_⟩;show(Bx z.v i v' b).ownBlock≠μ k;have J:(Bx z.v i v' a).ownBlock=μ k:=Z;by_cases D:a=i;{subst D;rw[qv]at J;rw[oh _ _ (λe=>E e.symm)];intro e;have RG:=(h.pt b hb).ou.lt k e;exact(h.sB a b S hb E).2 k (y k RG J) e};{rw[oh _ _ D]at J;by_cases eb:b=i;{subst eb;rw[qv];intro e;have RG:=(h.pt a S).ou.lt k J;exact(h.sB a b S hb E).2 k J (y k RG e)};{rw[oh _ _ eb];exact(h.sB a b S hb E).2 k J}}}
 {intro a b S hb;show(Bx z.v i v' a).ownBlock≠μ (z.B b);by_cases D:a=i;{subst D;rw[qv];exact λe=>h.sV a b S hb (y _ (h.pt b hb).lk.lt e)};{rw[oh _ _ D];exact h.sV a b S hb}};{intro k Z;obtain⟨h1,h2,h3⟩:=h.sI k Z;refine⟨h1,h2,λj Y=>⟨(h3 j Y).1,?_⟩⟩;show(Bx z.v i v' j).ownBlock≠μ k;by_cases U:j=i;{subst U;rw[qv];exact λe=>(h3 j Y).2 (y k (h.ib.lt k Z) e)};{rw[oh _ _ U];exact(h3 j Y).2}}
 ·intro k Z;rcases Z with e|e|⟨j,Y,e|e⟩|e
  {exact .inl (.inl e)};{exact .inl (.inr (.inl e))};{exact .inl (.inr (.inr (.inl ⟨j,Y,.inl e⟩)))}
  ·by_cases U:j=i
   ·subst U;have e':v'.ownBlock=μ k:=by have:=e;simp only[qv]at this;exact this
    rcases hv k e' with T|T
    {exact .inl (.inr (.inr (.inl ⟨j,Y,.inr T⟩)))};{exact .inr T}
   ·have e':(z.v j).ownBlock=μ k:=by have:=e;simp only[oh _ _ U]at this;exact this
    exact .inl (.inr (.inr (.inl ⟨j,Y,.inr e'⟩)))
  ·exact .inl (.inr (.inr (.inr e)))
theorem Ae.refl(w:ew)(z:Zt)(n:Nat):Ae w w z n:=⟨rfl,rfl,rfl,Nat.le_refl _,λ_ _ _ _ _=>rfl⟩
theorem Ae.jg(z:Zt)(n:Nat)(h:eH w w'):Ae w w' z n:=⟨h.os,h.tape,h.output,h.size,λk Z _ _ _=>h.block k Z⟩
theorem Zt.sU(z:Zt):z.like z:=⟨rfl,rfl,rfl,rfl,rfl,rfl,rfl,rfl⟩
theorem Zt.EU {a b c:Zt} (h:a.like b)(k:b.like c):a.like c:=⟨k.R.trans h.R,k.g.trans h.g,k.cap.trans h.cap,k.B.trans h.B,k.Bb.trans h.Bb,k.bm.trans h.bm,k.fg.trans h.fg,k.bs.trans h.bs⟩
theorem mM.Bz {z:Zt} {r:iW} (h:mM w z r):∀k,z.mine r.n k->k<w.heap.size:=λk Z=>h.bs.Rl k (h.no k Z)
theorem mM.below {w w':ew} {z:Zt} {r:iW} (h:mM w z r)(hb:eH w w'):mM w' z r:=
 ⟨h.n1,h.n3,h.Og,h.id,h.oE.keep (hb.block _ h.oE.lt),λi hi=>(h.pt i hi).below hb,h.ib.below hb,h.bs.below hb,h.bl,h.no,h.nb,h.sR,h.sB,h.sV,h.sI,h.RT⟩
theorem iP.still {z:Zt} {r:iW} (h:mM w z r)(hb:eH w w'):iP w w' z r r.n:=
 ⟨⟨z,h.below hb,z.sU,λ_ e=>.inl e,λ_ e=>e⟩,Ae.jg z r.n hb⟩
theorem iP.refl {w:ew} {z:Zt} {r:iW} (h:mM w z r):iP w w z r r.n:=⟨⟨z,h,z.sU,λ_ e=>.inl e,λ_ e=>e⟩,Ae.refl w z r.n⟩
theorem iP.step {z:Zt} {r r':iW} (h:iP a b z r n)(k:∀z',mM b z' r->z.like z'->iP b c z' r' n):iP a c z r' n:=by
 obtain⟨⟨z',A,hl,S,y⟩,Z⟩:=h;obtain⟨⟨z2,J,E,M,D⟩,Y⟩:=k z' A hl;refine⟨⟨z2,J,Zt.EU hl E,λx hx=> ?_,λx hx=>D x (y x hx)⟩,⟨Y.os.trans Z.os,Y.tape.trans Z.tape,Y.output.trans Z.output,Nat.le_trans Z.size Y.size,λx hx V U T=>(Y.block x (Nat.lt_of_lt_of_le hx Z.size) (λe=> ?_) (by rw[hl.bm];exact U) (by rw[hl.bs];exact T)).trans (Z.block x hx V U T)⟩⟩
 ·rcases M x hx with e|e
  {exact S x e};{exact .inr (Nat.le_trans Z.size e)}
 ·rcases S x e with X|X
  {exact V X};{omega}
theorem iP.below {z:Zt} {r:iW} (h:iP a b z r n)(Y:r.n=n)(hb:eH b c):iP a c z r n:=by
 subst Y;exact h.step λz' Z _=>iP.still Z hb
theorem iP.first {z:Zt} {r r':iW} (J:mM a z r)(E:r.n=n)(hb:eH a b)(k:mM b z r->iP b c z r' n):iP a c z r' n:=by
 subst E;obtain⟨⟨D,X,V,Y,U⟩,Z⟩:=k (J.below hb);exact⟨⟨D,X,V,λx hx=>(Y x hx).imp_right (λe=>Nat.le_trans hb.size e),U⟩,⟨Z.os.trans hb.os,Z.tape.trans hb.tape,Z.output.trans hb.output,Nat.le_trans hb.size Z.size,λx hx T S M=>(Z.block x (Nat.lt_of_lt_of_le hx hb.size) T S M).trans (hb.block x hx)⟩⟩
theorem iP.tab {z:Zt} {r0 r:iW} (h:iP a b z r n)(Z:mM a z r0)(U:r0.n=n)(X:jt a):jt b:=λe s V hs=>by
 subst U;refine(aj (a:=⟨0,e*10+s,ν⟩) (h.kept.block 0 X.lt (λY=> ?_) (λY=> ?_) (λY=> ?_))).trans (X e s V hs)
 ·rcases Y with e|e|⟨i,hi,e|e⟩|e
  {exact Z.sR.2.1 e.symm};{exact(Z.pt 0 Z.n1).nz.1 e.symm};{exact(Z.pt i hi).nz.2.1 e.symm};{exact(Z.pt i hi).nz.2.2 e};{exact Z.RT.1 e}
 {exact Z.RT.2 0 (.inl Y) rfl};{exact Z.RT.2 0 (.inr Y) rfl}
theorem mM.base {z:Zt} {r:iW} {K':Int->Option PS} {O':Nat->Int->Option PS} (h:mM w z r)(U:BR w' z.Bb z.fm k K' O')(Y:jP w w' z.fm):iP w w' z {r with K:=K',O:=O'} r.n:=by
 have hb:∀x,z.mine r.n x->w'.heap[x]? =w.heap[x]? :=λx hx=>Y.block x (h.Bz x hx) (λe=>h.nb.2.2 x (.inl e) (h.no x hx)) (λe=>h.nb.2.2 x (.inr e) (h.no x hx));refine⟨⟨z,⟨h.n1,h.n3,h.Og,h.id,h.oE.keep (hb _ (.inl rfl)),λi hi=> ?_,h.ib.keep Y.size (λx hx=>hb x (.inr (.inr (.inr hx)))),U.six,h.bl,h.no,h.nb,h.sR,h.sB,h.sV,h.sI,h.RT⟩,z.sU,λ_ e=>.inl e,λ_ e=>e⟩,⟨Y.os,Y.tape,Y.output,Y.size,λx hx _ X V=>Y.block x hx X V⟩⟩;have Z:=h.pt i hi;obtain⟨F,hC,hF⟩:=Z.xR;exact⟨⟨F,hC.keep (hb _ (.inr (.inl rfl))),hF⟩,Z.lk.keep (hb _ (.inr (.inr (.inl ⟨i,hi,.inl rfl⟩)))),Z.ou.keep Y.size (λx hx=>hb x (.inr (.inr (.inl ⟨i,hi,.inr hx⟩)))),Z.few,Z.ok,Z.gB,Z.vg,Z.vB,Z.nz⟩
theorem adn(p:jI)(B:Nat)(v:eA)(F:Nat->eA)(q:lK):∀j,j<71->tR (tR (tR (xQ p B v F) 67 (.int .i64 q.who)) 68 (.bool q.both)) 69 (.int .i64 q.left) j=xQ {p with pe:=q} B v F j:=by
 intro j hj;by_cases Z:j=69;{subst Z;simp[tR,xQ]};by_cases Y:j=68;{subst Y;simp[tR,xQ]};by_cases X:j=67;{subst X;simp[tR,xQ]};rw[jV _ _ Z,jV _ _ Y,jV _ _ X];simp only[xQ,Z,Y,X,if_false]
theorem qW.peer {g o:Nat} {p:jI} (h:qW w g o B v p)(q:lK):
 mc w (((w.setCell ⟨g,o+67,ν⟩ (.int .i64 q.who)).setCell ⟨g,o+68,ν⟩ (.bool q.both)).setCell ⟨g,o+69,ν⟩ (.int .i64 q.left)) g o B v {p with pe:=q}:=by
 obtain⟨F,hC,hF⟩:=h.xR;have Z:lJ w (((w.setCell ⟨g,o+67,ν⟩ (.int .i64 q.who)).setCell ⟨g,o+68,ν⟩ (.bool q.both)).setCell ⟨g,o+69,ν⟩ (.int .i64 q.left)) g o 71:=(((lJ.refl w g o 71).set (o+67) eB eB _).set (o+68) eB eB _).set (o+69) eB eB _;have hb:∀x,x<w.heap.size->x≠g->_:=Z.block;refine⟨⟨v,⟨⟨F,(((hC.set 67 eF _).set 68 eF _).set 69 eF _).congr (adn p B v F q),hF⟩,h.lk.keep (hb B h.lk.lt (λe=>h.gB e.symm)),h.ou.keep Z.size (λx hx=>hb x (h.ou.lt x hx) (λe=>h.vg (by rw[hx,e]))),h.few,h.ok,h.gB,h.vg,h.vB,h.nz⟩,λ_ e=>.inl e⟩,⟨Z.os,Z.tape,Z.output,Z.size,λi hi Y _ _=>Z.block i hi Y,Z.cell,Z.fz⟩⟩
theorem mM.own {z:Zt} {r:iW} (h:mM w z r)(Y:eA)(kx:List zD)(d:Int)(hs:w.heap.size<=w'.heap.size)(Hg:w'.os=w.os)(P4:w'.tape=w.tape)(MZ:w'.output=w.output)(Z:∀k,k<w.heap.size->k≠z.R->z.iv.ownBlock≠μ k->w'.heap[k]? =w.heap[k]?)
 (oL:ji w' z.R #[ι κ r.id,σ (μ ⟨z.g,0,ν⟩) r.n z.cap,π (μ ⟨z.Bb,0,ν⟩),Y,ι κ d] 135) (A:Row w' 3 Y kx.length (sA kx)) (T:∀k,Y.ownBlock=μ k->z.iv.ownBlock=μ k \/w.heap.size<=k):iP w w' z {r with kx:=kx,drop:=d} r.n:=by
 have M:∀k,z.iv.ownBlock=μ k->z.mine r.n k:=λk Z=>.inr (.inr (.inr Z));have D:∀k,k<w.heap.size->¬z.mine r.n k->w'.heap[k]? =w.heap[k]? :=λk E S=>Z k E (λe=>S (.inl e)) (λe=>S (M k e));have Gq:=h.bs.still hs (λj U hn=>D j U (λe=>hn (h.no j e))) h.nb.1 h.nb.2.1 h.nb.2.2 (λk=>z.fm.no k \/(w.heap.size<=k/\k<w'.heap.size/\Y.ownBlock=μ k)) (λj U=>by
  rcases U with e|e
  ·exact .inl e
  ·exact .inr e.1) (λj U=>by
  rcases U with e|e
  ·exact Nat.lt_of_lt_of_le (h.bs.Rl j e) hs
  ·exact e.2.1)
 have J:∀b,(b=z.fm.bm \/b∈z.fm.bs)->b<w.heap.size:=h.bs.mlt;have adk:z.Bb<w.heap.size:=by obtain⟨_,_,hF,_⟩:=h.bs.ex;exact hF.lt
 have adl:z.fm.g<w.heap.size:=by obtain⟨_,_,hF,_⟩:=h.bs.ex;exact hF.row.lt _ rfl
 have hI':∀k,k<w.heap.size->Y.ownBlock=μ k->z.iv.ownBlock=μ k:=λk Z e=>by
  rcases T k e with X|X
  {exact X};{omega}
 refine⟨⟨{z with iv:=Y,fm:={z.fm with no:=λk=>z.fm.no k \/(w.heap.size<=k/\k<w'.heap.size/\Y.ownBlock=μ k)}},⟨h.n1,h.n3,h.Og,h.id,oL,λi hi=> ?_,A,Gq,h.bl,?_,?_,h.sR,h.sB,h.sV,?_,?_⟩,⟨rfl,rfl,rfl,rfl,rfl,rfl,rfl,rfl⟩,?_,λk Z=>.inl Z⟩,⟨Hg,P4,MZ,hs,λk E S _ _=>D k E S⟩⟩;{have V:=h.pt i hi;obtain⟨F,hC,hF⟩:=V.xR;have y:=h.sR.2.2 i hi;refine⟨⟨F,hC.keep (Z _ V.lt (λe=>h.sR.1 e.symm) (λe=>(h.sI _ e).2.1 rfl)),hF⟩,V.lk.keep (Z _ V.lk.lt y.1 (λe=>((h.sI _ e).2.2 i hi).1 rfl)),V.ou.keep hs (λx hx=>Z x (V.ou.lt x hx) (λe=>y.2 (by rw[hx,e])) (λe=>((h.sI x e).2.2 i hi).2 hx)),V.few,V.ok,V.gB,V.vg,V.vB,V.nz⟩}
 ·intro k Z;rcases Z with e|e|e|e
  {exact .inl (h.no k (.inl e))};{exact .inl (h.no k (.inr (.inl e)))};{exact .inl (h.no k (.inr (.inr (.inl e))))}
  ·rcases T k e with X|X
   {exact .inl (h.no k (M k X))};{exact .inr ⟨X,A.lt k e,e⟩}
 ·refine⟨λe=> ?_,λe=> ?_,λb hb e=> ?_⟩
  ·rcases e with e|e
   {exact h.nb.1 e};{have h8:w.heap.size<=z.Bb:=e.1;omega}
  ·rcases e with e|e
   {exact h.nb.2.1 e};{have h8:w.heap.size<=z.fm.g:=e.1;omega}
  ·rcases e with e|e
   {exact h.nb.2.2 b hb e};{have h9:=J b hb;omega}
 ·intro k Z;rcases T k Z with X|X
  {exact h.sI k X};{refine⟨λe=> ?_,λe=> ?_,λi hi=>⟨λe=> ?_,λe=> ?_⟩⟩;{have e':k=z.R:=e;have:=h.oE.lt;omega};{have e':k=z.g:=e;have:=(h.pt 0 h.n1).lt;omega};{have e':k=z.B i:=e;have:=(h.pt i hi).lk.lt;omega};{have:=(h.pt i hi).ou.lt k e;omega}}
 ·refine⟨λe=> ?_,h.RT.2⟩;rcases T 0 e with X|X
  {exact h.RT.1 X};{have:=h.oE.lt;omega}
 ·intro k Z;rcases Z with e|e|e|e
  {exact .inl (.inl e)};{exact .inl (.inr (.inl e))};{exact .inl (.inr (.inr (.inl e)))};{exact(T k e).imp_left (M k)}
theorem mM.c0 {z:Zt} {r:iW} (h:mM w z r):w.cell? ⟨z.R,0,ν⟩=μ (ι κ r.id):=h.oE.cell 0
theorem mM.c1 {z:Zt} {r:iW} (h:mM w z r):w.cell? ⟨z.R,1,ν⟩=μ (σ (μ ⟨z.g,0,ν⟩) r.n z.cap):=h.oE.cell 1
theorem mM.c2 {z:Zt} {r:iW} (h:mM w z r):w.cell? ⟨z.R,2,ν⟩=μ (π (μ ⟨z.Bb,0,ν⟩)):=h.oE.cell 2
theorem mM.c3 {z:Zt} {r:iW} (h:mM w z r):w.cell? ⟨z.R,3,ν⟩=μ z.iv:=h.oE.cell 3
theorem mM.c4 {z:Zt} {r:iW} (h:mM w z r):w.cell? ⟨z.R,4,ν⟩=μ (ι κ r.drop):=h.oE.cell 4
theorem mM.lt {w:ew} {z:Zt} {r:iW} (h:mM w z r):z.R<w.heap.size:=h.oE.lt
theorem mM.Kt {z:Zt} {r:iW} (h:mM w z r):z.g<w.heap.size:=(h.pt 0 h.n1).lt
def hasB(i:Int)(n:Nat):Bool:=decide (0<=i)&&decide (i<(n:Int))
theorem Ag(h:i<n):hasB (i:Int) n=true:=by simp[hasB];omega
theorem Oi(i:Int)(n:Nat):hasB i n=false \/ ∃k:Nat,k<n/\i=(k:Int):=by
 by_cases Z:0<=i;{by_cases Y:i<(n:Int);{exact .inr ⟨i.toNat,eB,eB⟩};{exact .inl (by simp[hasB,Y])}};{exact .inl (by simp[hasB,Z])}
theorem EV(z:Zt)(r:iW)(i:Int)(w:ew)(h:mM w z r):
 fc fe 72 #[π (μ ⟨z.R,0,ν⟩),ι κ i] w λe w'=>e=ρ (.bool (hasB i r.n))/\w=w':=by
 have hl:=h.lt;have c1:=h.c1;unfold hasB;by_cases Z:0<=i
 ·by_cases Y:i<(r.n:Int)
  ·have hv:(decide (0<=i)&&decide (i<(r.n:Int)))=true:=by simp[Z,Y]
   rw[hv];clear hv h
   go_in
   go_wp2
   go_ret;exact⟨by first|rfl|(simp;omega),rfl⟩
  ·have hv:(decide (0<=i)&&decide (i<(r.n:Int)))=false:=by simp[Y]
   rw[hv];clear hv h
   go_in
   go_wp2
   go_ret;exact⟨by first|rfl|(simp;omega),rfl⟩
 ·have hv:(decide (0<=i)&&decide (i<(r.n:Int)))=false:=by simp[Z]
  rw[hv];clear hv h
  go_in
  go_wp2
  go_ret;exact⟨by first|rfl|(simp;omega),rfl⟩
theorem LA(z:Zt)(r:iW)(w:ew)(h:mM w z r):
 fc fe 50 #[π (μ ⟨z.R,0,ν⟩)] w λe w'=>∃a n cap S E,e=ρ (σ a n cap)/\uv w' a n S E/\tD r.K n S E/\n<=6/\acL w a n cap S/\eH w w':=by
 have hl:=h.lt;have c1:=h.c2;have hs:=Co z.Bb z.fm 6 r.K r.O w h.bs;clear h
 go_in
 go_wp2_with(fail);refine hs.mono ?_;rintro e w1 ⟨a,n,cap,S,E,rfl,Z,Y,X,V,U⟩;clear hs;have H:Hid _:=fj Z (fj Y (fj X (fj V U)));clear Z Y X V U
 go_wp2
 go_ret
 first|exact⟨a,n,cap,S,E,rfl,H.out⟩|exact⟨a,n,cap,⟨S,E,rfl,H.out⟩⟩
structure oI(id:Int)(q:lK):Prop where
 who:0<=q.who/\q.who<=6
 me:q.who≠id
 both:q.both=true->1<=q.who
 left:0<=q.left/\q.left<=4
def Yf(K:Int->Option PS):Prop:=∀x,(K x).isSome=true->1<=x/\x<=6
theorem Yf.uu(h:Yf K) {k:Int} (hk:1<=k/\k<=6)(q:PS):Yf (wF K k q):=λx hx=>by
 unfold wF at hx;split at hx;{omega};{exact h x hx}
structure lM(r:iW):Prop where
 id:1<=r.id/\r.id<=6
 m:∀i,i<r.n->1<=(r.P i).m/\(r.P i).m<=20
 pe:∀i,i<r.n->oI r.id (r.P i).pe
 own:∃q,r.K r.id=μ q/\oK r.id q.1 q.2=0
 P5:Yf r.K
theorem oI.nobody {id:Int} (h:1<=id):oI id Rt.nobody:=⟨⟨eF,eF⟩,λe=>(by have e2:(0:Int)=id:=e;omega),λe=>absurd e eF,⟨eF,eF⟩⟩
theorem oI.tick {q:lK} (hi:1<=id)(h:oI id q):oI id (iV q):=by
 unfold iV;split;{exact oI.nobody hi};{exact⟨h.who,h.me,h.both,by have:=h.left;simp;omega⟩}
theorem oI.Zr {f s:Int} (hi:1<=id)(hf:1<=f/\f<=6):oI id (ju id f s):=by
 unfold ju;split;{exact oI.nobody hi}
 ·rename_i h
  exact⟨by simp;omega,by simpa using h,λ_=>by simp;omega,ik⟩
def CA(P:Nat->jI)(n:Int)(k:Nat):Prop:=(P k).pe.both=true/\(P k).pe.who=n/\(match j1 P n k with|none=>true|some b=>decide ((P k).m<(P b).m))=true
instance(P:Nat->jI)(n:Int)(k:Nat):Decidable (CA P n k):=by unfold CA;infer_instance
theorem xT {P:Nat->jI} {n:Int} (h:CA P n k):j1 P n (k+1)=μ k:=by
 unfold j1;exact ai h
theorem wT {P:Nat->jI} {n:Int} (h:¬CA P n k):j1 P n (k+1)=j1 P n k:=by
 have:j1 P n (k+1)=if CA P n k then μ k else j1 P n k:=by
  rw[j1];by_cases hc:CA P n k;{rw[ai hc];exact ai hc};{rw[af hc];exact af hc}
 rw[this,af h]
theorem oR {P:Nat->jI} {n:Int}:∀ {k b:Nat},j1 P n k=μ b->b<k/\(P b).pe.both=true/\(P b).pe.who=n
 |0,b,h=>by simp[j1]at h
 |k+1,b,h=>by
  by_cases hc:CA P n k;{rw[xT hc]at h;have:=Option.some.inj h;subst this;exact⟨eB,hc.1,hc.2.1⟩};{rw[wT hc]at h;have:=oR h;exact⟨eB,this.2⟩}
def ph(r:iW)(j n:Nat):List jQ:=(List.range' j n).filterMap λ(j:Nat)=>(j1 r.P ((j:Int)+1) r.n).map λb=>((j:Int)+1,(r.P b).m)
theorem CB(r:iW):jJ r=ph r 0 6:=by unfold jJ ph;rw[di]
theorem sO {r:iW} (h:lM r):∀(n j:Nat) (Z:Int),Z<=j->j+n<=6->qP r.id Z (ph r j n)=0/\(ph r j n).length<=n
 |0,j,Z,_,_=>by simp[ph,qP]
 |n+1,j,Z,h1,h2=>by
  have ih:=sO h n (j+1) ((j:Int)+1) eB eB;have ih2:=sO h n (j+1) Z eB eB;have e:ph r j (n+1)=(match j1 r.P ((j:Int)+1) r.n with|none=>ph r (j+1) n|some b=>((j:Int)+1,(r.P b).m)::ph r (j+1) n):=by
   unfold ph;rw[dH,br];cases j1 r.P ((j:Int)+1) r.n<;>simp
  cases hb:j1 r.P ((j:Int)+1) r.n with
  |none=>
   rw[hb]at e;simp only at e;rw[e];exact⟨ih2.1,eB⟩
  |some b=>
   rw[hb]at e;simp only at e;rw[e];obtain⟨Y,JB,U⟩:=oR hb;have hm:=h.m b Y;have V:=h.pe b Y;have X:=V.me;rw[U]at X;refine⟨?_,by simp;omega⟩;unfold qP;rw[af (by simp only;omega)];simp only
   first
    |exact ih.1
    |(rw[af eB];exact ih.1)
    |(rw[af eB,af eB];exact ih.1)
theorem Ah {r:iW} (h:lM r) {seq:Int} (hs:1<=seq/\seq<=1000000):oK r.id seq (jJ r)=0:=by
 have Z:=sO h 6 0 0 eB eB;rw[<-CB]at Z;have pS:=h.id;unfold oK;rw[af eB,af eB];exact Z.1
theorem lM.jh {r:iW} (h:lM r)(i:Nat)(p:jI)(Y:p.m=(r.P i).m)(X:i<r.n->oI r.id p.pe):lM (r.jh i p):=by
 refine⟨h.id,λj Z=> ?_,λj Z=> ?_,h.own,h.P5⟩;{show 1<=(lF r.P i p j).m/\(lF r.P i p j).m<=20;by_cases e:j=i;{subst e;simp only[lF,if_true];rw[Y];exact h.m j Z};{simp only[lF,if_neg e];exact h.m j Z}};{show oI r.id (lF r.P i p j).pe;by_cases e:j=i;{subst e;simp only[lF,if_true];exact X Z};{simp only[lF,if_neg e];exact h.pe j Z}}
theorem lM.behind {r:iW} (h:lM r) {seq:Int} (hs:0<=seq):lM (r.behind seq):=by
 unfold iW.behind;split;{refine⟨h.id,h.m,h.pe,⟨(seq+1,jJ r),by simp[iW.EP,wF],Ah h eB⟩,h.P5.uu h.id _⟩};{exact h}
theorem lM.seq {r:iW} (h:lM r):1<=y8 r.K r.id/\y8 r.K r.id<=1000000:=by
 obtain⟨q,Z,hs⟩:=h.own;have:=(jC hs).2.1;unfold y8;rw[Z];exact this
theorem lM.change {r:iW} (h:lM r):lM r.change:=by
 unfold iW.change;split;{exact h};{exact h.behind (by have:=h.seq;omega)}
theorem lM.zd {r:iW} (h:lM r)(Z:Nat->Int->Option PS):lM {r with O:=Z}:=⟨h.id,h.m,h.pe,h.own,h.P5⟩
theorem lM.meet {r:iW} (h:lM r)(i:Nat) {q:lK} (Y:oI r.id q):lM (r.meet i q):=by
 have Z:lM (r.jh i {r.P i with pe:=q}):=h.jh i _ rfl (λ_=>Y);unfold iW.meet;simp only;split;{exact Z};{split;{exact(Z.zd _).change.zd _};{exact(Z.zd _).change}}
def rowOf(m:Nat)(F:Nat->eA):Array eA:=(Array.range m).map F
theorem mW(m:Nat)(F:Nat->eA):(rowOf m F).size=m:=by simp[rowOf]
theorem tF(m:Nat)(F:Nat->eA)(j:Nat)(h:j<m):(rowOf m F)[j]? =μ (F j):=by simp[rowOf,h]
section
variable {P:Program}
theorem qR.loadAt {w:ew} {g o m:Nat} {F:Nat->eA} (h:qR w g o m F)(t:eE)(d:TypeDesc)(T:P.underlying t=some d)(hd:(match d with| .struct _| .array _ _=>true|_=>false)=true)(hi:(P.info? t).map (·.size)=some m):
 (fR t (π (μ ⟨g,o,ν⟩))).run P w=.ok (.agg (rowOf m F)) w:=by
 have hl:(loadCells ⟨g,o,ν⟩ (rowOf m F).toList.length).run P w=.ok (rowOf m F).toList.toArray w:=
  gJ (P:=P) w ⟨g,o,ν⟩ (rowOf m F).toList (λj v hv=>by
   have V:(⟨g,o,ν⟩:eh).add j=⟨g,o+j,ν⟩:=by unfold Addr.add;split<;>simp_all
   have X:j<m:=by
    have:=(aK.1 hv).1;simpa[rowOf]using this
   have U:(rowOf m F).toList[j]? =μ (F j):=by simpa using tF m F j X
   rw[V,h.cell j X];exact U.symm.trans hv)
 cases Y:P.info? t with
 |none=>simp[Y]at hi
 |some i=>
  have hs:i.size=m:=by simpa[Y]using hi
  have Z:(isAgg t).run P w=.ok true w:=by
   unfold isAgg;rw[fT,gD T w];cases d<;>simp_all
  simp only[Array.length_toList,Array.toArray_toList,mW]at hl;simp[fR,Instr.sureAddr,loadVar,fT,Z,sizeOf,typeInfo,Y,hs,hl]
theorem Dl(w:ew) {rest:List Oper} {a:Act} (Z:o.guard=ν)(x:Operand)(t:eE)(X:o.op=.load t x)
 (g off m:Nat) (F:Nat->eA) (d:TypeDesc) (hx:a.eval x=.pointer (some ⟨g,off,none⟩)) (hb:qR w g off m F) (U:P.underlying t=some d) (hd:(match d with| .struct _| .array _ _=>true|_=>false)=true) (hi:(P.info? t).map (·.size)=some m)
 (h:wpList P ops Q rest (a.put o.dst (.agg (rowOf m F))) w):wpList P ops Q (o::rest) a w:=by
 refine wpList_plain Z λK Y=> ?_;have V:=qR.loadAt hb t d U hd hi;unfold Oper.wp execOp;simp only[X,fT,Sem.run_pure,eO,hx,V];exact Y _ _ h
theorem oG(w:ew) {rest:List Oper} {a:Act} (Z:o.guard=ν)(x y:Operand)(t:eE)(X:o.op=.store t x y)(hd:o.dst=ν)
 (B:Nat) (C D:Array eA) (hx:a.eval x=π (μ ⟨B,0,ν⟩)) (hy:a.eval y=.agg D) (hb:ji w B C t) (hs:C.size=D.size) (hi:(P.info? t).map (·.size)=μ D.size) (Y:D.all (·.oneCell')=true)
 (h:wpList P ops Q rest a (w.setRow B D)):wpList P ops Q (o::rest) a w:=by
 refine mQ w Z x y t X B C D hx hy hb hs hi Y ?_;rw[hd];exact h
end
def zPt:Nat->eA:=λj=>if j=0 then ι κ 0 else if j=1 then π ν else if j<67 then N5 (j-2)else if j=67 then ι κ 0 else if j=68 then .bool false else if j=69 then ι κ 0 else σ ν 0 0
theorem VO:(fe.info? 142).map (λi=>(i.zero,i.size))=μ (μ (.agg (rowOf 71 zPt)),71):=ga
theorem Oj(w:ew):(zeroValue 142).run fe w=.ok (.agg (rowOf 71 zPt)) w:=(bW VO).1 w
theorem Ok:(fe.info? 142).map (·.size)=μ 71:=(bW VO).2
theorem DH.one {l:List UInt8} {e d:Bool} (h:DH F l e d)(j:Nat)(hj:j<65):(F j).oneCell'=true:=by
 by_cases Z:j<62;{obtain⟨x,hx⟩:=h.live j Z;rw[hx];rfl}
 ·have:j=62 \/j=63 \/j=64:=eB;rcases this with rfl|rfl|rfl
  {rw[h.many];rfl};{rw[h.esc];rfl};{rw[h.bad];rfl}
theorem JI {p:jI} (h:DH F p.rd.1 p.rd.2.1 p.rd.2.2)(hv:v.oneCell'=true):(rowOf 71 (xQ p B v F)).all (·.oneCell')=true:=by
 rw[Array.all_eq_true];intro j S;rw[mW]at S;have e:(rowOf 71 (xQ p B v F))[j] =xQ p B v F j:=by simp[rowOf]
 rw[e];unfold xQ;by_cases Z:j=0;{simp[Z];rfl};by_cases Y:j=1;{simp[Y];rfl};by_cases X:j<67;{simp only[Z,Y,X,if_false,if_true];exact DH.one h (j-2) eB};by_cases V:j=67;{simp[V];rfl};by_cases U:j=68;{simp[U];rfl};by_cases T:j=69;{simp[T];rfl};{simp only[Z,Y,X,V,U,T,if_false];exact hv}
theorem Row.one {xs:List eA} (h:Row w k v n xs):v.oneCell'=true:=by
 rcases h.2 with⟨e,_⟩|⟨g,c,e,_⟩
 {rw[e];rfl};{rw[e];rfl}
def Ij:Option Nat->Int
 |none=>0
 |some b=>(b:Int)
theorem LB(P:Nat->jI)(n:Int)(k b:Nat)(h:j1 P n k=μ b):b<k:=(oR h).1
theorem EX(z:Zt)(r:iW)(x:Int)(w:ew)(h:mM w z r):
 fc fe 200 #[π (μ ⟨z.R,0,ν⟩),ι κ x] w λe w'=>e=ρ (τ #[ι κ (Ij (j1 r.P x r.n)),.bool (j1 r.P x r.n).isSome])/\eH w w':=by
 have hl:=h.lt;have c1:=h.c1;have hz:=Oj;have sG:=Ok;have wj:=h.n3;have DE:=h.Og;obtain⟨n,hn⟩:=fq (r.n);have HR:Hid _:=h;have Y:Hid _:=hn;rw[hn]at c1 wj DE;rw[hn];obtain⟨Zp,TX⟩:=fq (rowOf 71 zPt);have RU:Zp.size=71:=by rw[<-TX];exact mW _ _
 rw[TX]at hz;clear h hn TX
 go_in
 go_wp2
 go_loopw [6,7,15] (λb f i wr=>∃k:Nat,k<=n/\i=ι κ k/\b=ι κ (Ij (j1 r.P x k))/\f=.bool (j1 r.P x k).isSome/\eH w wr) (λ_ _ i _=>n-(fh i).toNat)
 case atStart=>exact⟨0,Nat.zero_le _,rfl,rfl,rfl,au _ _⟩
 case round=>
  obtain⟨k,hk,rfl,rfl,rfl,iY⟩:=hrel;by_cases kL:k<n
  ·have n9:(k:Int)<(n:Int):=eB;have GF:(0:Int)<=(k:Int):=eB;have R:=HR.out.below iY;have Bh:k<r.n:=by rw[Y.out];exact kL
   have hp:=R.pt k Bh;obtain⟨F,hC,hF⟩:=hp.xR;have pK:=JI (B:=z.B k) (v:=z.v k) hF (Row.one hp.ou);have gl:=R.Kt;have d1:=R.c1;have dl:=R.lt;rw[Y.out]at d1;have HM:Hid (∀b,j1 r.P x k=μ b->wr.cell? ⟨z.g,b*71,ν⟩=μ (ι κ (r.P b).m)):=λb hb=>(R.pt b (by have:=LB _ _ _ _ hb;omega)).c0;obtain⟨D,U⟩:=fq (rowOf 71 (xQ (r.P k) (z.B k) (z.v k) F));have Ku:D.size=71:=by rw[<-U];exact mW _ _
   have a0:D[0]? =μ (ι κ (r.P k).m):=by rw[<-U];exact tF 71 _ 0 eF
   have J:D[67]? =μ (ι κ (r.P k).pe.who):=by rw[<-U];exact tF 71 _ 67 eF
   have E:D[68]? =μ (.bool (r.P k).pe.both):=by rw[<-U];exact tF 71 _ 68 eF
   rw[U]at pK;have ba:=gK wr (γ D 142);have hB:ji (wr.alloc (γ D 142)) wr.heap.size D 142:=ji.new _ _ _;have T:Hid (eH w (wr.alloc (γ D 142))):=fP iY ba;have d1':=(aj (a:=⟨z.R,1,ν⟩) (ba.block z.R dl)).trans d1;have dl':z.R<(wr.alloc (γ D 142)).heap.size:=Nat.lt_of_lt_of_le dl ba.size;have HJ:Hid (∀b,j1 r.P x k=μ b->(wr.alloc (γ D 142)).cell? ⟨z.g,b*71,ν⟩=μ (ι κ (r.P b).m)):=λb hb=>(aj (a:=⟨z.g,b*71,ν⟩) (ba.block z.g gl)).trans (HM.out b hb);have gl':z.g<(wr.alloc (γ D 142)).heap.size:=Nat.lt_of_lt_of_le gl ba.size;have jy:=dR wr Zp D 142;go_wp2_with(first
    |(refine Dl _ rfl (.tmp 18) 142 rfl z.g (k*71) 71 (xQ (r.P k) (z.B k) (z.v k) F) _ rfl hC underlying142 rfl sG ?_;rw[U])
    |(refine oG _ rfl (.tmp 9) (.tmp 19) 142 rfl rfl wr.heap.size Zp D rfl rfl (ji.new _ _ _) (by rw[RU,Ku]) (by rw[Ku];exact sG) pK ?_;rw[jy]))
   have y0:=(hB.cell 0).trans a0;have y:=(hB.cell 67).trans J;have X:=(hB.cell 68).trans E;have yl:wr.heap.size<(wr.alloc (γ D 142)).heap.size:=ag _ _ y0;obtain⟨W,hW⟩:=fq (wr.alloc (γ D 142));obtain⟨Z,hZ⟩:=fq (wr.heap.size);rw[hW]at T HJ d1' dl' gl' y0 y X yl;rw[hZ]at y0 y X yl;rw[hW,hZ];clear hW hZ jy hB ba HM pK hC hF hp R U a0 J E Ku d1 dl gl;cases hb:(r.P k).pe.both with
   |false=>
    have Y:Hid _:=wT (P:=r.P) (n:=x) (k:=k) (λhc=>by have:=hc.1;rw[hb]at this;cases this);rw[hb]at X
    go_wp2
    go_quiet(fail)
    go_wp2
    go_roundw
    case rel=>exact⟨k+1,eB,by go_num,by rw[Y.out],by rw[Y.out],below_drewN T.out _⟩
    case measure=>simp[fh];omega
   |true=>
    rw[hb]at X;cases hw:((r.P k).pe.who==x)with
    |false=>
     have Y:Hid _:=wT (P:=r.P) (n:=x) (k:=k) (λhc=>by have:=hc.2.1;simp[this]at hw)
     go_wp2
     go_quiet(fail)
     go_wp2
     go_roundw
     case rel=>exact⟨k+1,eB,by go_num,by rw[Y.out],by rw[Y.out],below_drewN T.out _⟩
     case measure=>simp[fh];omega
    |true=>
     have A:(r.P k).pe.who=x:=by simpa using hw
     cases V:j1 r.P x k with
     |none=>
      have M:Hid _:=xT (P:=r.P) (n:=x) (k:=k) ⟨hb,A,by rw[V]⟩;have e1:Ij ν=0:=rfl;have e2:(ν:Option Nat).isSome=false:=rfl;rw[e1,e2]
      go_wp2
      go_quiet(fail)
      go_wp2
      go_roundw
      case rel=>exact⟨k+1,eB,by go_num,by rw[M.out];rfl,by rw[M.out];rfl,below_drewN T.out _⟩
      case measure=>simp[fh];omega
     |some b=>
      have Zj:=LB _ _ _ _ V;have hM:=HJ.out b V;have kO:(b:Int)<(n:Int):=eB;have yW:(0:Int)<=(b:Int):=eB;have e1:Ij (μ b)=(b:Int):=rfl;have e2:(μ b:Option Nat).isSome=true:=rfl;by_cases S:(r.P k).m<(r.P b).m
      ·have M:Hid _:=xT (P:=r.P) (n:=x) (k:=k) ⟨hb,A,by rw[V];simp[S]⟩;have hmd:decide ((r.P k).m<(r.P b).m)=true:=by simp[S]
       rw[e1,e2];clear S V
       go_wp2
       go_quiet(fail)
       go_wp2
       go_roundw
       case rel=>exact⟨k+1,eB,by go_num,by rw[M.out];rfl,by rw[M.out];rfl,below_drewN T.out _⟩
       case measure=>simp[fh];omega
      ·have Y:Hid (j1 r.P x (k+1)=μ b):=(wT (P:=r.P) (n:=x) (k:=k) (λhc=>by have:=hc.2.2;rw[V]at this;simp[S]at this)).trans V;have hmd:decide ((r.P k).m<(r.P b).m)=false:=by simp[S]
       rw[e1,e2];clear S V
       go_wp2
       go_quiet(fail)
       go_wp2
       go_roundw
       case rel=>exact⟨k+1,eB,by go_num,by rw[Y.out];rfl,by rw[Y.out];rfl,below_drewN T.out _⟩
       case measure=>simp[fh];omega
  ·have Bh:k=n:=eB;subst Bh
   go_wp2
   go_ret2
   exact⟨rfl,iY⟩
def GZ(r:iW)(k:Nat):List jQ:=(ft k).filterMap λ(j:Nat)=>(j1 r.P ((j:Int)+1) r.n).map λb=>((j:Int)+1,(r.P b).m)
theorem RV {r:iW} (h:j1 r.P ((k:Int)+1) r.n=ν):GZ r (k+1)=GZ r k:=by
 unfold GZ;rw[cg,bJ];simp[h]
theorem RW {r:iW} {b:Nat} (h:j1 r.P ((k:Int)+1) r.n=μ b):GZ r (k+1)=GZ r k++ [((k:Int)+1,(r.P b).m)] :=by
 unfold GZ;rw[cg,bJ];simp[h]
theorem EY(z:Zt)(r:iW)(w:ew)(h:mM w z r):
 fc fe 179 #[π (μ ⟨z.R,0,ν⟩)] w λe w'=>∃v,e=ρ v/\Made w w' v (jJ r):=by
 obtain⟨i0,hi,oN,nG,mS⟩:=aX zP;have HR:Hid _:=h;clear h
 go_in
 go_wp2
 go_loopw [3,7] (λout i wr=>∃(k:Nat) (ao:Option eh) (m cp:Nat),k<=6/\out=σ ao m cp/\i=ι κ k/\m<=k/\Row wr 2 (σ ao m cp) m (je (GZ r k))/\(∀j,eD (σ ao m cp)=μ j->w.heap.size<=j)/\eH w wr) (λ_ i _=>6-(fh i).toNat)
 case atStart=>exact⟨0,ν,0,0,Nat.zero_le _,rfl,rfl,Nat.le_refl _,by simpa[GZ,je]using Row.nil w 2,λj A=>ny A,au _ _⟩
 case round=>
  obtain⟨k,ao,m,cp,hk,rfl,rfl,hmk,V,T,X⟩:=hrel;by_cases kL:k<6
  ·have n9:(k:Int)<6:=eB;have GF:(0:Int)<=(k:Int):=eB;have R:=HR.out.below X;have Z:=EX z r ((k:Int)+1) wr R;cases hb:j1 r.P ((k:Int)+1) r.n with
   |none=>
    have Z:fc fe 200 #[π (μ ⟨z.R,0,ν⟩),ι κ ((k:Int)+1)] wr λe w'=>e=ρ (τ #[ι κ 0,.bool false])/\eH wr w':=by
     rw[hb]at Z;exact Z
    have E:Hid _:=RV hb;have Y:Hid _:=V;have M:Hid _:=X;clear R hb V X;go_wp2_with(fail);refine Z.mono ?_;rintro e w1 ⟨rfl,b1⟩;clear Z
    go_wp2
    go_roundw
    case rel=>exact⟨k+1,_,m,cp,eB,rfl,by go_num,eB,by rw[E.out];exact Row.below Y.out b1,T,fP M.out b1⟩
    case measure=>simp[fh];omega
   |some b=>
    have Z:fc fe 200 #[π (μ ⟨z.R,0,ν⟩),ι κ ((k:Int)+1)] wr λe w'=>e=ρ (τ #[ι κ (b:Int),.bool true])/\eH wr w':=by
     rw[hb]at Z;exact Z
    have E:Hid _:=RW hb;have D:=(oR hb).1;have J:Hid _:=R;have Y:Hid _:=V;have M:Hid _:=X;clear R hb V X;go_wp2_with(fail);refine Z.mono ?_;rintro e w1 ⟨rfl,b1⟩;have U:=J.out.below b1;have d1:=U.c1;have dl:=U.lt;have gl:=U.Kt;have g0:=(U.pt b D).c0;have kO:(b:Int)<(r.n:Int):=eB;have yW:(0:Int)<=(b:Int):=eB;have wE:=Row.below Y.out b1;have S:=fP M.out b1;clear Z U;go_wp2_with(at_builtin;go_must(refine iU _ rfl (.tmp 18) (.tmp 30) 38 rfl 123 i0 (.agg #[ι κ 0,ι κ 0]) 2 16 underlying38 hi oN nG mS rfl eF (σ ao m cp) m (je (GZ r k)) rfl (wE.alloc _) _ 1 1 [ι κ ((k:Int)+1),ι κ (r.P b).m] rfl rfl eF (nF _ _ _ _ _ ik) (l8 _ _ _ _) (by unfold maxLen;omega) eB ?_));intro g' jH w2 lE kR jR;have m7:=mF (S.alloc S.size _) kR T;have mP:=oo (B:=w.heap.size) jR (by have:=S.size;omega) T;rw[show [ι .i64 ((k:Int)+1),ι .i64 (r.P b).m] =[ι .i64 (((k:Int)+1,(r.P b).m):jQ).1,ι .i64 (((k:Int)+1,(r.P b).m):jQ).2]from rfl,<-mN,<-E.out]at lE;clear kR jR
    go_wp2
    go_roundw
    case rel=>exact⟨k+1,_,m+1,jH,eB,rfl,by go_num,eB,lE,λj A=>kS mP A,m7⟩
    case measure=>simp[fh];omega
  ·have y:k=6:=eB;subst y;have Da:m=(jJ r).length:=by have:=V.1;rw[lH]at this;show m=(GZ r 6).length;omega
   go_wp2
   go_ret;exact⟨_,rfl,⟨by rw[<-Da];exact V,T,X⟩⟩
theorem A7(a b:Option eh)(ca D n m:Nat)(os qs:List jQ)(w:ew)(M:jm w a n os)(hb:jm w b m qs)(hn:n<=1000000)(hm:m<=1000000):
 fc fe 178 #[σ a n ca,σ b m D] w λe w'=>e=ρ (.bool (decide (os=qs)))/\∃k,w'=w.drewN k:=by
 have hl:=M.1;have Je:=hb.1;by_cases E:n=m
 ·subst E;have heq:((n:Int) !=(n:Int))=false:=ik
  go_in
  go_wp2
  go_loopw [13] (λi wr=>∃k m:Nat,k<=n/\i=ι κ k/\os.take k=qs.take k/\wr=w.drewN m) (λi _=>n-(fh i).toNat)
  case atStart=>exact⟨0,0,Nat.zero_le _,rfl,rfl,rfl⟩
  case round=>
   obtain⟨k,m,hk,rfl,S,rfl⟩:=hrel;have T:Hid _:=S;clear S;by_cases kL:k<n
   ·rcases M.2 with hA|⟨b1,o1,rfl,hA⟩
    ·omega
    rcases hb.2 with X|⟨b2,o2,rfl,X⟩
    ·omega
    obtain⟨c1,c2⟩:=hA k eB;obtain⟨c3,c4⟩:=X k eB;have V:Hid (os.take (k+1)=os.take k++ [os[k]'(by omega)]):=az eB;have U:Hid (qs.take (k+1)=qs.take k++ [qs[k]'(by omega)]):=az eB;have Y:Hid (os=qs->os[k]'(by omega)=qs[k]'(by omega)):=λh=>by subst h;rfl
    clear hA X;generalize os[k]'(by omega)=o at c1 c2 V Y;generalize qs[k]'(by omega)=q at c3 c4 U Y;have n9:(k:Int)<(n:Int):=eB;cases q1:(o.1==q.1)
    ·have Z:Hid (decide (os=qs)=false):=by
      show _=_;rw[bk];intro h;have:=Y.out h;rw[this]at q1;simp at q1
     go_wp2
     go_quiet(fail)
     go_wp2_with(fail);rw[Z.out];go_ret;exact⟨rfl,_,drewN_drewN _ _ _⟩
    ·cases q2:(o.2==q.2)
     ·have Z:Hid (decide (os=qs)=false):=by
       show _=_;rw[bk];intro h;have:=Y.out h;rw[this]at q2;simp at q2
      go_wp2
      go_quiet(fail)
      go_wp2_with(fail);rw[Z.out];go_ret;exact⟨rfl,_,drewN_drewN _ _ _⟩
     ·have J:Hid (os.take (k+1)=qs.take (k+1)):=by
       show _=_;rw[V.out,U.out,T.out];simp at q1 q2;congr 2;exact aU q1 q2
      go_wp2
      go_quiet(fail)
      go_wp2
      go_roundw
      case rel=>exact⟨k+1,_,eB,by go_num,J.out,rfl⟩
      case measure=>simp[fh];omega
   ·have um:decide (os=qs)=true:=by
     have A:os.take k=os:=aH eB;have y:qs.take k=qs:=aH eB;have:=T.out;rw[A,y]at this;simp[this]
    go_wp2_with(fail);rw[um];go_ret;exact⟨rfl,m,rfl⟩
 ·have heq:((n:Int) !=(m:Int))=true:=by simp;omega
  have Z:decide (os=qs)=false:=by
   rw[bk];intro h;subst h;omega
  rw[Z]
  go_in
  go_wp2
  go_ret;exact⟨rfl,0,rfl⟩
theorem RX(C:k8)(o:Nat)(e:jQ)(es:List jQ):nH C o (e::es)=nH (ux C o e.1.toNat e.2) o es:=rfl
theorem P6(o:Nat)(own:Int)(x y:Nat):∀(es:List jQ) (Y:Int) (C:k8),qP own Y es=0->nH C o es x y=if x=o then((es.find? λe=>e.1==(y:Int)).map (·.2)).getD (C x y)else C x y
 |[],_,C,_=>by
  show C x y=_;split<;>simp
 |e::es,Y,C,h=>by
  unfold qP at h;split at h;{simp at h}
  ·rename_i h1
   split at h;{simp at h}
   ·rw[RX,P6 o own x y es e.1 _ h];by_cases hx:x=o
    ·rw[ai hx,ai hx,List.find?_cons];by_cases hy:e.1=(y:Int)
     ·have Z:(e.1==(y:Int))=true:=by simp[hy]
      rw[Z];have X:es.find? (λe=>e.1==(y:Int))=ν:=by
       rw[List.find?_eq_none];intro f hf;have:=P7 own es e.1 h f hf;simp;omega
      rw[X];simp only[Option.map_none,Option.getD_none,Option.map_some,Option.getD_some,ux];rw[ai ⟨hx,eB⟩]
     ·have Z:(e.1==(y:Int))=false:=by simp[hy]
      rw[Z];have:ux C o e.1.toNat e.2 x y=C x y:=by
       simp only[ux];rw[af eB]
      rw[this]
    ·rw[af hx,af hx];simp only[ux];rw[af eB]
where
 P7 (own:Int):∀(es:List jQ) (ah:Int),qP own ah es=0->∀f∈es,ah<f.1
  |[],_,_,f,hf=>by simp at hf
  |e::es,ah,h,f,hf=>by
   unfold qP at h;split at h;{simp at h}
   ·split at h;{simp at h}
    ·rcases aP.1 hf with rfl|hf
     {omega};{have:=P7 own es e.1 h f hf;omega}
def TY(es:List jQ)(y:Nat):Int:=((es.find? λe=>e.1==(y:Int)).map (·.2)).getD 0
theorem LC {K:Int->Option PS} {n:Nat} {S:Nat->SV} {E:Nat->List jQ} (h:tD K n S E)(x y:Nat):∀k,k<=n->(∀j,j<k->(S j).own=(x:Int)->j7 S E k x y=TY (E j) y)/\((∀j,j<k->(S j).own≠(x:Int))->j7 S E k x y=0)
 |0,_=>⟨λj Z=>eB,λ_=>rfl⟩
 |k+1,hk=>by
  have ih:=LC h x y k eB;have M:=h.ok k eB;obtain⟨ho,_,_,U⟩:=jC M;have V:j7 S E (k+1) x y=if x=(S k).own.toNat then(((E k).find? λe=>e.1==(y:Int)).map (·.2)).getD (j7 S E k x y)else j7 S E k x y:=P6 (S k).own.toNat (S k).own x y (E k) 0 (j7 S E k) U
  rw[V];by_cases hx:x=(S k).own.toNat
  ·rw[ai hx];have T:j7 S E k x y=0:=ih.2 (λj Z e=>by
    have:=h.Rj j k Z eB;omega)
   rw[T];refine⟨λj Z hs=> ?_,λX=>absurd eB (X k eB)⟩;by_cases Y:j=k;{subst Y;rfl};{have:=h.Rj j k eB eB;omega}
  ·rw[af hx];refine⟨λj Z hs=> ?_,λX=>ih.2 (λj Z=>X j eB)⟩;by_cases Y:j=k;{subst Y;omega};{exact ih.1 j eB hs}
theorem tD.grid {S:Nat->SV} {E:Nat->List jQ} (h:tD K n S E)(U:Yf K):j7 S E n=qu K:=by
 funext x y
 have X:=LC h x y n (Nat.le_refl _);unfold qu;cases Y:K (x:Int)with
 |none=>
  simp only;refine X.2 (λj Z e=> ?_);have:=(h.at_ j Z).2;rw[e,Y]at this;cases this
 |some q=>
  simp only;have hr:=U x (by rw[Y];rfl);obtain⟨j,Z,V⟩:=h.all x ⟨eB,eB⟩ (by rw[Y];rfl);rw[X.1 j Z V];have:=(h.at_ j Z).2;rw[V,Y]at this;have:=(dQ (Option.some.inj this)).2;unfold TY;rw[<-this]
end Rt
variable {ao:Option Addr} {cp j k lo:Nat} {o:Obj} {ok:List jQ} {u v:Value} {w w1 wr x1:World}
theorem vA {b:Nat} (Y:∀k,v.ownBlock=μ k->lo+2<=k)(Z:(wr.alloc o).drew.grownBy x1 v.ownBlock)(hb:b<lo+2)(X:b<wr.heap.size):x1.heap[b]? =wr.heap[b]? :=by
 rw[Z.block b (by show b<(wr.alloc o).heap.size;simp;omega) (λe=>by have:=Y b e.symm;omega)];exact aV wr o b X
theorem RY(Y:∀k,v.ownBlock=μ k->lo+2<=k)(Z:(wr.alloc o).drew.grownBy x1 v.ownBlock)(hc:wr.cell? ⟨lo+1,j,ν⟩=μ u):x1.cell? ⟨lo+1,j,ν⟩=μ u:=by
 have X:lo+1<wr.heap.size:=ag wr _ hc;rw[aj (w:=wr) (a:=⟨lo+1,j,ν⟩) (vA (b:=lo+1) Y Z eB X)];exact hc
theorem LD(Y:∀k,v.ownBlock=μ k->lo+2<=k)(Z:(wr.alloc o).drew.grownBy x1 v.ownBlock)(hc:wr.cell? ⟨lo+1,j,ν⟩=μ u)(hf:wr.frozen? ⟨lo+1,j,ν⟩=false):x1.frozen? ⟨lo+1,j,ν⟩=false:=by
 have X:lo+1<wr.heap.size:=ag wr _ hc;rw[aL (w:=wr) (a:=⟨lo+1,j,ν⟩) (vA (b:=lo+1) Y Z eB X)];exact hf
theorem E4(s:ByteArray)(k:Nat)(h:k<s.size):s.data.toList.drop k=s[k] ::s.data.toList.drop (k+1):=by
 rw[aR (by simpa using h)];rfl
theorem Ai(Y:wr.heap[w.heap.size]? =μ (γ #[ι κ 0,ι κ 0,σ ν 0 0] 40 (0,0)))(hb:eH wr w1):
 w1.cell? ⟨w.heap.size,0,ν⟩=μ (ι κ 0)/\w1.cell? ⟨w.heap.size,1,ν⟩=μ (ι κ 0)/\w1.cell? ⟨w.heap.size,2,ν⟩=μ (σ ν 0 0)/\∀j,w1.frozen? ⟨w.heap.size,j,ν⟩=false:=by
 have X:w.heap.size<wr.heap.size:=(ay.1 Y).1;have Z:w1.heap[w.heap.size]? =μ (γ #[ι κ 0,ι κ 0,σ ν 0 0] 40 (0,0)):=by rw[hb.block _ X];exact Y
 exact⟨ax w1 _ 0 _ 40 (0,0) Z,ax w1 _ 1 _ 40 (0,0) Z,ax w1 _ 2 _ 40 (0,0) Z,λj=>bF w1 _ j _ 40 Z⟩
theorem VP(x y k:Nat)(hx:x<2^k)(hs:2^k*y+x<2^62):bits .or .i64 (x:Int) ((2^k*y:Nat):Int)=((2^k*y+x:Nat):Int):=by
 have Z:(fA 64 (x:Int)|||BitVec.ofInt 64 ((2^k*y:Nat):Int)).toNat=2^k*y+x:=by
  rw[BitVec.toNat_or,gL,gL,gM,gM,Nat.mod_eq_of_lt eB,Nat.mod_eq_of_lt eB,Nat.or_comm];exact(Nat.two_pow_add_eq_or_of_lt hx y).symm
 show κ.wrap ((fA 64 (x:Int)|||BitVec.ofInt 64 ((2^k*y:Nat):Int)).toNat:Int)=_;rw[Z,IntKind.wrap_i64];omega
theorem alG(x y:Nat)(hx:x<256)(hy:y<256):bits .or .i64 (x:Int) ((y:Int)*(256:Int))=(x:Int)+(256:Int)*(y:Int):=by
 have h:=VP x y 8 eB eB;have e:((2^8*y:Nat):Int)=(y:Int)*256:=eB;rw[e]at h;rw[h];omega
theorem alH(x y:Nat)(hx:x<65536)(hy:y<256):bits .or .i64 (x:Int) ((y:Int)*(65536:Int))=(x:Int)+(65536:Int)*(y:Int):=by
 have h:=VP x y 16 eB eB;have e:((2^16*y:Nat):Int)=(y:Int)*65536:=eB;rw[e]at h;rw[h];omega
def BA(E:Nat->eA)(l:List UInt8)(w:ew)(e:Ending)(w':ew):Prop:=
 ∃(a:Option eh) (n cap f:Nat) (own seq:Int) (os:List jQ),e=ρ (τ #[.agg #[ι κ own,ι κ seq,σ a n cap],E f])/\jm w' a n os/\n<=cap/\iB l=(own,seq,os,f)/\eH w w'/\kY a cap
theorem CD(s:ByteArray)(Q:Int)(h4:4<=s.size)(heq:s.size%2=0)(Z:(s[1].toNat:Int)+(256:Int)*(s[2].toNat:Int)+(65536:Int)*(s[3].toNat:Int)=Q):
 iB s.data.toList=if oK (s[0].toNat:Int) Q (pairs (s.data.toList.drop 4))=0 then((s[0].toNat:Int),Q,pairs (s.data.toList.drop 4),0)else(0,0,[],4):=by
 have hl:s.data.toList.length=s.size:=ik;have Y:KZ s.data.toList=Q:=by
  unfold KZ;rw[oq s 1 eB,oq s 2 eB,oq s 3 eB,Z]
 unfold iB;rw[Y,oq s 0 eB,hl,af eB]
theorem Ik {x y z:eA} (Y:Row w1 2 (σ ao k cp) k (je ok))(X:∀j,eD (σ ao k cp)=μ j->w.heap.size+2<=j)(hb:eH w w1):
 jm (((w1.setCell ⟨w.heap.size,0,ν⟩ x).setCell ⟨w.heap.size,1,ν⟩ y).setCell ⟨w.heap.size,2,ν⟩ z) ao k ok/\eH w (((w1.setCell ⟨w.heap.size,0,ν⟩ x).setCell ⟨w.heap.size,1,ν⟩ y).setCell ⟨w.heap.size,2,ν⟩ z):=by
 refine⟨Row.opts (Y.keep ik (λj Z=> ?_)),((hb.setCell (Nat.le_refl _) _).setCell (Nat.le_refl _) _).setCell (Nat.le_refl _) _⟩;have:=X j Z;rw[aq _ _ _ _ (by show j≠w.heap.size;omega),aq _ _ _ _ (by show j≠w.heap.size;omega),aq _ _ _ _ (by show j≠w.heap.size;omega)]
theorem G0(w:ew)(a b:Obj):((w.alloc a).alloc b).drew.heap[w.heap.size+1]? =μ b:=by
 have h:=aY (w.alloc a) b;have e:(w.alloc a).heap.size=w.heap.size+1:=ik;rw[e]at h;exact h
theorem E5(w:ew)(a b:Obj):((w.alloc a).alloc b).drew.heap[w.heap.size]? =μ a:=by
 show((w.alloc a).alloc b).heap[w.heap.size]? =μ a;rw[aV (w.alloc a) b w.heap.size ik];exact aY w a
theorem Ol {ob:Obj} {g' jH:Nat} {c d:Int} {x y:Nat}
 (U:wr.heap[w.heap.size+1]? =μ (γ #[ι κ c,ι κ d,σ ao k cp] 40 (0,0)))
 (M:wr.heap[w.heap.size]? =μ (γ #[ι κ 0,ι κ 0,σ ν 0 0] 40 (0,0)))
 (_hrow:Row wr 2 (σ ao k cp) k (je ok)) (Y:∀j,eD (σ ao k cp)=μ j->w.heap.size+2<=j) (S:eH w wr)
 (T:Row x1 2 (σ (μ ⟨g',0,ν⟩) (k+1) jH) (k+1) (je ok++ [ι κ (κ.wrap (x:Int)),ι κ (κ.wrap (y:Int))]))
 (X:(wr.alloc ob).drew.grownBy x1 (eD (σ ao k cp))) (E:eD (σ ao k cp)=μ g' \/(wr.alloc ob).drew.heap.size<=g') (hx:x<2^8) (hy:y<2^8):
 Row (x1.setCell ⟨w.heap.size+1,2,ν⟩ (σ (μ ⟨g',0,ν⟩) (k+1) jH)) 2 (σ (μ ⟨g',0,ν⟩) (k+1) jH) (k+1) (je (ok++ [((x:Int),(y:Int))]))/\
 (x1.setCell ⟨w.heap.size+1,2,ν⟩ (σ (μ ⟨g',0,ν⟩) (k+1) jH)).heap[w.heap.size+1]? =μ (γ #[ι κ c,ι κ d,σ (μ ⟨g',0,ν⟩) (k+1) jH] 40 (0,0))/\
 (x1.setCell ⟨w.heap.size+1,2,ν⟩ (σ (μ ⟨g',0,ν⟩) (k+1) jH)).heap[w.heap.size]? =μ (γ #[ι κ 0,ι κ 0,σ ν 0 0] 40 (0,0))/\
 (∀j,eD (σ (μ ⟨g',0,ν⟩) (k+1) jH)=μ j->w.heap.size+2<=j)/\eH w (x1.setCell ⟨w.heap.size+1,2,ν⟩ (σ (μ ⟨g',0,ν⟩) (k+1) jH)):=by
 have D:w.heap.size+1<wr.heap.size:=(ay.1 U).1;have k1:=vA (b:=w.heap.size+1) Y X eB D;have k0:=vA (b:=w.heap.size) Y X eB eB;have TU:(wr.alloc ob).drew.heap.size=wr.heap.size+1:=by show(wr.alloc ob).heap.size=_;simp
 have GU:w.heap.size+2<=g':=by
  rcases E with h|h
  {exact Y g' h};{omega}
 have V:x1.heap[w.heap.size+1]? =μ (γ #[ι κ c,ι κ d,σ ao k cp] 40 (0,0)):=by rw[k1];exact U
 refine⟨?_,?_,?_,?_,?_⟩
 ·have ex:κ.wrap (x:Int)=(x:Int):=aS _ ⟨eB,eB⟩;have J:κ.wrap (y:Int)=(y:Int):=aS _ ⟨eB,eB⟩;rw[ex,J,<-mN ok ((x:Int),(y:Int))]at T;refine T.keep ik (λj Z=> ?_);have:g'=j:=by simpa[eD]using Z
  exact aq _ _ _ _ (by show j≠w.heap.size+1;omega)
 {rw[bP x1 (w.heap.size+1) 2 _ 40 (0,0) _ V];exact cG x1 _ _ _ 40 (0,0) V};{rw[aq _ _ _ _ (by show w.heap.size≠w.heap.size+1;omega),k0];exact M}
 ·intro j Z;have:g'=j:=by simpa[eD]using Z
  omega
 ·have A:eH w (wr.alloc ob).drew:=(S.alloc S.size _).drew;refine bD ?_ (by show w.heap.size<=w.heap.size+1;omega) _;refine A.grown X eB (λj Z=> ?_);have:=Y j Z;omega
theorem Om(s:ByteArray)(w:ew)(h4:4<=s.size)(hs:s.size<=16)(heq:s.size%2=0):
 fc fe 188 #[.string s] w λe w'=>BA jB s.data.toList w e w':=by
 obtain⟨i0,hi,oN,nG,mS⟩:=aX zP;have hz:=qo;have g1:¬(s.size:Int)<4:=eB;have g2:¬(16:Int)<(s.size:Int):=eB;have g3:(((s.size:Int)-4) %2 !=0)=false:=by rw[bne_eq_false_iff_eq];omega
 have HE:Hid _:=heq;clear heq;have b0:0<s.size:=eB;have b1:1<s.size:=eB;have b2:2<s.size:=eB;have b3:3<s.size:=eB;have yW:=s[0].toNat_lt;have Y:=s[1].toNat_lt;have m7:=s[2].toNat_lt;have r9:=s[3].toNat_lt;have z0:(0:Int)<(s.size:Int):=eB;have z1:(1:Int)<(s.size:Int):=eB;have z2:(2:Int)<(s.size:Int):=eB;have z3:(3:Int)<(s.size:Int):=eB;obtain⟨Q,hQ⟩:∃Q:Int,(s[1].toNat:Int)+(256:Int)*(s[2].toNat:Int)+(65536:Int)*(s[3].toNat:Int)=Q:=⟨_,rfl⟩
 have ho1:=alG s[1].toNat s[2].toNat eB eB;have Zn:bits .or .i64 ((s[1].toNat:Int)+(256:Int)*(s[2].toNat:Int)) ((s[3].toNat:Int)*(65536:Int))=Q:=by
  have:=alH (s[1].toNat+256*s[2].toNat) s[3].toNat eB eB;push_cast at this;rw[this,hQ]
 have U:Hid _:=hQ
 go_in
 go_wp2
 go_region
 go_wp2_with(fail)
 try rw[U.out]
 try clear hQ
 try clear ho1
 try clear Zn
 obtain⟨Z,S⟩:∃Z:Int,(s[0].toNat:Int)=Z:=⟨_,rfl⟩
 have E:Hid _:=S;rw[S];clear S yW Y m7 r9
 go_loopw [5] (λi wr=>∃(k cp:Nat) (ao:Option eh) (ok:List jQ),4+2*k<=s.size/\i=ι κ ((4+2*k:Nat):Int)/\ok.length=k/\pairs (s.data.toList.drop 4)=ok++pairs (s.data.toList.drop (4+2*k))/\Row wr 2 (σ ao k cp) k (je ok)/\
  wr.heap[w.heap.size+1]? =μ (γ #[ι κ Z,ι κ Q,σ ao k cp] 40 (0,0))/\wr.heap[w.heap.size]? =μ (γ #[ι κ 0,ι κ 0,σ ν 0 0] 40 (0,0))/\
  (∀j,eD (σ ao k cp)=μ j->w.heap.size+2<=j)/\eH w wr)
  (λi _=>s.size-(fh i).toNat)
 case atStart=>
  refine⟨0,0,ν,[],eB,rfl,rfl,rfl,Row.nil _ _,?_,?_,λj hj=>by simp[eD]at hj,(((au _ _).alloc (Nat.le_refl _) _).alloc ik _).drew⟩;{exact G0 w _ _};{exact E5 w _ _}
 case round=>
  obtain⟨k,cp,ao,ok,hk,rfl,jb,h,X,Lw,EI,jy,iY⟩:=hrel;have hP:Hid _:=h;clear h;have cv:wr.cell? ⟨w.heap.size+1,2,ν⟩=μ (σ ao k cp):=ax wr _ 2 _ 40 (0,0) Lw;have fv:wr.frozen? ⟨w.heap.size+1,2,ν⟩=false:=bF wr _ 2 _ 40 Lw;have Zg:w.heap.size+1<wr.heap.size:=ag wr _ cv;have V:Hid _:=Lw;have T:Hid _:=EI;clear Lw EI;by_cases kL:4+2*k<s.size
  ·have GH:4+2*k+1<s.size:=by have:=HE.out;omega
   obtain⟨q,hq⟩:∃q,q=4+2*k:=⟨_,rfl⟩
   rw[<-hq]at kL GH;have HQ:Hid _:=hq;have y0:(0:Int)<=(q:Int):=eB;have y1:(q:Int)<(s.size:Int):=eB;have y2:(q:Int)+1<(s.size:Int):=eB;have y3:(0:Int)<=(q:Int)+1:=eB;have yw:κ.wrap ((q:Int)+1)=(q:Int)+1:=aS _ ⟨eB,eB⟩;have hbq:=s[q].toNat_lt;have alh:=s[q+1].toNat_lt;have m1:k+1<=maxLen:=by unfold maxLen;omega
   have bb1:(k+1)*16<=140737488355328:=eB;rw[<-hq];clear hq;have HP2:Hid (pairs (s.data.toList.drop 4)=(ok++ [((s[q].toNat:Int),(s[q+1].toNat:Int))])++pairs (s.data.toList.drop (4+2*(k+1)))):=by
    show pairs (s.data.toList.drop 4)=_;rw[hP.out,<-HQ.out,E4 s q kL,E4 s (q+1) GH];have J:q+1+1=4+2*(k+1):=by have:=HQ.out;omega
    rw[J];simp[pairs]
   go_wp2
   go_region_law ((refine mE (by rfl) (.tmp 47) (.tmp 58) 38 (by rfl) 123 i0 (.agg #[ι κ 0,ι κ 0]) 2 16 underlying38 hi oN nG mS (by rfl) eF (σ ao k cp) k (je ok) (by rfl) ((X.alloc _).drew) _ 1 1 [ι κ (κ.wrap (s[q].toNat:Int)),ι κ (κ.wrap (s[q+1].toNat:Int))] (by rfl) (by rfl) eF (ET _ _ _ _) (l8 _ _ _ _) m1 bb1 ?_;intro g' jH x1 lE kR jR;have c1:=RY jy kR cv;have f1:=LD jy kR cv fv))
   all_goals have hS:=Ol (c:=Z) (d:=Q) V.out T.out X jy iY lE kR jR s[q].toNat_lt s[q+1].toNat_lt
   all_goals clear lE kR jR c1 f1
   all_goals go_wp2_with(fail)
   all_goals go_roundw
   all_goals first
    |exact⟨k+1,jH,some ⟨g',0,none⟩,_,by have:=HQ.out;omega,by have:=HQ.out;go_num,by simp[jb],HP2.out,hS⟩
    |(simp[fh];omega)
  ·have hkm:4+2*k=s.size:=eB;have VD:pairs (s.data.toList.drop 4)=ok:=by
    rw[hP.out,hkm,bg (by show s.size<=s.size;omega)];simp[pairs]
   have yR:=X.opts;have DE:k<=cp/\kY ao cp:=⟨X.Ud,λe=>by
    rcases X.2 with⟨J,_⟩|⟨g,c,J,_⟩
    ·exact(bQ J).2.2
    ·rw[e]at J;cases (bQ J).1⟩
   have c0:wr.cell? ⟨w.heap.size+1,0,ν⟩=μ (ι κ Z):=ax wr _ 0 _ 40 (0,0) V.out;have c1:wr.cell? ⟨w.heap.size+1,1,ν⟩=μ (ι κ Q):=ax wr _ 1 _ 40 (0,0) V.out;have M:=yQ Z Q ao k cp ok wr eB yR;have HK:Hid _:=VD;clear hP VD hkm;by_cases hf:oK Z Q ok=0
   ·have D:jB 0=η:=rfl;rw[hf,D]at M;clear D;have HF:Hid _:=hf;clear hf;go_wp2_with(fail);refine M.mono ?_;rintro e w1 ⟨rfl,Y⟩;have d0:=(Y.cell (p:=⟨w.heap.size+1,0,ν⟩) Zg).trans c0;have d1:=(Y.cell (p:=⟨w.heap.size+1,1,ν⟩) Zg).trans c1;have d2:=(Y.cell (p:=⟨w.heap.size+1,2,ν⟩) Zg).trans cv;obtain⟨r0,r1,r2,r3⟩:=Ai T.out Y;have wi:=fP iY Y;have A:=Ik (x:=ι κ Z) (y:=ι κ Q) (z:=σ ao k cp) (X.below Y) jy wi;have HV:Hid (iB s.data.toList=(Z,Q,ok,0)):=by
     show iB s.data.toList=_;rw[CD s Q h4 HE.out U.out,E.out,HK.out,ai HF.out]
    clear M Y c0 c1 cv X;go_wp2_with(fail);refine aE (v:=τ #[.agg #[ι κ Z,ι κ Q,σ ao k cp],η]) (by simp[results,results188,go_sem,r0,r1,r2]) rfl ?_;exact⟨ao,k,cp,0,_,_,ok,rfl,A.1,DE.1,HV.out,A.2,DE.2⟩
   ·have D:jB (oK Z Q ok)=.iface 128 (ι κ (oK Z Q ok:Int)):=by simp[jB,hf]
    rw[D]at M;clear D;have HF:Hid _:=hf;clear hf;have HV:Hid (iB s.data.toList=(0,0,[],4)):=by
     show iB s.data.toList=_;rw[CD s Q h4 HE.out U.out,E.out,HK.out,af HF.out]
    generalize oK Z Q ok=ff at M;go_wp2_with(fail);refine M.mono ?_;rintro e w1 ⟨rfl,Y⟩;obtain⟨r0,r1,r2,r3⟩:=Ai T.out Y;have wi:=fP iY Y;have A:=Ik (ok:=[]) (ao:=ν) (k:=0) (cp:=0) (x:=ι κ 0) (y:=ι κ 0) (z:=σ ν 0 0) (Row.nil w1 2) (λj hj=>by simp[eD]at hj) wi;clear M Y c0 c1 cv X yR;go_wp2_with(fail);refine aE (v:=τ #[.agg #[ι κ 0,ι κ 0,σ ν 0 0],.iface 128 (ι κ 4)]) (by simp[results,results188,go_sem,r0,r1,r2]) rfl ?_;exact⟨ν,0,0,4,0,0,[],rfl,A.1,Nat.le_refl _,HV.out,A.2,λ_=>rfl⟩
theorem RZ(s:ByteArray)(w:ew)(hs:s.size<=maxLen)(h:iB s.data.toList=(0,0,[],4))(hb:s.size<4 \/16<s.size \/s.size%2=1):
 fc fe 188 #[.string s] w λe w'=>BA jB s.data.toList w e w':=by
 have hz:=qo;have Z:Hid _:=h;clear h;unfold maxLen at hs;have V:=gK w (γ #[ι κ 0,ι κ 0,σ ν 0 0] 40);have X:jm (w.alloc (γ #[ι κ 0,ι κ 0,σ ν 0 0] 40)) ν 0 [] :=⟨rfl,.inl rfl⟩
 have g0:(0:Int)<=(s.size:Int):=eB;rcases(show s.size<4 \/(4<=s.size/\16<s.size) \/(4<=s.size/\s.size<=16/\s.size%2=1) by omega)with Y|Y|Y
 ·have g1:(s.size:Int)<4:=eB
  go_in
  go_wp2_with(fail);refine aE (v:=τ #[.agg #[ι κ 0,ι κ 0,σ ν 0 0],.iface 128 (ι κ 4)]) (by simp[results,results188,go_sem]) rfl ?_;exact⟨ν,0,0,4,0,0,[],rfl,X,Nat.le_refl _,Z.out,V,λ_=>rfl⟩
 ·have g1:¬(s.size:Int)<4:=eB;have U:(16:Int)<(s.size:Int):=eB
  go_in
  go_wp2_with(fail);refine aE (v:=τ #[.agg #[ι κ 0,ι κ 0,σ ν 0 0],.iface 128 (ι κ 4)]) (by simp[results,results188,go_sem]) rfl ?_;exact⟨ν,0,0,4,0,0,[],rfl,X,Nat.le_refl _,Z.out,V,λ_=>rfl⟩
 ·have g1:¬(s.size:Int)<4:=eB;have U:¬(16:Int)<(s.size:Int):=eB;have g3:(((s.size:Int)-4) %2 !=0)=true:=by rw[dW];omega
  clear hb Y
  go_in
  go_wp2_with(fail);refine aE (v:=τ #[.agg #[ι κ 0,ι κ 0,σ ν 0 0],.iface 128 (ι κ 4)]) (by simp[results,results188,go_sem]) rfl ?_;exact⟨ν,0,0,4,0,0,[],rfl,X,Nat.le_refl _,Z.out,V,λ_=>rfl⟩
theorem E6(s:ByteArray)(w:ew)(hs:s.size<=maxLen):fc fe 188 #[.string s] w λe w'=>BA jB s.data.toList w e w':=by
 have hl:s.data.toList.length=s.size:=ik;by_cases Z:s.size<4 \/16<s.size \/s.size%2=1;{refine RZ s w hs ?_ Z;by_cases h16:16<s.size;{exact K0 _ eB};{unfold iB;rw[hl,ai eB]}};{exact Om s w eB eB eB}
theorem R6(B:Nat)(l code id:Int)(a:Option eh)(n cap:Nat)(w:ew)(h1:(l==105)=false)(h2:(l==122)=false)(h3:(l==114)=false)(h4:(l==116)=false)(h5:(l==97)=false)(h6:(l==110)=false)(h7:(l==107)=false):
 fc fe 208 #[π (μ ⟨B,0,ν⟩),.int .u8 l,.agg #[ι κ code,ι κ id,σ a n cap]] w λe w'=>e=ρ (τ #[])/\eH w w':=by
 have hb:=gK w (γ #[ι κ code,ι κ id,σ a n cap] 37)
 go_in
 go_wp2
 first|go_end0|refine iX rfl rfl ?_
 exact⟨rfl,hb⟩
theorem Oo(B:Nat)(fs fm ns nm qs qm sz lf wt ow code id:Int)(v:eA)(a:Option eh)(n cap:Nat)(w:ew)(hT:jt w)(h:Lk w B (Uj fs fm ns nm qs qm 0 sz lf wt ow v)):
 fc fe 171 #[π (μ ⟨B,0,ν⟩),ι κ 2,.agg #[ι κ code,ι κ id,σ a n cap]] w λe w'=>e=ρ η/\Lk w' B (Uj fs fm fs fm qs qm 1 255 lf wt ow v)/\w.grownBy w' (μ B):=by
 have J:=gK w (γ #[ι κ code,ι κ id,σ a n cap] 37);have hA:=λj=>ak w #[ι κ code,ι κ id,σ a n cap] 37 (0,0) j;have h0:=h.below J;have TN:=hT.below J;have D:=Jc 0 2 [115] 1 0 (by decide+kernel) _ TN;have e0:jB 0=η:=rfl;rw[e0]at D;have hl:=h.lt;have E:w.cell? ⟨B,6,ν⟩=μ (ι κ 0):=h.cell 6
 go_in
 go_wp2_with(fail);refine D.mono ?_;rintro e w1 ⟨rfl,m1,rfl⟩;obtain⟨Y,T⟩:=fq ((w.alloc (γ #[ι κ code,ι κ id,σ a n cap] 37)).drewN m1);obtain⟨Z,M⟩:=fq (w.heap.size);have d0:Y.cell? ⟨Z,0,ν⟩=μ (ι κ code):=by rw[<-T,<-M];exact hA 0
 have d1:Y.cell? ⟨Z,1,ν⟩=μ (ι κ id):=by rw[<-T,<-M];exact hA 1
 have d2:Y.cell? ⟨Z,2,ν⟩=μ (σ a n cap):=by rw[<-T,<-M];exact hA 2
 have V:Lk Y B (Uj fs fm ns nm qs qm 0 sz lf wt ow v):=by rw[<-T];exact h0
 have kR:w.grownBy Y (μ B):=by rw[<-T];exact tf B (below_drewN J m1)
 rw[T,M];have X:B≠Z:=eB;clear D T M hA h0 TN J h E hl e0 hT;have Yx:=V.lt;have c0:Y.cell? ⟨B,0,ν⟩=μ (ι κ fs):=V.cell 0;have c1:Y.cell? ⟨B,1,ν⟩=μ (ι κ fm):=V.cell 1;have c2:Y.cell? ⟨B,2,ν⟩=μ (ι κ ns):=V.cell 2;have c3:Y.cell? ⟨B,3,ν⟩=μ (ι κ nm):=V.cell 3;have E:Y.cell? ⟨B,6,ν⟩=μ (ι κ 0):=V.cell 6;have c7:Y.cell? ⟨B,7,ν⟩=μ (ι κ sz):=V.cell 7;have fz:∀j,Y.frozen? ⟨B,j,ν⟩=false:=V.frozen;have H2:Hid (Lk ((((Y.setCell ⟨B,6,ν⟩ (ι κ 1)).setCell ⟨B,2,ν⟩ (ι κ fs)).setCell ⟨B,3,ν⟩ (ι κ fm)).setCell ⟨B,7,ν⟩ (ι κ 255)) B (Uj fs fm fs fm qs qm 1 255 lf wt ow v)):=((((V.set 6 _).set 2 _).set 3 _).set 7 _)
 have G2:Hid (w.grownBy ((((Y.setCell ⟨B,6,ν⟩ (ι κ 1)).setCell ⟨B,2,ν⟩ (ι κ fs)).setCell ⟨B,3,ν⟩ (ι κ fm)).setCell ⟨B,7,ν⟩ (ι κ 255)) (μ B)):=(pR (pR (pR (pR kR 6 _) 2 _) 3 _) 7 _)
 have A:Hid (((((Y.setCell ⟨B,6,ν⟩ (ι κ 1)).setCell ⟨B,2,ν⟩ (ι κ fs)).setCell ⟨B,3,ν⟩ (ι κ fm)).setCell ⟨B,7,ν⟩ (ι κ 255)).cell? ⟨Z,0,ν⟩=μ (ι κ code)):=by show _=_;rw[aM _ _ _ _ X,aM _ _ _ _ X,aM _ _ _ _ X,aM _ _ _ _ X];exact d0
 have y:Hid (((((Y.setCell ⟨B,6,ν⟩ (ι κ 1)).setCell ⟨B,2,ν⟩ (ι κ fs)).setCell ⟨B,3,ν⟩ (ι κ fm)).setCell ⟨B,7,ν⟩ (ι κ 255)).cell? ⟨Z,1,ν⟩=μ (ι κ id)):=by show _=_;rw[aM _ _ _ _ X,aM _ _ _ _ X,aM _ _ _ _ X,aM _ _ _ _ X];exact d1
 have D2:Hid (((((Y.setCell ⟨B,6,ν⟩ (ι κ 1)).setCell ⟨B,2,ν⟩ (ι κ fs)).setCell ⟨B,3,ν⟩ (ι κ fm)).setCell ⟨B,7,ν⟩ (ι κ 255)).cell? ⟨Z,2,ν⟩=μ (σ a n cap)):=by show _=_;rw[aM _ _ _ _ X,aM _ _ _ _ X,aM _ _ _ _ X,aM _ _ _ _ X];exact d2
 go_wp2_with(fail);obtain⟨U,S⟩:=fq ((((Y.setCell ⟨B,6,ν⟩ (ι κ 1)).setCell ⟨B,2,ν⟩ (ι κ fs)).setCell ⟨B,3,ν⟩ (ι κ fm)).setCell ⟨B,7,ν⟩ (ι κ 255));have h2:Lk U B (Uj fs fm fs fm qs qm 1 255 lf wt ow v):=by rw[<-S];exact H2.out
 have Cg:w.grownBy U (μ B):=by rw[<-S];exact G2.out
 have d0:U.cell? ⟨Z,0,ν⟩=μ (ι κ code):=by rw[<-S];exact A.out
 have d1:U.cell? ⟨Z,1,ν⟩=μ (ι κ id):=by rw[<-S];exact y.out
 have d2:U.cell? ⟨Z,2,ν⟩=μ (σ a n cap):=by rw[<-S];exact D2.out
 rw[S];clear H2 G2 A y D2 S fz Yx E V kR c0 c1 c2 c3 c7;have Kp:Z<U.heap.size:=ag U _ d0;refine cr 2 ?_;rw[bT]
 go_wp2
 go_region_with(go_at_call 208;refine(R6 B 115 code id a n cap _ eF eF eF eF eF eF eF).mono ?_;rintro e V0 ⟨rfl,k0⟩)
 all_goals
  have L0:=(h2.drew).below k0;have g0:=Ci Cg (Ci (tf B (jK (au _ _))) (tf B k0));go_wp2_with(fail);rw[bT]
  go_wp2
  go_ret;exact⟨rfl,L0,g0⟩
theorem VQ(B:Nat)(fs fm ns nm qs qm sz lf wt ow:Int)(v:eA)(w:ew)(Z:jt w)(h:Lk w B (Uj fs fm ns nm qs qm 0 sz lf wt ow v)):
 fc fe 120 #[π (μ ⟨B,0,ν⟩),ι κ 2] w λe w'=>e=ρ η/\Lk w' B (Uj fs fm fs fm qs qm 1 255 lf wt ow v)/\w.grownBy w' (μ B):=by
 have hz:=tg;have hc:=Oo B fs fm ns nm qs qm sz lf wt ow 0 0 v ν 0 0 w Z h;clear h Z
 go_in
 go_wp2_with(fail);refine hc.mono ?_;rintro e w1 ⟨rfl,Y,X⟩
 go_wp2
 go_ret;exact⟨rfl,Y,X⟩
