import Derived.Test.YtieklnlbljejdaaGreatDoorV01
open Go.Value renaming int → ι, slice → σ, pointer → π, tuple → τ, nilIface → η, ownBlock → fD
open Go.IntKind renaming i64 → κ, u8 → ic
open Go.Ending renaming returned → ρ
open Go.Obj renaming cells → γ
open Option renaming none → ν, some → μ
open Go.Proofs.Tryz renaming prog → gg
open Go renaming World → fA, Calls → gb, Value → fB, storeCells → il, run_storeCells_cells → iq, Addr → fq, TypeId → fE, run_underlying → iz
open Go.RowKit renaming intOf → gj, wrap64 → ik
open List renaming length_cons → fU, length_append → fT, length_nil → fV, foldl_nil → iu, map_cons → fN, map_nil → fO
open ByteArray renaming empty → ia
open Nat renaming ne_of_lt → ij, mod_eq_of_lt → iF
open UInt8 renaming ofNat → gE
open Array renaming map → ix
open Go.Builtin renaming append_ → iy, lenOf → iA, firstCells → iB, nextslicecap → iC
open BitVec renaming ofInt → gD, ofInt_natCast → iD, toNat_ofNat → iE
set_option maxRecDepth 100000
set_option maxHeartbeats 4000000
set_option linter.defProp false
open Go.Proofs.Tryz
namespace Go.Proofs.YtieklnlbljejdaaGreatDoor
open Go.RowKit Plain
variable {F:Nat->Value} {ao:Option Addr} {b kE cp g g' j k lo n:Nat} {c:Int} {d e:Bool} {l:List UInt8} {o ob:Obj} {ok:List kS} {u v x y z:Value} {w w1 wr x1:World}
def acD:(gg.info? 5).map (λi=>(i.zero,i.size,i.bytes))=μ (μ (.int .u8 0),1,1):=iV
def Ms(s:ByteArray)(w:fA)(hs:s.size<=60):
 gb gg 197 #[.string s] w λe w'=>e=ρ (τ #[.string ⟨(mW s.data.toList).toArray⟩,η])/\fP w w':=by
  obtain⟨i0,hi,pB,A,oe⟩:=bu acD;have hle:¬(60:Int)<(s.size:Int):=fC;have hsl:=Plain.Ow s.data.toList;obtain⟨cap,C,fr,ahh,j0⟩:=Ia (P:=gg) (w.alloc (γ #[.int .u8 126] 5)) 9 140 5 s underlying9 underlying140 underlying5 (by unfold maxLen;omega);have ud:(w.alloc (γ #[.int .u8 126] 5)).heap.size=w.heap.size+1:=gZ;rw[ud]at j0;obtain⟨L,hL⟩:∃L,L=nK s.data.toList:=⟨_,rfl⟩
  have hLl:L.length=s.size+2:=by rw[hL,qp];rfl
  go_in
  go_wp2_with(first
   |(go_at_call 210;refine(QS _ _ ?hx).mono ?_;(case hx=>unfold maxLen;omega);rintro e w' ⟨rfl,rfl⟩)
   |(at_builtin;go_must(refine jN _ rfl (.tmp 16) (.tmp 22) 140 rfl 5 i0 (.int .u8 0) 1 1 underlying140 hi pB A oe rfl fF (.slice (some ⟨w.heap.size+1,0,none⟩) s.size cap) s.size (jV s.data.toList) rfl ?r1 _ 2 2 (jV [L8 s.data.toList,L9 s.data.toList]) rfl rfl fF ?c1 ?c2 ?c3 ?c4 ?_)))
  (case r1=>exact(j0.alloc _).drew);(case c1=>intro j u hu;rw[add_plain,World.cell?_drew];have D:=ay ((w.alloc (γ #[ι ic 126] 5)).alloc (γ C 5 fr)) #[ι ic (↑(sum s.data.toList) %256),ι ic (↑(sum s.data.toList)/256)] 5 (0,0) j;have h3:((w.alloc (γ #[ι ic 126] 5)).alloc (γ C 5 fr)).heap.size=w.heap.size+1+1:=gZ;rw[h3]at D;rw[D,<-I0,<-I1];simpa[jV]using hu);(case c2=>intro u hu;simp[jV]at hu;obtain rfl|rfl:=hu<;>rfl);(case c3=>unfold maxLen;omega);(case c4=>omega);intro g1 D7 w1 Dm mb kO
  have Ad:fP w w1:=by
   refine Below.grown ?_ mb ?_ ?_;{exact((((aC _ _).alloc (aj _) _).alloc gZ _).alloc (by simp;omega) _).drew};{simp;omega};intro k hk;simp[fD]at hk;omega
  have Q8:w.heap.size<g1:=by
   obtain h|h:=kO;{simp[fD]at h;omega};omega
  have wq:Row w1 1 (σ (μ ⟨w.heap.size,0,ν⟩) 1 1) 1 (jV [126]):=by
   refine Row.kept (row:=μ (w.heap.size+1)) ?q1 mb ?q2;(case q1=>exact(((Row.made w 1 5 #[.int .u8 126] (0,0) 1 1 (jV [126]) rfl rfl (aj _) fF (.inl rfl) (by simp[jV])).alloc _).alloc _).drew)
   case q2=>
    intro k hk;have vK:w.heap.size=k:=by simpa[fD]using hk
    intro e;have e':w.heap.size+1=k:=by simpa using e
    omega
  have hS:Row w1 1 (σ (μ ⟨g1,0,ν⟩) (s.size+2) D7) (s.size+2) (jV L):=by
   rw[hL,nK,nA];exact Dm
  clear Dm mb kO j0 ahh;go_wp2
  go_loopw [5,25] (λv i wr=>∃(k g cp:Nat) (E:List UInt8),E=126::uK (L.take k)/\k<=L.length/\i=ι κ k/\v=σ (μ ⟨g,0,ν⟩) E.length cp/\Row wr 1 v E.length (jV E)/\
   Row wr 1 (σ (μ ⟨g1,0,ν⟩) (s.size+2) D7) (s.size+2) (jV L)/\w.heap.size<=g/\g≠g1/\fP w wr)
   (λ_ i _=>L.length-(gj i).toNat)
  (case atStart=>exact⟨0,w.heap.size,1,[126],rfl,aw _,rfl,rfl,wq,hS,aj _,fC,Ad⟩)
  case round=>
   obtain⟨k,g,cp,E,Ja,hk,rfl,rfl,J,M,LG,WA,H⟩:=hrel
   have Q9:E.length<=1+2*62:=by
    have h1:=EB (L.take k);have D:(L.take k).length<=62:=by simp;omega
    rw[Ja];simp only[fU];omega
   have HE:Hid _:=Ja;clear Ja;clear wq hS Ad;have m1:E.length+1<=maxLen:=by unfold maxLen;omega
   have m2:E.length+2<=maxLen:=by unfold maxLen;omega
   have b1:(E.length+1)*1<=140737488355328:=fC;have b2:(E.length+2)*1<=140737488355328:=fC;by_cases lZ:k<L.length
   ·have hcell:=M.cell k _ (zT L k lZ);have hx:=acn L[k]
    have HN:Hid (126::uK (L.take (k+1))=E++D9 L[k]):=by
     have:L.take (k+1)=L.take k++ [L[k]] :=aJ lZ;rw[HE.out,this,SK];rfl
    have HC:Hid (uf L[k] =true↔_):=SL L[k];obtain⟨c,hc⟩:∃c,c=L[k] :=⟨_,rfl⟩
    rw[<-hc]at hcell hx HN HC;clear hc;have hT:∀(T:uf c=true) (g' kE:Nat) (Z:fA),Row Z 1 (σ (μ ⟨g',0,ν⟩) (E.length+2) kE) (E.length+2) (jV E++ [.int .u8 125,.int .u8 ((c^^^32).toNat:Int)])->
     Row Z 1 (σ (μ ⟨g',0,ν⟩) (126::uK (L.take (k+1))).length kE) (126::uK (L.take (k+1))).length (jV (126::uK (L.take (k+1))))/\(126::uK (L.take (k+1))).length=E.length+2:=by
     intro T g' kE Z hr;rw[HN.out];have e1:D9 c=[125,c^^^32] :=by simp[D9,T]
     rw[e1];refine⟨?_,gZ⟩;rw[nA,aG];exact hr
    have hO:∀(T:¬uf c=true) (g' kE:Nat) (Z:fA),Row Z 1 (σ (μ ⟨g',0,ν⟩) (E.length+1) kE) (E.length+1) (jV E++ [.int .u8 (c.toNat:Int)])->
     Row Z 1 (σ (μ ⟨g',0,ν⟩) (126::uK (L.take (k+1))).length kE) (126::uK (L.take (k+1))).length (jV (126::uK (L.take (k+1))))/\(126::uK (L.take (k+1))).length=E.length+1:=by
     intro T g' kE Z hr;rw[HN.out];have e1:D9 c=[c] :=by simp[D9,T]
     rw[e1];refine⟨?_,gZ⟩;rw[nA,aG];exact hr
    by_cases h1:((c.toNat:Int)==126)=true;{have T:uf c=true:=HC.out.mpr (.inl (by simpa using h1));go_wp2_with(at_builtin;go_must(refine jN _ rfl (.tmp 39) (.tmp 42) 140 rfl 5 i0 (.int .u8 0) 1 1 underlying140 hi pB A oe rfl fF _ E.length (jV E) rfl (J.alloc _) _ 2 2 [.int .u8 125,.int .u8 ((c^^^32).toNat:Int)] rfl rfl fF (rE _ _ _ _) (nC _ _ _ _) m2 b2 ?_));intro U cap2 Z V X Y;obtain⟨G,Q⟩:=hT T U cap2 Z V;have R:=xM X Y M LG WA H;have S:Hid _:=Q;clear Q X Y V J M H hcell hx;go_wp2;go_roundw;(case rel=>exact⟨k+1,U,cap2,_,rfl,fC,by go_num,by rw[S.out],by rw[<-S.out];exact G,R.1,R.2.1,R.2.2.1,R.2.2.2⟩);case measure=>simp[gj];omega};have Ae:((c.toNat:Int)==126)=false:=by simpa using h1
    by_cases D:((c.toNat:Int)==125)=true;{have T:uf c=true:=HC.out.mpr (.inr (.inl (by simpa using D)));go_wp2_with(at_builtin;go_must(refine jN _ rfl (.tmp 39) (.tmp 42) 140 rfl 5 i0 (.int .u8 0) 1 1 underlying140 hi pB A oe rfl fF _ E.length (jV E) rfl (J.alloc _) _ 2 2 [.int .u8 125,.int .u8 ((c^^^32).toNat:Int)] rfl rfl fF (rE _ _ _ _) (nC _ _ _ _) m2 b2 ?_));intro U cap2 Z V X Y;obtain⟨G,Q⟩:=hT T U cap2 Z V;have R:=xM X Y M LG WA H;have S:Hid _:=Q;clear Q X Y V J M H hcell hx;go_wp2;go_roundw;(case rel=>exact⟨k+1,U,cap2,_,rfl,fC,by go_num,by rw[S.out],by rw[<-S.out];exact G,R.1,R.2.1,R.2.2.1,R.2.2.2⟩);case measure=>simp[gj];omega};have Ck:((c.toNat:Int)==125)=false:=by simpa using D
    by_cases h3:(c.toNat:Int)<32;{have T:uf c=true:=HC.out.mpr (.inr (.inr h3));go_wp2_with(at_builtin;go_must(refine jN _ rfl (.tmp 39) (.tmp 42) 140 rfl 5 i0 (.int .u8 0) 1 1 underlying140 hi pB A oe rfl fF _ E.length (jV E) rfl (J.alloc _) _ 2 2 [.int .u8 125,.int .u8 ((c^^^32).toNat:Int)] rfl rfl fF (rE _ _ _ _) (nC _ _ _ _) m2 b2 ?_));intro U cap2 Z V X Y;obtain⟨G,Q⟩:=hT T U cap2 Z V;have R:=xM X Y M LG WA H;have S:Hid _:=Q;clear Q X Y V J M H hcell hx;go_wp2;go_roundw;(case rel=>exact⟨k+1,U,cap2,_,rfl,fC,by go_num,by rw[S.out],by rw[<-S.out];exact G,R.1,R.2.1,R.2.2.1,R.2.2.2⟩);case measure=>simp[gj];omega}
    have T:¬uf c=true:=by
     rw[HC.out];simp at Ae Ck;omega
    go_wp2_with(at_builtin;go_must(refine jN _ rfl (.tmp 44) (.tmp 46) 140 rfl 5 i0 (.int .u8 0) 1 1 underlying140 hi pB A oe rfl fF _ E.length (jV E) rfl (J.alloc _) _ 1 1 [.int .u8 (c.toNat:Int)] rfl rfl fF (sL _ _ _) (yQ _ _) m1 b1 ?_));intro U cap2 Z V X Y;obtain⟨G,Q⟩:=hO T U cap2 Z V;have R:=xM X Y M LG WA H;have S:Hid _:=Q;clear Q X Y V J M H hcell hx;go_wp2;go_roundw;(case rel=>exact⟨k+1,U,cap2,_,rfl,fC,by go_num,by rw[S.out],by rw[<-S.out];exact G,R.1,R.2.1,R.2.2.1,R.2.2.2⟩);case measure=>simp[gj];omega
   go_wp2_with(at_builtin;go_must(refine jN _ rfl (.tmp 49) (.tmp 50) 140 rfl 5 i0 (.int .u8 0) 1 1 underlying140 hi pB A oe rfl fF _ E.length (jV E) rfl (J.alloc _) _ 1 1 [.int .u8 126] rfl rfl fF (sL _ _ _) (yQ _ _) m1 b1 ?_));intro U cap2 Z V X Y;have R:=xM X Y M LG WA H;have ZB:k=L.length:=fC
   have hF:mW s.data.toList=E++ [126] :=by
    rw[HE.out,ZB,aR (aj _),hL];rfl
   have acE:(convert 140 9 (σ (μ ⟨U,0,ν⟩) (E.length+1) cap2)).run gg Z=.ok (.string ⟨(E++ [126]).toArray⟩) Z:=by
    refine Row.back (n:=E.length+1) ?_ 140 9 5 underlying140 underlying5 underlying9;rw[nA];exact V
   clear V X Y J M H;have HF:Hid _:=hF;clear hF ZB;go_wp2;go_ret2;exact⟨by rw[HF.out];rfl,R.2.2.2⟩
def Ra(s:ByteArray)(w:fA)(hs:60<s.size)(Z:s.size<=maxLen):
 gb gg 197 #[.string s] w λe w'=>e=ρ (τ #[.string ia,.iface 128 (ι κ 2)])/\w=w':=by
  unfold maxLen at Z;have hle:(60:Int)<(s.size:Int):=fC;go_in;go_wp2;go_ret2;exact⟨rfl,rfl⟩
structure EE(F:Nat->fB)(l:List UInt8)(e d:Bool):Prop where
 len:l.length<=62
 live:∀i:Nat,i<62->∃x:Int,F i=.int .u8 x
 body:∀(i:Nat) (h:i<l.length),F i=.int .u8 (l[i].toNat:Int)
 many:F 62=ι κ (l.length:Int)
 esc:F 63=.bool e
 bad:F 64=.bool d
def Rd(w:fA)(g o:Nat)(l:List UInt8)(e d:Bool):Prop:=∃F,sg w g o 65 F/\EE F l e d
def EE.Ku(h:EE F l e d)(d':Bool):EE (ui F 64 (.bool d')) l e d':=by
 have Z:=h.len;refine⟨Z,λi hi=> ?_,λi hi=> ?_,?_,?_,rG _ _ _⟩;{obtain⟨x,hx⟩:=h.live i hi;exact⟨x,by rw[kU _ _ fC];exact hx⟩};{rw[kU _ _ fC];exact h.body i hi};{rw[kU _ _ fC];exact h.many};rw[kU _ _ fC];exact h.esc
def EE.OU(h:EE F l e d)(e':Bool):EE (ui F 63 (.bool e')) l e' d:=by
 have Z:=h.len;refine⟨Z,λi hi=> ?_,λi hi=> ?_,?_,rG _ _ _,?_⟩;{obtain⟨x,hx⟩:=h.live i hi;exact⟨x,by rw[kU _ _ fC];exact hx⟩};{rw[kU _ _ fC];exact h.body i hi};{rw[kU _ _ fC];exact h.many};rw[kU _ _ fC];exact h.bad
def EE.push(h:EE F l e d)(hl:l.length<62)(c:UInt8):
 EE (ui (ui F l.length (.int .u8 (c.toNat:Int))) 62 (ι κ ((l.length:Int)+1))) (l++ [c]) e d:=by
  refine⟨by simp;omega,λi hi=> ?_,λi hi=> ?_,?_,?_,?_⟩;{rw[kU _ _ fC];by_cases Z:i=l.length;{rw[Z,rG];exact⟨_,rfl⟩};rw[kU _ _ Z];exact h.live i hi}
  ·have mR:i<l.length+1:=by simpa using hi
   rw[kU _ _ fC];by_cases Z:i=l.length;{subst Z;rw[rG];simp};rw[kU _ _ Z,h.body i fC,List.getElem_append_left fC]
  {rw[rG];simp};{rw[kU _ _ fC,kU _ _ fC];exact h.esc};rw[kU _ _ fC,kU _ _ fC];exact h.bad
def uj:List UInt8×Bool×Bool->UInt8->List UInt8×Bool×Bool
 |(l,e,d),c=>
  if c<32 \/(c=125/\e=true)then(l,e,true)
  else if c=125 then(l,true,d)
  else if l.length=62 then(l,false,true)
  else(l++ [if e then c^^^32 else c],false,d)
def WB(g o:Nat)(l:List UInt8)(e d:Bool)(c:UInt8)(w:fA)(h:Rd w g o l e d):
 gb gg 182 #[π (μ ⟨g,o,ν⟩),.int .u8 (c.toNat:Int)] w λe' w'=>e'=ρ (τ #[])/\Rd w' g o (uj (l,e,d) c).1 (uj (l,e,d) c).2.1 (uj (l,e,d) c).2.2/\na w w' g o 65:=by
  obtain⟨F,hC,H⟩:=h;have M:Hid _:=H;have hlen:=H.len;have Y:c<32↔(c.toNat:Int)<32:=by rw[e7];show c.toNat<32↔_;omega
  have J:c=125↔((c.toNat:Int)==125)=true:=by
   rw[<-dq,fe];show c.toNat=125↔_;omega
  have ahk:w.cell? ⟨g,o+62,ν⟩=μ (ι κ (l.length:Int)):=(hC.cell 62 fF).trans (congrArg μ H.many);have al4:w.cell? ⟨g,o+63,ν⟩=μ (.bool e):=(hC.cell 63 fF).trans (congrArg μ H.esc);have xZ:w.cell? ⟨g,o+64,ν⟩=μ (.bool d):=(hC.cell 64 fF).trans (congrArg μ H.bad);have V:∀i<65,w.frozen? ⟨g,o+i,ν⟩=false:=λi hi=>hC.fz i hi;have f62:=V 62 fF;have f63:=V 63 fF;have f64:=V 64 fF;have Q8:=hC.lt fF;have Q:Hid (sg w g o 65 F):=hC;clear hC H;by_cases A:(c.toNat:Int)<32
  ·have S:uj (l,e,d) c=(l,e,true):=by simp[uj,Y.mpr A]
   rw[S];clear Y J V;go_in;go_wp2_with fail;refine nX rfl rfl ?_;exact⟨rfl,⟨_,Q.out.set 64 fF _,M.out.Ku true⟩,(na.refl _ _ _ _).set _ fC fC _⟩
  have X:¬c<32:=λx=>A (Y.mp x);by_cases G:((c.toNat:Int)==125)=true
  ·have U:c=125:=J.mpr G;cases e
   ·have S:uj (l,false,d) c=(l,true,d):=by simp[uj,U]
    rw[S];clear Y J U X V;go_in;go_wp2_with fail;refine nX rfl rfl ?_;exact⟨rfl,⟨_,Q.out.set 63 fF _,M.out.OU true⟩,(na.refl _ _ _ _).set _ fC fC _⟩
   have S:uj (l,true,d) c=(l,true,true):=by simp[uj,U]
   rw[S];clear Y J U X V;go_in;go_wp2_with fail;refine nX rfl rfl ?_;exact⟨rfl,⟨_,Q.out.set 64 fF _,M.out.Ku true⟩,(na.refl _ _ _ _).set _ fC fC _⟩
  have Ck:((c.toNat:Int)==125)=false:=by simpa using G
  have T:¬c=125:=λx=>G (J.mp x);have hx:=acn c;by_cases D:((l.length:Int)==62)=true
  ·have Z:l.length=62:=by have:=fe.mp D;omega
   have S:uj (l,e,d) c=(l,false,true):=by simp[uj,T,X,Z]
   rw[S];have L62:Hid _:=Z;clear Y J T X Z G V;cases e;{go_in;go_wp2_with fail;refine nX rfl rfl ?_;exact⟨rfl,⟨_,Q.out.set 64 fF _,M.out.Ku true⟩,(na.refl _ _ _ _).set _ fC fC _⟩};go_in;go_wp2_with fail;refine nX rfl rfl ?_;exact⟨rfl,⟨_,(Q.out.set 63 fF _).set 64 fF _,(M.out.OU false).Ku true⟩,((na.refl _ _ _ _).set _ fC fC _).set _ fC fC _⟩
  have vO:((l.length:Int)==62)=false:=by simpa using D
  have Z:l.length<62:=by
   have:¬(l.length:Int)=62:=λe=>D (by simp[e]);omega
  have aph:(l.length:Int)<62:=fC;have S:uj (l,e,d) c=(l++ [if e then c^^^32 else c],false,d):=by simp[uj,T,X,ij Z]
  rw[S];obtain⟨x,E⟩:=M.out.live _ Z;have hcell:w.cell? ⟨g,o+l.length,ν⟩=μ (.int .u8 x):=(Q.out.cell _ fC).trans (congrArg μ E);have fl:=V l.length fC;clear Y J T X G D E V;cases e;{go_in;go_wp2;go_region;go_wp2_with fail;go_end0;exact⟨rfl,⟨_,(Q.out.set _ fC _).set 62 fF _,M.out.push Z c⟩,(((na.refl _ _ _ _).set _ fC fC _).set _ fC fC _).drew⟩};go_in;go_wp2;go_region;go_wp2_with fail;go_end0;refine⟨rfl,⟨_,((Q.out.set 63 fF _).set _ fC _).set 62 fF _,?_⟩,((((na.refl _ _ _ _).set _ fC fC _).set _ fC fC _).set _ fC fC _).drew⟩;have hp:=(M.out.OU false).push Z (c^^^32);rw[UInt8.toNat_xor]at hp;exact hp
def pj(l:List UInt8)(e d:Bool):List UInt8×Bool×Nat:=
 if d=true \/e=true then([],true,4)
 else if l.length=0 then([],false,0)
 else if l.length<2 then([],true,4)
 else if(Plain.sum (l.take (l.length-2)):Int)=((l.getD (l.length-2) 0).toNat:Int)+256*((l.getD (l.length-1) 0).toNat:Int)then(l.take (l.length-2),true,0)
 else([],true,5)
def ahl(s:ByteArray)(w:fA)(hs:s.size<=maxLen):
 gb gg 210 #[.string s] w λe w'=>e=ρ (ι κ (Plain.sum s.data.toList:Nat))/\w'=w:=(QS s w hs).mono λ_ _ ⟨a,b⟩=>⟨a,b.symm⟩
def Rb(a b:UInt8):ik (ik (a.toNat:Int)+ik (256*ik (b.toNat:Int)))=(a.toNat:Int)+256*(b.toNat:Int):=by
 have ha:=a.toNat_lt;have hb:=b.toNat_lt;rw[cX (a.toNat:Int) ⟨fC,fC⟩,cX (b.toNat:Int) ⟨fC,fC⟩,cX (256*(b.toNat:Int)) ⟨fC,fC⟩,cX _ ⟨fC,fC⟩]
def OW(l:List UInt8)(U:¬l.length<2)
 (Y:(((Plain.sum (l.take (l.length-2)):Nat):Int) !=ik (ik ((l[l.length-2]'(by omega)).toNat:Int)+ik (256*ik ((l[l.length-1]'(by omega)).toNat:Int))))=true):pj l false false=([],true,5):=by
  rw[Rb]at Y;have Z:¬((Plain.sum (l.take (l.length-2)):Nat):Int)=((l[l.length-2]'(by omega)).toNat:Int)+256*((l[l.length-1]'(by omega)).toNat:Int):=by simpa using Y
  have X:l.getD (l.length-2) 0=l[l.length-2]'(by omega):=by simp[show l.length-2<l.length by omega]
  have V:l.getD (l.length-1) 0=l[l.length-1]'(by omega):=by simp[show l.length-1<l.length by omega]
  unfold pj;rw[af gZ,af fC,af U,X,V,af Z]
def Mt(l:List UInt8)(U:¬l.length<2)
 (Y:(((Plain.sum (l.take (l.length-2)):Nat):Int) !=ik (ik ((l[l.length-2]'(by omega)).toNat:Int)+ik (256*ik ((l[l.length-1]'(by omega)).toNat:Int))))=false):pj l false false=(l.take (l.length-2),true,0):=by
  rw[Rb]at Y;have Z:((Plain.sum (l.take (l.length-2)):Nat):Int)=((l[l.length-2]'(by omega)).toNat:Int)+256*((l[l.length-1]'(by omega)).toNat:Int):=by simpa using Y
  have X:l.getD (l.length-2) 0=l[l.length-2]'(by omega):=by simp[show l.length-2<l.length by omega]
  have V:l.getD (l.length-1) 0=l[l.length-1]'(by omega):=by simp[show l.length-1<l.length by omega]
  unfold pj;rw[af gZ,af fC,af U,X,V,ag Z]
def Bc:gg.arrayLen 137=62:=iV
def FG:gg.underlying 137=μ (.array (gg.arrayLen 137) (gg.elem 137)):=iV
def OX(w:fA):(sizeOf (gg.elem 137)).run gg w=.ok 1 w:=iV
def S9(g o:Nat)(l:List UInt8)(e d:Bool)(w:fA)(h:Rd w g o l e d):
 gb gg 183 #[π (μ ⟨g,o,ν⟩)] w λe' w'=>e'=ρ (τ #[.string ⟨(pj l e d).1.toArray⟩,.bool (pj l e d).2.1,kr (pj l e d).2.2])/\∃n,w'=w.drewN n:=by
  obtain⟨F,hC,X⟩:=h;have hlen:=X.len;have ahk:w.cell? ⟨g,o+62,ν⟩=μ (ι κ (l.length:Int)):=(hC.cell 62 fF).trans (congrArg μ X.many);have al4:w.cell? ⟨g,o+63,ν⟩=μ (.bool e):=(hC.cell 63 fF).trans (congrArg μ X.esc);have xZ:w.cell? ⟨g,o+64,ν⟩=μ (.bool d):=(hC.cell 64 fF).trans (congrArg μ X.bad);have Y:∀i (h:i<l.length),w.cell? ⟨g,o+i,ν⟩=μ (.int .u8 (l[i].toNat:Int)):=λi h=>(hC.cell i fC).trans (congrArg μ (X.body i h));have Q8:=hC.lt fF;clear hC X;by_cases hd:d=true \/e=true
  ·have Z:pj l e d=([],true,4):=by simp[pj,hd]
   rw[Z];clear Z Y;obtain rfl|rfl:=hd;{go_in;go_wp2;go_ret3;exact⟨rfl,0,rfl⟩};cases d;{go_in;go_wp2;go_ret3;exact⟨rfl,0,rfl⟩};go_in;go_wp2;go_ret3;exact⟨rfl,0,rfl⟩
  obtain⟨rfl,rfl⟩:d=false/\e=false:=by cases d<;>cases e<;>simp_all
  by_cases V:l.length=0
  ·have Z:pj l false false=([],false,0):=by simp[pj,V]
   rw[Z];have U:((l.length:Int)==0)=true:=by simp[V]
   have H0:Hid _:=V;clear Z Y V hd;go_in;go_wp2;go_ret3;exact⟨rfl,0,rfl⟩
  have U:((l.length:Int)==0)=false:=by rw[dm];omega
  by_cases T:l.length<2
  ·have Z:pj l false false=([],true,4):=by simp[pj,V,T]
   rw[Z];clear Z Y hd;go_in;go_wp2;go_ret3;exact⟨rfl,0,rfl⟩
  have hsl:∀W:fA,(Instr.sliceAt 137 (π (μ ⟨g,o,ν⟩)) ν (μ (ι κ ((l.length:Int)-2))) ν).run gg W=.ok (σ (μ ⟨g,o,ν⟩) (l.length-2) 62) W:=by
   intro W;rw[run_sliceAt_array_h W 137 ⟨g,o,ν⟩ FG .i64 _ fC (by rw[Bc];omega),OX,Bc];have M:((l.length:Int)-2).toNat=l.length-2:=fC;simp[slicedAt,Result.andThen,M,oP]
  have x5:(convert 140 9 (σ (μ ⟨g,o,ν⟩) (l.length-2) 62)).run gg w=.ok (.string ⟨(l.take (l.length-2)).toArray⟩) w:=by
   have Q:(l.take (l.length-2)).length=l.length-2:=gZ;have:=eR (P:=gg) w 140 9 5 ⟨g,o,ν⟩ 62 (l.take (l.length-2)) underlying140 underlying5 underlying9 (λj hj=>by
    rw[oP,Y j fC];simp)
   rw[Q]at this;exact this
  have hA:=Y (l.length-2) fC;have hB:=Y (l.length-1) fC;have tA:(((l.length:Int)-2).toNat)=l.length-2:=fC;have tB:(((l.length:Int)-2+1).toNat)=l.length-1:=fC
  have hS:(ByteArray.mk (l.take (l.length-2)).toArray).size<=maxLen:=by
   show(l.take (l.length-2)).toArray.size<=maxLen;unfold maxLen;simp;omega
  go_in;go_wp2;go_quiet((go_at_call 210;exact Calls.quiet_of_same (ahl _ _ hS)));go_wp2_with fail;{have S:=OW l T j9;rw[S];go_ret3;exact⟨rfl,_,rfl⟩};have S:=Mt l T j9;rw[S];go_ret3;exact⟨rfl,_,rfl⟩
def Jc:Array fB:= #[] ++Array.replicate 62 (.int .u8 0)++ #[ι κ 0,.bool false,.bool false]
def ad9:(gg.info? 139).map (λi=>(i.zero,i.size))=μ (μ (.agg Jc),65):=iV
def WC:(∀w,(zeroValue 139).run gg w=.ok (.agg Jc) w)/\(gg.info? 139).map (·.size)=μ 65:=cz ad9
def Bf:Jc.size=65:=fF
def OY(j:Nat):fB:=Jc.getD j (.bool false)
def EE.zero:EE OY [] false false:=by
 refine⟨gZ,λi hi=>⟨0,?_⟩,λi hi=>by simp at hi,iV,iV,iV⟩
 have h:Jc[i]? =μ (.int .u8 0):=by
  unfold Jc;rw[di (by simp;omega)];simp[hi]
 unfold OY;rw[dW,h];rfl
def aav:∀v∈Jc.toList,v.oneCell'=true:=by
 have:Jc.toList.all (·.oneCell')=true:=iV;exact bz.mp this
def FH {o:Nat} (h:sg w g o 65 F):
 (il ⟨g,o,ν⟩ Jc.toList).run gg w=.ok () (w.setCells g o Jc.toList)/\sg (w.setCells g o Jc.toList) g o 65 OY/\na w (w.setCells g o Jc.toList) g o 65:=by
  have hl:Jc.toList.length=65:=by simp[Bf]
  have V:=iq (P:=gg) g o Jc.toList 0 w (λj Z=>by rw[dK,h.cell j fC];rfl) (λj Z=>by rw[dK];exact h.fz j fC) aav
  have T:∀(vs:List fB) (o:Nat) (w:fA),(w.setCells g o vs).heap.size=w.heap.size/\(w.setCells g o vs).os=w.os/\(w.setCells g o vs).tape=w.tape/\(w.setCells g o vs).output=w.output/\∀k,k≠g->(w.setCells g o vs).heap[k]? =w.heap[k]? :=by
   intro vs;induction vs with|nil=>intro o w;exact⟨rfl,rfl,rfl,rfl,λ_ _=>rfl⟩|cons u r ih=>intro o w;have:=ih (o+1) (w.setCell ⟨g,o,ν⟩ u);have b1:Below 0 w (w.setCell ⟨g,o,ν⟩ u):=(aC 0 w).setCell (aw _) _;refine⟨this.1.trans gZ,this.2.1.trans b1.os,this.2.2.1.trans b1.tape,this.2.2.2.1.trans b1.output,λk Y=>(this.2.2.2.2 k Y).trans (ax _ _ _ k Y)⟩
  have B:=T Jc.toList o w;refine⟨by simpa using V,λj Z=>⟨?_,?_⟩,⟨B.2.1,B.2.2.1,B.2.2.2.1,by rw[B.1];exact aj _,λi _ U=>B.2.2.2.2 i U,λj Z=>bQ g _ _ _ _ (λ_ _=>by show j<o \/o+Jc.toList.length<=j;omega),λj=>cC g _ _ _ _⟩⟩;{have X:=bZ g Jc.toList o w (λk Y=>by rw[h.cell k fC];rfl) j fC;rw[X];unfold OY;rw[dW,Array.getElem?_eq_getElem (by rw[Bf];exact Z)];simp};exact(cC g _ _ _ _).trans (h.fz j Z)
def rU(l:List UInt8)(e d:Bool)(c:UInt8):List UInt8×Bool×Bool:=if c=126 then([],false,false)else uj (l,e,d) c
def rV(l:List UInt8)(e d:Bool)(c:UInt8):List UInt8×Bool×Nat:=if c=126 then pj l e d else([],false,0)
def Ta(g o:Nat)(l:List UInt8)(e d:Bool)(c:UInt8)(w:fA)(h:Rd w g o l e d):
 gb gg 132 #[π (μ ⟨g,o,ν⟩),.int .u8 (c.toNat:Int)] w λe' w'=>e'=ρ (τ #[.string ⟨(rV l e d c).1.toArray⟩,.bool (rV l e d c).2.1,kr (rV l e d c).2.2])/\
  Rd w' g o (rU l e d c).1 (rU l e d c).2.1 (rU l e d c).2.2/\na w w' g o 65:=by
  have Z:c=126↔((c.toNat:Int)==126)=true:=by
   rw[<-dq,fe];show c.toNat=126↔_;omega
  by_cases hc:c=126
  ·have M:((c.toNat:Int) !=126)=false:=by rw[bne,Z.mp hc];rfl
   have Y:rV l e d c=pj l e d:=by simp[rV,hc]
   have X:rU l e d c=([],false,false):=by simp[rU,hc]
   rw[Y,X];clear Y X Z hc;have S:=S9 g o l e d w h;obtain⟨F,hC,V⟩:=h;have lz:∀n,(il ⟨g,o,ν⟩ Jc.toList).run gg (w.drewN n)=.ok () ((w.drewN n).setCells g o Jc.toList):=λn=>(FH (w:=w.drewN n) (F:=F) hC).1;have hz:=WC.1;have hZ:=Bf;have T:Hid (sg w g o 65 F):=hC;clear V hC;go_in;go_wp2_with(go_at_call 183;refine S.mono ?_;rintro e' w' ⟨rfl,n,rfl⟩);go_ret3;have U:=FH (w:=w.drewN n) (F:=F) T.out;exact⟨rfl,⟨OY,U.2.1,EE.zero⟩,((na.refl w g o 65).drewN n).trans U.2.2⟩
  have M:((c.toNat:Int) !=126)=true:=by
   rw[bne];cases J:((c.toNat:Int)==126);{rfl};exact absurd (Z.mpr J) hc
  have Y:rV l e d c=([],false,0):=by simp[rV,hc]
  have X:rU l e d c=uj (l,e,d) c:=by simp[rU,hc]
  rw[Y,X];clear Y X Z hc;go_in;go_wp2_with(go_at_call 182;refine(WB g o l e d c _ h).mono ?_;rintro e' w' ⟨rfl,V,Q⟩);go_ret3;exact⟨rfl,V,Q⟩
abbrev l7:=List UInt8×Bool×Bool
def oh(a:List (List UInt8)×Nat×l7)(c:UInt8):List (List UInt8)×Nat×l7:=
 let t:=rV a.2.2.1 a.2.2.2.1 a.2.2.2.2 c
 let r:=rU a.2.2.1 a.2.2.2.1 a.2.2.2.2 c
 if t.2.2≠0 then(a.1,a.2.1+1,r)else if t.2.1=true then(a.1++ [t.1],a.2.1,r)else(a.1,a.2.1,r)
def l5(st:l7)(l:List UInt8):List (List UInt8)×Nat×l7:=l.foldl oh ([],0,st)
def strs(l:List (List UInt8)):List fB:=l.map λs=>Value.string ⟨s.toArray⟩
def Tb(st:l7)(l:List UInt8)(c:UInt8):l5 st (l++ [c])=oh (l5 st l) c:=by simp[l5]
def WD(a:List (List UInt8)×Nat×l7)(c:UInt8):(oh a c).1.length+(oh a c).2.1<=a.1.length+a.2.1+1:=by
 unfold oh;simp only;split;{simp only;omega};split;{simp only[fT,fU,fV];omega};simp only;omega
def Mu:∀(l:List UInt8) (a:List (List UInt8)×Nat×l7),(l.foldl oh a).1.length+(l.foldl oh a).2.1<=a.1.length+a.2.1+l.length
 |[],a=>gZ
 |c::l,a=>by
  have h1:=Mu l (oh a c);have h2:=WD a c;simp only[List.foldl_cons,fU];omega
def EF(st:l7)(l:List UInt8):(l5 st l).1.length+(l5 st l).2.1<=l.length:=by
 have:=Mu l ([],0,st);unfold l5;simp only[fV]at this;omega
def aax:(gg.info? 9).map (λi=>(i.zero,i.size,i.bytes))=μ (μ (.string ia),1,16):=iV
def WE {w2:fA} {o:Nat} {g2 cap2:Nat} (V:g<w.heap.size)(S:∀k,v.ownBlock=μ k->w.heap.size<=k)(Q:Rd w1 g o l e d)(Z:na w w1 g o 65)
 (X:(w1.alloc ob).grownBy w2 v.ownBlock) (J:v.ownBlock=μ g2 \/w1.heap.size+1<=g2):
 (∀k,fD (σ (μ ⟨g2,0,ν⟩) n cap2)=μ k->w.heap.size<=k)/\Rd w2 g o l e d/\na w w2 g o 65:=by
  have hs:=Z.size;have Fb:(w1.alloc ob).heap.size=w1.heap.size+1:=gZ
  have Y:∀k<w.heap.size,w2.heap[k]? =w1.heap[k]? :=λk Y=>by
   rw[X.block k fC (λe=>by have:=S k e.symm;omega)];exact bk w1 ob k fC
  refine⟨λk Y=> ?_,?_,⟨X.os.trans Z.os,X.tape.trans Z.tape,X.output.trans Z.output,by have:=X.size;omega,λk T U=>(Y k T).trans (Z.block k T U),λj M=>(ak (a:=⟨g,j,ν⟩) (Y g V)).trans (Z.cell j M),λj=>(aV (a:=⟨g,j,ν⟩) (Y g V)).trans (Z.fz j)⟩⟩
  ·have:g2=k:=by simpa[fD]using Y
   obtain h|h:=J;{have:=S g2 h;omega};omega
  obtain⟨F,hC,U⟩:=Q;exact⟨F,hC.keep (Y g V),U⟩
def WG(g o:Nat)(st:l7)(s:ByteArray)(w:fA)(h:Rd w g o st.1 st.2.1 st.2.2)(hs:s.size<=100000):
 gb gg 78 #[π (μ ⟨g,o,ν⟩),.string s] w λe w'=>∃v,e=ρ (τ #[v,ι κ ((l5 st s.data.toList).2.1:Int)])/\
  Row w' 1 v (l5 st s.data.toList).1.length (strs (l5 st s.data.toList).1)/\(∀k,v.ownBlock=μ k->w.heap.size<=k)/\((l5 st s.data.toList).1=[]->v=σ ν 0 0)/\
  Rd w' g o (l5 st s.data.toList).2.2.1 (l5 st s.data.toList).2.2.2.1 (l5 st s.data.toList).2.2.2.2/\na w w' g o 65:=by
  obtain⟨i0,hi,pB,oR,oe⟩:=bu aax
  have Ce:g<w.heap.size:=by
   obtain⟨F,hC,_⟩:=h;exact hC.lt fF
  go_in;go_wp2
  go_loopw [4,5,12] (λv n i wr=>∃(k:Nat) (A:List (List UInt8)×Nat×l7),A=l5 st (s.data.toList.take k)/\k<=s.size/\i=ι κ k/\n=ι κ (A.2.1:Int)/\
   Row wr 1 v A.1.length (strs A.1)/\(∀k,v.ownBlock=μ k->w.heap.size<=k)/\(A.1=[]->v=σ ν 0 0)/\Rd wr g o A.2.2.1 A.2.2.2.1 A.2.2.2.2/\na w wr g o 65)
   (λ_ _ i _=>s.size-(gj i).toNat)
  (case atStart=>exact⟨0,_,rfl,aw _,rfl,rfl,Row.nil _ _,λk hk=>by simp[fD]at hk,λ_=>rfl,h,na.refl _ _ _ _⟩)
  case round=>
   obtain⟨k,A,hA,hk,rfl,rfl,H,M,S,hR,hg⟩:=hrel;have lR:Hid _:=S;clear S
   have G:Hid (A.1.length+A.2.1<=k):=by
    have:=EF st (s.data.toList.take k);rw[<-hA]at this;have h2:(s.data.toList.take k).length<=k:=cQ _ _;exact(by omega:A.1.length+A.2.1<=k)
   have HA:Hid _:=hA;clear hA h;by_cases lZ:k<s.size
   ·obtain⟨t,dn,Z,hT⟩:∃t dn Z,rV A.2.2.1 A.2.2.2.1 A.2.2.2.2 s[k] =(t,dn,Z):=⟨_,_,_,rfl⟩
    obtain⟨R',D⟩:∃R',rU A.2.2.1 A.2.2.2.1 A.2.2.2.2 s[k] =R':=⟨_,rfl⟩
    have J:gb gg 132 #[π (μ ⟨g,o,ν⟩),.int .u8 (s[k].toNat:Int)] wr λe' w'=>e'=ρ (τ #[.string ⟨t.toArray⟩,.bool dn,kr Z])/\
     Row w' 1 u4 A.1.length (strs A.1)/\Rd w' g o R'.1 R'.2.1 R'.2.2/\na w w' g o 65:=by
     have hq:=Ta g o A.2.2.1 A.2.2.2.1 A.2.2.2.2 s[k] wr hR;rw[hT,D]at hq;refine hq.mono λe' w' ⟨h1,h2,h3⟩=>⟨h1,H.keep h3.size (λj hj=>h3.block j (H.lt j hj) (λe1=>by have:=M j hj;omega)),h2,hg.trans h3⟩
    have T:(l5 st (s.data.toList.take (k+1))=if Z≠0 then(A.1,A.2.1+1,R')else if dn=true then(A.1++ [t],A.2.1,R')else(A.1,A.2.1,R')):=by
     have:s.data.toList.take (k+1)=s.data.toList.take k++ [s[k]] :=IZ s k lZ;rw[this,Tb,<-HA.out];unfold oh;simp only[hT,D]
    have E:Hid _:=T;clear T;have hn:A.2.1<=100000:=by have:=G.out;omega
    clear hT D H hR hg;by_cases Y:Z=0
    ·subst Y;have Q:kr 0=η:=rfl;rw[Q]at J;clear Q;cases dn;{go_wp2_with(go_at_call 132;refine J.mono ?_;rintro e w1 ⟨rfl,U,X,V⟩);go_roundw;(case rel=>exact⟨k+1,_,E.out.symm,fC,by go_num,rfl,U,M,lR.out,X,V⟩);case measure=>simp[gj];omega};have m1:A.1.length+1<=maxLen:=by have:=G.out;unfold maxLen;omega
     have b1:(A.1.length+1)*16<=140737488355328:=by have:=G.out;omega
     go_wp2_with(first
      |(go_at_call 132;refine J.mono ?_;rintro e w1 ⟨rfl,U,X,V⟩)
      |(at_builtin;go_must(refine jN _ rfl (.tmp 29) (.tmp 31) 164 rfl 9 i0 (.string ia) 1 16 underlying164 hi pB oR oe rfl fF u4 A.1.length (strs A.1) rfl (Row.alloc j9 _) _ 1 1 [.string ⟨t.toArray⟩] rfl rfl fF (sL _ _ _) (Oj _) m1 b1 ?_)))
     intro g2 cap2 w2 ue uP mS;have hS:=WE (n:=A.1.length+1) (cap2:=cap2) Ce M X V uP mS;clear uP mS U X V;go_wp2;go_roundw;(case rel=>exact⟨k+1,(A.1++ [t],A.2.1,R'),by rw[E.out];rfl,fC,by go_num,rfl,by simpa[strs]using ue,hS.1,λh=>by simp at h,hS.2.1,hS.2.2⟩);case measure=>simp[gj];omega
    have Q:kr Z=.iface 128 (ι κ (Z:Int)):=by simp[kr,Y]
    rw[Q]at J;clear Q;go_wp2_with(go_at_call 132;refine J.mono ?_;rintro e w1 ⟨rfl,U,X,V⟩);go_roundw;(case rel=>exact⟨k+1,(A.1,A.2.1+1,R'),by rw[E.out,ag Y],fC,by go_num,by go_num,U,M,lR.out,X,V⟩);case measure=>simp[gj];omega
   go_wp2
   have hA:l5 st s.data.toList=A:=by
    rw[HA.out,aR];show s.size<=k;omega
   rw[hA];go_ret2;exact⟨u4,rfl,H,M,lR.out,hR,hg⟩
def x6(s:ByteArray)(a b:Nat):(s.extract a b).data.toList=(s.data.toList.take b).drop a:=by
 rw[ByteArray.data_extract];simp[List.drop_take]
def Tc:∀c:UInt8,uf c=true->(c^^^32≠126/\¬c^^^32<32/\c^^^32≠125)/\c^^^32^^^32=c:=by
 have h:∀n:Fin 256,uf (gE n)=true->(gE n^^^32≠126/\¬gE n^^^32<32/\gE n^^^32≠125)/\gE n^^^32^^^32=gE n:=by decide+kernel
 intro c;have:=h ⟨c.toNat,c.toNat_lt⟩;simpa using this
def Mw:∀c:UInt8,uf c=false->c≠126/\¬c<32/\c≠125:=by
 intro c h;unfold uf at h;simp at h;exact⟨h.1.1,by rw[e7];have:=h.2;rw[UInt8.le_iff_toNat_le]at this;omega,h.1.2⟩
def Cm:∀(l:List UInt8) (o:List (List UInt8)) (n:Nat) (st:l7),l.foldl oh (o,n,st)=(o++(l.foldl oh ([],0,st)).1,n+(l.foldl oh ([],0,st)).2.1,(l.foldl oh ([],0,st)).2.2)
 |[],o,n,st=>gZ
 |c::l,o,n,st=>by
  have key:∀(o:List (List UInt8)) (n:Nat),oh (o,n,st) c=(o++(oh ([],0,st) c).1,n+(oh ([],0,st) c).2.1,(oh ([],0,st) c).2.2):=by
   intro o n;unfold oh;simp only;split;{simp};{split<;>simp}
  rw[bV,bV,key o n,Cm l (o++_) _ _];obtain⟨x,y,z,e⟩:∃x y z,oh ([],0,st) c=(x,y,z):=⟨_,_,_,rfl⟩
  rw[e];simp only;rw[Cm l x y z];simp[Nat.add_assoc]
def tK(st:l7)(a b:List UInt8):l5 st (a++b)=((l5 st a).1++(l5 (l5 st a).2.2 b).1,(l5 st a).2.1+(l5 (l5 st a).2.2 b).2.1,(l5 (l5 st a).2.2 b).2.2):=by
 unfold l5;rw[dE];exact Cm b _ _ _
def FI(o:List (List UInt8))(n:Nat)(l:List UInt8)(e d:Bool)(c:UInt8)(h:c≠126):oh (o,n,(l,e,d)) c=(o,n,uj (l,e,d) c):=by
 simp[oh,rV,rU,h]
def Td(o:List (List UInt8))(n:Nat)(l:List UInt8)(c:UInt8)(h:l.length<62):(D9 c).foldl oh (o,n,(l,false,false))=(o,n,(l++ [c],false,false)):=by
 unfold D9;by_cases hc:uf c=true
 ·obtain⟨⟨Y,X,V⟩,T⟩:=Tc c hc;rw[ag hc,bV,bV,iu,FI o n l false false 125 fF];have U:uj (l,false,false) 125=(l,true,false):=by simp[uj]
  rw[U,FI _ _ _ _ _ _ Y]
  have Z:uj (l,true,false) (c^^^32)=(l++ [c^^^32^^^32],false,false):=by
   simp[uj,X,V,ij h]
  rw[Z,T]
 have S:uf c=false:=by simpa using hc
 obtain⟨Y,X,V⟩:=Mw c S;rw[af hc,bV,iu,FI _ _ _ _ _ _ Y]
 have Z:uj (l,false,false) c=(l++ [c],false,false):=by
  simp[uj,X,V,ij h]
 rw[Z]
def Jd(o:List (List UInt8))(n:Nat):∀(m l:List UInt8),l.length+m.length<=62->(uK m).foldl oh (o,n,(l,false,false))=(o,n,(l++m,false,false))
 |[],l,_=>by simp[uK]
 |c::m,l,h=>by
  have h':l.length+(m.length+1)<=62:=by simpa using h
  have e:uK (c::m)=D9 c++uK m:=by simp[uK]
  rw[e,dE,Td o n l c fC,Jd o n m (l++ [c]) (by simp;omega)];simp
def Kv(l:List UInt8):pj (nK l) false false=(l,true,0):=by
 have hl:(nK l).length=l.length+2:=qp l;have X:(nK l).take ((nK l).length-2)=l:=by rw[hl];simp[nK]
 have Z:(nK l).getD ((nK l).length-2) 0=L8 l:=by
  rw[hl];simp[nK]
 have Y:(nK l).getD ((nK l).length-1) 0=L9 l:=by
  rw[hl];simp[nK]
 unfold pj;rw[af gZ,af fC,af fC,Z,Y,X,ag];rw[I0,I1];omega
def OZ(l:List UInt8)(h:l.length<=60):l5 ([],false,false) (mW l)=([l],0,([],false,false)):=by
 unfold l5 mW;rw[bV,dE];have Z:oh ([],0,([],false,false)) 126=([],0,([],false,false)):=by simp[oh,rV,rU,pj]
 rw[Z,Jd [] 0 (nK l) [] (by rw[qp];simp;omega)];simp[oh,rV,rU,Kv]
def zH(l:List UInt8):(mW l).length=(uK (nK l)).length+2:=by simp[mW]
def Je(l:List UInt8)(h:l.length<=60):(mW l).length<=126:=by
 rw[zH];have:=EB (nK l);rw[qp]at this;omega
def kI(x:Int):UInt8:=gE x.toNat
def nT(x:Int)(h0:0<=x)(h1:x<=255):((kI x).toNat:Int)=x:=by
 unfold kI;rw[cJ (by show x.toNat<256;omega)];omega
def Dn(os:List kS):List UInt8:=os.flatMap λo=>[kI o.1,kI o.2]
def oj(code id:Int)(os:List kS):List UInt8:=kI code::kI id::kI os.length::Dn os
def O1(os:List kS)(o:kS):Dn (os++ [o])=Dn os++ [kI o.1,kI o.2] :=by simp[Dn]
def uk(os:List kS):(Dn os).length=2*os.length:=by
 induction os with|nil=>rfl|cons o r ih=>simp only[Dn,List.flatMap_cons,fT,fU,fV]at ih⊢;omega
def FJ:∀(r seen:List kS),rQ seen r=0->∀o∈r,zW o.1=true/\zW o.2=true
 |[],_,_,o,Z=>by simp at Z
 |x::r,seen,h,o,Z=>by
  unfold rQ at h;split at h;{simp at h}
  ·rename_i Y
   split at h;{simp at h};{obtain rfl|Z:=aS.mp Z;{simpa using Y};{exact FJ r _ h o Z}}
def O2 {code id:Int} {os:List kS} (h:lg code id os=0):1<=code/\code<=6/\(0<=id/\id<=255)/\os.length<=8/\(5<=code->os.length=0)/\rQ [] os=0:=by
 unfold lg at h;split at h;{simp at h};rename_i h1;split at h;{simp at h};split at h;{simp at h};have Z:zW id=true:=by cases hq:zW id<;>simp_all
 exact⟨fC,fC,(EA id).mp Z,fC,fC,h⟩
def Mx(code id:Int)(a:Option fq)(n cap:Nat)(os:List kS)(w:fA)(U:n<=1000000)(V:n<=cap)(T:kc w a n os)(hf:lg code id os≠0):
 gb gg 175 #[.agg #[ι κ code,ι κ id,σ a n cap]] w λe w'=>e=ρ (τ #[.string ia,kr (lg code id os)])/\fP w w':=by
  have X:fP w (w.alloc (γ #[ι κ code,ι κ id,σ a n cap] 37)):=(aC _ _).alloc (aj _) _;have Z:=wa code id a n cap os (w.alloc (γ #[ι κ code,ι κ id,σ a n cap] 37)) U V (T.below X);generalize lg code id os=f at hf Z;have Y:kr f=.iface 128 (ι κ (f:Int)):=by simp[kr,hf]
  rw[Y]at Z⊢;clear Y;go_in;go_wp2_with fail;refine Z.mono ?_;rintro e w1 ⟨rfl,S⟩;go_wp2;go_ret2;exact⟨rfl,fQ X S⟩
def Kw(code id:Int)(a:Option fq)(n cap:Nat)(os:List kS)(w:fA)(LU:n<=cap)(D:kc w a n os)(hf:lg code id os=0):
 gb gg 175 #[.agg #[ι κ code,ι κ id,σ a n cap]] w λe w'=>e=ρ (τ #[.string ⟨(oj code id os).toArray⟩,η])/\fP w w':=by
  obtain⟨i0,hi,pB,oR,oe⟩:=bu acD;obtain⟨p1,p2,⟨p3,p4⟩,p5,p6,p7⟩:=O2 hf;have py:=FJ os [] p7;have hl:=D.1;have oC:fP w (w.alloc (γ #[ι κ code,ι κ id,σ a n cap] 37)):=(aC _ _).alloc (aj _) _;have A:=wa code id a n cap os (w.alloc (γ #[ι κ code,ι κ id,σ a n cap] 37)) fC LU (D.below oC);have e0:kr 0=η:=rfl;rw[hf,e0]at A;clear e0 p6 p7 hf;have WH:∀w1:fA,Below (w.alloc (γ #[ι κ code,ι κ id,σ a n cap] 37)).heap.size (w.alloc (γ #[ι κ code,ι κ id,σ a n cap] 37)) w1->
   w1.cell? ⟨w.heap.size,0,ν⟩=μ (ι κ code)/\w1.cell? ⟨w.heap.size,1,ν⟩=μ (ι κ id)/\w1.cell? ⟨w.heap.size,2,ν⟩=μ (σ a n cap):=by
   intro w1 G;have T:w.heap.size<(w.alloc (γ #[ι κ code,ι κ id,σ a n cap] 37)).heap.size:=gZ;have hA:=λj=>ay w #[ι κ code,ι κ id,σ a n cap] 37 (0,0) j;exact⟨(G.cell (p:=⟨w.heap.size,0,ν⟩) T).trans (hA 0),(G.cell (p:=⟨w.heap.size,1,ν⟩) T).trans (hA 1),(G.cell (p:=⟨w.heap.size,2,ν⟩) T).trans (hA 2)⟩
  go_in;go_wp2_with fail;refine A.mono ?_;rintro e w1 ⟨rfl,S⟩;obtain⟨q0,q1,q2⟩:=WH w1 S;have wV:=fQ oC S
  have T:w.heap.size<w1.heap.size:=by
   have:=S.size;simp at this;omega
  clear WH S A oC;go_wp2_with fail
  have wq:Row (w1.alloc (γ #[.int .u8 code,.int .u8 id,.int .u8 (n:Int)] 5)) 1 (σ (μ ⟨w1.heap.size,0,ν⟩) 3 3) 3 (jV [kI code,kI id,kI os.length]):=by
   refine Row.made w1 1 5 _ (0,0) 3 3 _ rfl rfl (aj _) fF (.inl rfl) ?_;intro j u hu;simp only[jV,fN,fO,nT code fC fC,nT id p3 p4,hl,nT (n:Int) fC fC]at hu;simpa using hu
  have Ad:fP w (w1.alloc (γ #[.int .u8 code,.int .u8 id,.int .u8 (n:Int)] 5)):=wV.alloc wV.size _
  go_loopw [5,27] (λv i wr=>∃(k g cp:Nat) (E:List UInt8),E=kI code::kI id::kI os.length::Dn (os.take k)/\k<=n/\i=ι κ k/\v=σ (μ ⟨g,0,ν⟩) E.length cp/\Row wr 1 v E.length (jV E)/\
   w.heap.size<=g/\fP w wr)
   (λ_ i _=>n-(gj i).toNat)
  (case atStart=>exact⟨0,w1.heap.size,3,_,rfl,aw _,rfl,rfl,wq,wV.size,Ad⟩)
  case round=>
   obtain⟨k,g,cp,E,M,hk,rfl,rfl,U,LG,X⟩:=hrel
   have Q9:E.length<=19:=by
    have h1:=uk (os.take k);have h2:(os.take k).length<=8:=by simp;omega
    rw[M];simp only[fU];omega
   have HE:Hid _:=M;have HL:Hid _:=hl;clear M wq Ad hl;have m2:E.length+2<=maxLen:=by unfold maxLen;omega
   have b2:(E.length+2)*1<=140737488355328:=fC;by_cases lZ:k<n
   ·have B2:=D.below X;obtain h0|⟨b,off,rfl,hc⟩:=B2.2;{omega};have sM:k<os.length:=by rw[HL.out];exact lZ
    obtain⟨c1,c2⟩:=hc k sM;obtain⟨J,H⟩:=py os[k] (aO _);have HT:Hid (os.take (k+1)=os.take k++ [os[k]]):=aJ sM;generalize os[k] =o at c1 c2 HT J H;obtain⟨o1a,o1b⟩:=(EA o.1).mp J;obtain⟨o2a,o2b⟩:=(EA o.2).mp H;clear hc J H B2;have pE:(k:Int)<(n:Int):=fC;have Y:fP w (wr.alloc (γ #[ι κ o.1,ι κ o.2] 276)):=X.alloc X.size _;have Z:Row (wr.alloc (γ #[ι κ o.1,ι κ o.2] 276)) 1 (σ (μ ⟨g,0,ν⟩) E.length cp) E.length (jV E):=U.alloc _;go_wp2_with(at_builtin;go_must(refine jN _ rfl (.tmp 31) (.tmp 38) 140 rfl 5 i0 (.int .u8 0) 1 1 underlying140 hi pB oR oe rfl fF _ E.length (jV E) rfl (Z.alloc _) _ 2 2 [.int .u8 o.1,.int .u8 o.2] rfl rfl fF ?hcc (nC _ _ _ _) m2 b2 ?_));(case hcc=>have:=rE (wr.alloc (γ #[ι κ o.1,ι κ o.2] 276)) (.int .u8 o.1) (.int .u8 o.2) 5;simpa using this);intro V cap2 w2 ue uP mS
    have uO:μ g=μ V \/(wr.alloc (γ #[ι κ o.1,ι κ o.2] 276)).heap.size+1<=V:=by
     obtain h|h:=mS;{exact .inl h};exact .inr (by simp;omega)
    have R:=IL uP uO LG Y
    have uN:Row w2 1 (σ (μ ⟨V,0,ν⟩) (E.length+2) cap2) (E++ [kI o.1,kI o.2]).length (jV (E++ [kI o.1,kI o.2])):=by
     rw[nA,aG];simp only[jV,fN,fO,nT o.1 o1a o1b,nT o.2 o2a o2b];exact ue
    have HN:Hid (E++ [kI o.1,kI o.2] =kI code::kI id::kI os.length::Dn (os.take (k+1))):=by
     show E++ [kI o.1,kI o.2] =_;rw[HE.out,HT.out,O1];rfl
    have Q:Hid ((E++ [kI o.1,kI o.2]).length=E.length+2):=by show(E++ [kI o.1,kI o.2]).length=E.length+2;simp
    clear ue uP mS uO U X Y Z;go_wp2;go_roundw;(case rel=>exact⟨k+1,V,cap2,_,HN.out,fC,by go_num,by rw[Q.out],uN,R.1,R.2⟩);case measure=>simp[gj];omega
   have acE:(convert 140 9 (σ (μ ⟨g,0,ν⟩) E.length cp)).run gg wr=.ok (.string ⟨E.toArray⟩) wr:=Row.back U 140 9 5 underlying140 underlying5 underlying9
   have HF:Hid (oj code id os=E):=by
    show oj code id os=E;have AX:os.take k=os:=aR (by rw[HL.out];omega);rw[HE.out,AX];rfl
   clear U;go_wp2_with fail;rw[HF.out];go_ret2;exact⟨rfl,X⟩
def WI:(gg.info? 276).map (λi=>(i.zero,i.size,i.bytes))=μ (μ (.agg #[ι κ 0,ι κ 0]),2,16):=iV
def WJ(w:fA):(zeroValue 37).run gg w=.ok (.agg #[ι κ 0,ι κ 0,σ ν 0 0]) w:=iV
def Cn(w:fA)(x y:fB)(t:fE):∀(j:Nat) (u:fB),[x,y][j]? =μ u->(w.alloc (γ #[x,y] t)).drew.cell? ((⟨w.heap.size,0,ν⟩:fq).add j)=μ u:=λj u hu=>rE w x y t j u hu
def um(Y:∀k,v.ownBlock=μ k->lo+2<=k)(Z:(wr.alloc o).drew.grownBy x1 v.ownBlock)(hb:b<lo+2)(X:b<wr.heap.size):x1.heap[b]? =wr.heap[b]? :=by
 rw[Z.block b (by show b<(wr.alloc o).heap.size;simp;omega) (λe=>by have:=Y b e.symm;omega)];exact bk wr o b X
def My(Y:∀k,v.ownBlock=μ k->lo+2<=k)(Z:(wr.alloc o).drew.grownBy x1 v.ownBlock)(hc:wr.cell? ⟨lo+1,j,ν⟩=μ u):x1.cell? ⟨lo+1,j,ν⟩=μ u:=by
 have X:lo+1<wr.heap.size:=ai wr _ hc;rw[ak (w:=wr) (a:=⟨lo+1,j,ν⟩) (um (b:=lo+1) Y Z fC X)];exact hc
def Ik(Y:∀k,v.ownBlock=μ k->lo+2<=k)(Z:(wr.alloc o).drew.grownBy x1 v.ownBlock)(hc:wr.cell? ⟨lo+1,j,ν⟩=μ u)(hf:wr.frozen? ⟨lo+1,j,ν⟩=false):x1.frozen? ⟨lo+1,j,ν⟩=false:=by
 have X:lo+1<wr.heap.size:=ai wr _ hc;rw[aV (w:=wr) (a:=⟨lo+1,j,ν⟩) (um (b:=lo+1) Y Z fC X)];exact hf
def oz:List UInt8->List kS
 |k::n::r=>((k.toNat:Int),(n.toNat:Int))::oz r
 |_=>[]
def Dp(s:ByteArray)(k:Nat)(h:k<s.size):s.data.toList.drop k=s[k] ::s.data.toList.drop (k+1):=by
 rw[a9 (by simpa using h)];rfl
def ya(Y:wr.heap[w.heap.size]? =μ (γ #[ι κ 0,ι κ 0,σ ν 0 0] 37 (0,0)))(X:fP wr w1):
 w1.cell? ⟨w.heap.size,0,ν⟩=μ (ι κ 0)/\w1.cell? ⟨w.heap.size,1,ν⟩=μ (ι κ 0)/\w1.cell? ⟨w.heap.size,2,ν⟩=μ (σ ν 0 0)/\∀j,w1.frozen? ⟨w.heap.size,j,ν⟩=false:=by
  have V:w.heap.size<wr.heap.size:=(aE.1 Y).1;have Z:w1.heap[w.heap.size]? =μ (γ #[ι κ 0,ι κ 0,σ ν 0 0] 37 (0,0)):=by rw[X.block _ V];exact Y
  exact⟨aD w1 _ 0 _ 37 (0,0) Z,aD w1 _ 1 _ 37 (0,0) Z,aD w1 _ 2 _ 37 (0,0) Z,λj=>bR w1 _ j _ 37 Z⟩
def j3(l:List UInt8):Int×Int×List kS×Nat:=
 if l.length<3 \/(l.length:Int)≠(3:Int)+(2:Int)*((l.getD 2 0).toNat:Int)then(0,0,[],4)
 else if lg ((l.getD 0 0).toNat:Int) ((l.getD 1 0).toNat:Int) (oz (l.drop 3))=0 then(((l.getD 0 0).toNat:Int),((l.getD 1 0).toNat:Int),oz (l.drop 3),0)
 else(0,0,[],4)
def FL(l:List UInt8)(w:fA)(e:Ending)(w':fA):Prop:=
 ∃(a:Option fq) (n cap f:Nat) (code id:Int) (os:List kS),e=ρ (τ #[.agg #[ι κ code,ι κ id,σ a n cap],kr f])/\kc w' a n os/\n<=cap/\j3 l=(code,id,os,f)/\fP w w'/\(∀j,fD (σ a n cap)=μ j->w.heap.size<=j/\j<w'.heap.size)/\mG a cap
def zI(s:ByteArray)(h3:3<=s.size)(heq:(s.size:Int)=(3:Int)+(2:Int)*(s[2].toNat:Int)):
 j3 s.data.toList=if lg (s[0].toNat:Int) (s[1].toNat:Int) (oz (s.data.toList.drop 3))=0 then((s[0].toNat:Int),(s[1].toNat:Int),oz (s.data.toList.drop 3),0)else(0,0,[],4):=by
  have hl:s.data.toList.length=s.size:=gZ;unfold j3;rw[pM s 0 fC,pM s 1 fC,pM s 2 fC,hl,af fC]
def Dq(X:Row w1 2 (σ ao k cp) k (jX ok))(V:∀j,fD (σ ao k cp)=μ j->w.heap.size+2<=j)(Z:fP w w1):
 kc (((w1.setCell ⟨w.heap.size,0,ν⟩ x).setCell ⟨w.heap.size,1,ν⟩ y).setCell ⟨w.heap.size,2,ν⟩ z) ao k ok/\fP w (((w1.setCell ⟨w.heap.size,0,ν⟩ x).setCell ⟨w.heap.size,1,ν⟩ y).setCell ⟨w.heap.size,2,ν⟩ z):=by
  refine⟨Row.opts (X.keep gZ (λj Y=> ?_)),((Z.setCell (aj _) _).setCell (aj _) _).setCell (aj _) _⟩;have:=V j Y;rw[ax _ _ _ _ (by show j≠w.heap.size;omega),ax _ _ _ _ (by show j≠w.heap.size;omega),ax _ _ _ _ (by show j≠w.heap.size;omega)]
def Ee(w:fA)(a b:Obj):((w.alloc a).alloc b).drew.heap[w.heap.size+1]? =μ b:=by
 have h:=bw (w.alloc a) b;have e:(w.alloc a).heap.size=w.heap.size+1:=gZ;rw[e]at h;exact h
def Co(w:fA)(a b:Obj):((w.alloc a).alloc b).drew.heap[w.heap.size]? =μ a:=by
 show((w.alloc a).alloc b).heap[w.heap.size]? =μ a;rw[bk (w.alloc a) b w.heap.size gZ];exact bw w a
def Kx {d:Int} {x y:Nat}
 (U:wr.heap[w.heap.size+1]? =μ (γ #[ι κ c,ι κ d,σ ao k cp] 37 (0,0)))
 (Q:wr.heap[w.heap.size]? =μ (γ #[ι κ 0,ι κ 0,σ ν 0 0] 37 (0,0)))
 (_hrow:Row wr 2 (σ ao k cp) k (jX ok)) (Y:∀j,fD (σ ao k cp)=μ j->w.heap.size+2<=j) (S:fP w wr)
 (T:Row x1 2 (σ (μ ⟨g',0,ν⟩) (k+1) kE) (k+1) (jX ok++ [ι κ (κ.wrap (x:Int)),ι κ (κ.wrap (y:Int))]))
 (X:(wr.alloc ob).drew.grownBy x1 (fD (σ ao k cp))) (J:fD (σ ao k cp)=μ g' \/(wr.alloc ob).drew.heap.size<=g') (hx:x<2^8) (hy:y<2^8):
 Row (x1.setCell ⟨w.heap.size+1,2,ν⟩ (σ (μ ⟨g',0,ν⟩) (k+1) kE)) 2 (σ (μ ⟨g',0,ν⟩) (k+1) kE) (k+1) (jX (ok++ [((x:Int),(y:Int))]))/\
 (x1.setCell ⟨w.heap.size+1,2,ν⟩ (σ (μ ⟨g',0,ν⟩) (k+1) kE)).heap[w.heap.size+1]? =μ (γ #[ι κ c,ι κ d,σ (μ ⟨g',0,ν⟩) (k+1) kE] 37 (0,0))/\
 (x1.setCell ⟨w.heap.size+1,2,ν⟩ (σ (μ ⟨g',0,ν⟩) (k+1) kE)).heap[w.heap.size]? =μ (γ #[ι κ 0,ι κ 0,σ ν 0 0] 37 (0,0))/\
 (∀j,fD (σ (μ ⟨g',0,ν⟩) (k+1) kE)=μ j->w.heap.size+2<=j)/\fP w (x1.setCell ⟨w.heap.size+1,2,ν⟩ (σ (μ ⟨g',0,ν⟩) (k+1) kE)):=by
  have H:w.heap.size+1<wr.heap.size:=(aE.1 U).1;have k1:=um (b:=w.heap.size+1) Y X fC H;have k0:=um (b:=w.heap.size) Y X fC fC;have hs0:(wr.alloc ob).drew.heap.size=wr.heap.size+1:=by show(wr.alloc ob).heap.size=_;simp
  have Q8:w.heap.size+2<=g':=by
   obtain h|h:=J;{exact Y g' h};omega
  have V:x1.heap[w.heap.size+1]? =μ (γ #[ι κ c,ι κ d,σ ao k cp] 37 (0,0)):=by rw[k1];exact U
  refine⟨?_,?_,?_,?_,?_⟩
  ·have ex:κ.wrap (x:Int)=(x:Int):=bg _ ⟨fC,fC⟩;have M:κ.wrap (y:Int)=(y:Int):=bg _ ⟨fC,fC⟩;rw[ex,M,<-nZ ok ((x:Int),(y:Int))]at T;refine T.keep gZ (λj Z=> ?_);have:g'=j:=by simpa[fD]using Z
   exact ax _ _ _ _ (by show j≠w.heap.size+1;omega)
  {rw[cg x1 (w.heap.size+1) 2 _ 37 (0,0) _ V];exact cW x1 _ _ _ 37 (0,0) V};{rw[ax _ _ _ _ (by show w.heap.size≠w.heap.size+1;omega),k0];exact Q}
  ·intro j Z;have:g'=j:=by simpa[fD]using Z
   omega
  have G:fP w (wr.alloc ob).drew:=(S.alloc S.size _).drew;refine bO ?_ (by show w.heap.size<=w.heap.size+1;omega) _;refine G.grown X fC (λj Z=> ?_);have:=Y j Z;omega
def Ky(s:ByteArray)(w:fA)(hs:s.size<=1000)(h3:3<=s.size)(heq:(s.size:Int)=(3:Int)+(2:Int)*(s[2].toNat:Int)):
 gb gg 184 #[.string s] w λe w'=>FL s.data.toList w e w':=by
  obtain⟨i0,hi,pB,oR,oe⟩:=bu WI;have hz:=WJ;have g1:¬(s.size:Int)<3:=fC;have oB:=s[2].toNat_lt;have g2:((s.size:Int) !=(3:Int)+(2:Int)*(s[2].toNat:Int))=false:=by rw[heq];simp
  have HE:Hid _:=heq;clear heq;have b0:0<s.size:=fC;have b1:1<s.size:=fC;have b2:2<s.size:=fC;have Ad:=s[0].toNat_lt;have Z:=s[1].toNat_lt;have z0:(0:Int)<(s.size:Int):=fC;have z1:(1:Int)<(s.size:Int):=fC;go_in;go_wp2;go_region;go_wp2
  go_loopw [5] (λi wr=>∃(k cp:Nat) (ao:Option fq) (ok:List kS),3+2*k<=s.size/\i=ι κ ((3+2*k:Nat):Int)/\ok.length=k/\oz (s.data.toList.drop 3)=ok++oz (s.data.toList.drop (3+2*k))/\Row wr 2 (σ ao k cp) k (jX ok)/\
   wr.heap[w.heap.size+1]? =μ (γ #[ι κ (s[0].toNat:Int),ι κ (s[1].toNat:Int),σ ao k cp] 37 (0,0))/\wr.heap[w.heap.size]? =μ (γ #[ι κ 0,ι κ 0,σ ν 0 0] 37 (0,0))/\
   (∀j,fD (σ ao k cp)=μ j->w.heap.size+2<=j)/\fP w wr)
   (λi _=>s.size-(gj i).toNat)
  (case atStart=>refine⟨0,0,ν,[],fC,rfl,rfl,rfl,Row.nil _ _,?_,?_,λj Y=>by simp[fD]at Y,(((aC _ _).alloc (aj _) _).alloc gZ _).drew⟩;{exact Ee w _ _};exact Co w _ _)
  case round=>
   obtain⟨k,cp,ao,ok,hk,rfl,jR,G,X,h,FK,D,jS⟩:=hrel;have hP:Hid _:=G;clear G;have cv:wr.cell? ⟨w.heap.size+1,2,ν⟩=μ (σ ao k cp):=aD wr _ 2 _ 37 (0,0) h;have fv:wr.frozen? ⟨w.heap.size+1,2,ν⟩=false:=bR wr _ 2 _ 37 h;have Q:w.heap.size+1<wr.heap.size:=ai wr _ cv;have U:Hid _:=h;have T:Hid _:=FK;clear h FK;by_cases lZ:3+2*k<s.size
   ·have Ih:3+2*k+1<s.size:=by have:=HE.out;omega
    obtain⟨q,hq⟩:∃q,q=3+2*k:=⟨_,rfl⟩
    rw[<-hq]at lZ Ih;have A:Hid _:=hq;have y0:(0:Int)<=(q:Int):=fC;have y1:(q:Int)<(s.size:Int):=fC;have y2:(q:Int)+1<(s.size:Int):=fC;have y3:(0:Int)<=(q:Int)+1:=fC;have yw:κ.wrap ((q:Int)+1)=(q:Int)+1:=bg _ ⟨fC,fC⟩;have hbq:=s[q].toNat_lt;have ama:=s[q+1].toNat_lt;have m1:k+1<=maxLen:=by unfold maxLen;omega
    have bb1:(k+1)*16<=140737488355328:=fC;rw[<-hq];clear hq
    have HP2:Hid (oz (s.data.toList.drop 3)=(ok++ [((s[q].toNat:Int),(s[q+1].toNat:Int))])++oz (s.data.toList.drop (3+2*(k+1)))):=by
     show oz (s.data.toList.drop 3)=_;rw[hP.out,<-A.out,Dp s q lZ,Dp s (q+1) Ih];have S:q+1+1=3+2*(k+1):=by have:=A.out;omega
     rw[S];simp[oz]
    go_wp2
    go_region_law ((refine nN (by rfl) (.tmp 35) (.tmp 46) 35 (by rfl) 276 i0 (.agg #[ι κ 0,ι κ 0]) 2 16 underlying35 hi pB oR oe (by rfl) fF (σ ao k cp) k (jX ok) (by rfl) ((X.alloc _).drew) _ 1 1 [ι κ (κ.wrap (s[q].toNat:Int)),ι κ (κ.wrap (s[q+1].toNat:Int))] (by rfl) (by rfl) fF (Cn _ _ _ _) (nC _ _ _ _) m1 bb1 ?_;intro g' kE x1 mQ mb kO;have c1:=My D mb cv;have f1:=Ik D mb cv fv))
    (all_goals have hS:=Kx (c:=(s[0].toNat:Int)) (d:=(s[1].toNat:Int)) U.out T.out X D jS mQ mb kO s[q].toNat_lt s[q+1].toNat_lt);(all_goals clear mQ mb kO c1 f1);(all_goals go_wp2_with fail);(all_goals go_roundw)
    all_goals first
     |exact⟨k+1,kE,some ⟨g',0,none⟩,_,by have:=A.out;omega,by have:=A.out;go_num,by simp[jR],HP2.out,hS⟩
     |(simp[gj];omega)
   have E:3+2*k=s.size:=fC
   have WK:oz (s.data.toList.drop 3)=ok:=by
    rw[hP.out,E,bB (by show s.size<=s.size;omega)];simp[oz]
   have Eb:=X.opts;have ED:=X.VC;have c0:wr.cell? ⟨w.heap.size+1,0,ν⟩=μ (ι κ (s[0].toNat:Int)):=aD wr _ 0 _ 37 (0,0) U.out;have c1:wr.cell? ⟨w.heap.size+1,1,ν⟩=μ (ι κ (s[1].toNat:Int)):=aD wr _ 1 _ 37 (0,0) U.out;have M:=wa (s[0].toNat:Int) (s[1].toNat:Int) ao k cp ok wr fC ED Eb;have HK:Hid _:=WK;clear hP WK E;by_cases hf:lg (s[0].toNat:Int) (s[1].toNat:Int) ok=0
   ·have J:kr 0=η:=rfl;rw[hf,J]at M;clear J;have HF:Hid _:=hf;clear hf;go_wp2_with fail;refine M.mono ?_;rintro e w1 ⟨rfl,Z⟩;have d0:=(Z.cell (p:=⟨w.heap.size+1,0,ν⟩) Q).trans c0;have d1:=(Z.cell (p:=⟨w.heap.size+1,1,ν⟩) Q).trans c1;have d2:=(Z.cell (p:=⟨w.heap.size+1,2,ν⟩) Q).trans cv;obtain⟨r0,r1,r2,r3⟩:=ya T.out Z;have wV:=fQ jS Z;have V:Hid ((∀j,fD (σ ao k cp)=μ j->w.heap.size<=j/\j<w1.heap.size)/\mG ao cp):=⟨λj Y=>⟨by have:=D j Y;omega,(X.below Z).lt j Y⟩,λe=>by
     obtain⟨S,_⟩|⟨g9,c9,S,_⟩:=X.2;{simp at S;exact S.2.2}
     ·rw[e]at S;simp at S⟩
    have H:=Dq (x:=ι κ (s[0].toNat:Int)) (y:=ι κ (s[1].toNat:Int)) (z:=σ ao k cp) (X.below Z) D wV
    have HV:Hid (j3 s.data.toList=((s[0].toNat:Int),(s[1].toNat:Int),ok,0)):=by
     show j3 s.data.toList=_;rw[zI s h3 HE.out,HK.out,ag HF.out]
    clear M Z c0 c1 cv X;go_wp2_with fail;refine aN (v:=τ #[.agg #[ι κ (s[0].toNat:Int),ι κ (s[1].toNat:Int),σ ao k cp],η]) (by simp[results,results184,go_sem,r0,r1,r2]) rfl ?_;exact⟨ao,k,cp,0,_,_,ok,rfl,H.1,ED,HV.out,H.2,λj Y=>⟨(V.out.1 j Y).1,by simpa using(V.out.1 j Y).2⟩,V.out.2⟩
   have J:kr (lg (s[0].toNat:Int) (s[1].toNat:Int) ok)=.iface 128 (ι κ (lg (s[0].toNat:Int) (s[1].toNat:Int) ok:Int)):=by simp[kr,hf]
   rw[J]at M;clear J;have HF:Hid _:=hf;clear hf
   have HV:Hid (j3 s.data.toList=(0,0,[],4)):=by
    show j3 s.data.toList=_;rw[zI s h3 HE.out,HK.out,af HF.out]
   generalize lg (s[0].toNat:Int) (s[1].toNat:Int) ok=ff at M;go_wp2_with fail;refine M.mono ?_;rintro e w1 ⟨rfl,Z⟩;obtain⟨r0,r1,r2,r3⟩:=ya T.out Z;have wV:=fQ jS Z;have H:=Dq (ok:=[]) (ao:=ν) (k:=0) (cp:=0) (x:=ι κ 0) (y:=ι κ 0) (z:=σ ν 0 0) (Row.nil w1 2) (λj Y=>by simp[fD]at Y) wV;clear M Z c0 c1 cv X Eb;go_wp2_with fail;refine aN (v:=τ #[.agg #[ι κ 0,ι κ 0,σ ν 0 0],.iface 128 (ι κ 4)]) (by simp[results,results184,go_sem,r0,r1,r2]) rfl ?_;exact⟨ν,0,0,4,0,0,[],rfl,H.1,aj _,HV.out,H.2,λj Y=>by simp[fD]at Y,λ_=>rfl⟩
def Dr(s:ByteArray)(w:fA)(hs:s.size<=1000)(h:j3 s.data.toList=(0,0,[],4))(S:s.size<3 \/ ∃T:3<=s.size,(s.size:Int)≠(3:Int)+(2:Int)*(s[2].toNat:Int)):
 gb gg 184 #[.string s] w λe w'=>FL s.data.toList w e w':=by
  have hz:=WJ;have Y:Hid _:=h;clear h;have U:fP w (w.alloc (γ #[ι κ 0,ι κ 0,σ ν 0 0] 37)):=(aC _ _).alloc (aj _) _;have V:kc (w.alloc (γ #[ι κ 0,ι κ 0,σ ν 0 0] 37)) ν 0 [] :=⟨rfl,.inl rfl⟩
  obtain h1|⟨T,X⟩:=S;{have g1:(s.size:Int)<3:=fC;go_in;go_wp2_with fail;refine aN (v:=τ #[.agg #[ι κ 0,ι κ 0,σ ν 0 0],.iface 128 (ι κ 4)]) (by simp[results,results184,go_sem]) rfl ?_;exact⟨ν,0,0,4,0,0,[],rfl,V,aj _,Y.out,U,λj Z=>by simp[fD]at Z,λ_=>rfl⟩};have g1:¬(s.size:Int)<3:=fC;have oB:=s[2].toNat_lt;have b2:2<s.size:=fC;have g2:((s.size:Int) !=(3:Int)+(2:Int)*(s[2].toNat:Int))=true:=by rw[bne_iff_ne];exact X
  clear X;go_in;go_wp2_with fail;refine aN (v:=τ #[.agg #[ι κ 0,ι κ 0,σ ν 0 0],.iface 128 (ι κ 4)]) (by simp[results,results184,go_sem]) rfl ?_;exact⟨ν,0,0,4,0,0,[],rfl,V,aj _,Y.out,U,λj Z=>by simp[fD]at Z,λ_=>rfl⟩
def MA(s:ByteArray)(w:fA)(hs:s.size<=1000):gb gg 184 #[.string s] w λe w'=>FL s.data.toList w e w':=by
 have hl:s.data.toList.length=s.size:=gZ;by_cases Z:3<=s.size;{by_cases heq:(s.size:Int)=(3:Int)+(2:Int)*(s[2].toNat:Int);{exact Ky s w hs Z heq};refine Dr s w hs ?_ (.inr ⟨Z,heq⟩);unfold j3;rw[pM s 2 fC,hl,ag (.inr heq)]};refine Dr s w hs ?_ (.inl fC);unfold j3;rw[hl,ag (.inl fC)]
def j2.drew {w:fA} {B:Nat} {C:Array fB} {t:fE} (h:j2 w B C t):j2 w.drew B C t:=h
abbrev aec:=Int×Bool×Int
def Bg(me f s:Int):aec:=if f=me then(0,false,0)else(f,s==me,4)
def jZ(p:aec):aec:=if p.2.2<=1 then(0,false,0)else(p.1,p.2.1,p.2.2-1)
def FN(w:fA):(zeroValue 116).run gg w=.ok (.agg #[ι κ 0,.bool false,ι κ 0]) w:=iV
def Jf(w:fA):(zeroValue 230).run gg w=.ok (.agg #[ι κ 0,ι κ 0]) w:=iV
def WL(a c me f s:Int)(b:Bool)(w:fA):gb gg 187 #[.agg #[ι κ a,.bool b,ι κ c],ι κ me,.agg #[ι κ f,ι κ s]] w λe w'=>
 e=ρ (.agg #[ι κ (Bg me f s).1,.bool (Bg me f s).2.1,ι κ (Bg me f s).2.2])/\fP w w':=by
  have hz:=FN;have Z:∀(A B C:Array fB) (t u v:fE),fP w (((w.alloc (γ A t)).alloc (γ B u)).alloc (γ C v)):=λA B C t u v=>((gu _ _).alloc gZ _).alloc (by simp;omega) _;cases q:(f==me)
  ·have hv:Bg me f s=(f,s==me,4):=by simp at q;simp[Bg,q]
   rw[hv];clear hv;go_in;go_wp2;refine aN (v:=.agg #[ι κ f,.bool (s==me),ι κ 4]) (by simp[results,results187,go_sem]) rfl ?_;exact⟨rfl,Z _ _ _ _ _ _⟩
  have hv:Bg me f s=(0,false,0):=by simp at q;simp[Bg,q]
  rw[hv];clear hv;go_in;go_wp2;refine aN (v:=.agg #[ι κ 0,.bool false,ι κ 0]) (by simp[results,results187,go_sem]) rfl ?_;exact⟨rfl,Z _ _ _ _ _ _⟩
def WM(a c:Int)(b:Bool)(w:fA)(hc:0<=c)(Vl:c<=100):gb gg 84 #[.agg #[ι κ a,.bool b,ι κ c]] w λe w'=>
 e=ρ (.agg #[ι κ (jZ (a,b,c)).1,.bool (jZ (a,b,c)).2.1,ι κ (jZ (a,b,c)).2.2])/\fP w w':=by
  have hz:=FN;have Z:∀(A B:Array fB) (t u:fE),fP w ((w.alloc (γ A t)).alloc (γ B u)):=λA B t u=>(gu _ _).alloc gZ _;by_cases q:c<=1
  ·have hv:jZ (a,b,c)=(0,false,0):=by simp[jZ,q]
   rw[hv];clear hv;go_in;go_wp2;refine aN (v:=.agg #[ι κ 0,.bool false,ι κ 0]) (by simp[results,results84,go_sem]) rfl ?_;exact⟨rfl,Z _ _ _ _⟩
  have hv:jZ (a,b,c)=(a,b,c-1):=by simp[jZ,q]
  rw[hv];clear hv;go_in;go_wp2;refine aN (v:=.agg #[ι κ a,.bool b,ι κ (c-1)]) (by simp[results,results84,go_sem]) rfl ?_;exact⟨rfl,Z _ _ _ _⟩
def WN(a c me:Int)(b:Bool)(w:fA):gb gg 149 #[.agg #[ι κ a,.bool b,ι κ c],ι κ me] w λe w'=>
 e=ρ (.agg #[ι κ me,ι κ a])/\fP w w':=by
  have hz:=Jf;have Z:∀(A B:Array fB) (t u:fE),fP w ((w.alloc (γ A t)).alloc (γ B u)):=λA B t u=>(gu _ _).alloc gZ _;go_in;go_wp2;refine aN (v:=.agg #[ι κ me,ι κ a]) (by simp[results,results149,go_sem]) rfl ?_;exact⟨rfl,Z _ _ _ _⟩
open St (u8 ru)
def acI(W:fA)(a b:Int)(Z:0<=a)(Y:a<=255)(X:0<=b)(b1:b<=255):(convert 140 9 (σ (μ ⟨W.heap.size,0,ν⟩) 2 2)).run gg (W.alloc (γ #[.int .u8 a,.int .u8 b] 5))=.ok (.string ⟨#[u8 a,u8 b]⟩) (W.alloc (γ #[.int .u8 a,.int .u8 b] 5)):=by
 have h:Row (W.alloc (γ #[.int .u8 a,.int .u8 b] 5)) 1 (σ (μ ⟨W.heap.size,0,ν⟩) 2 2) 2 (jV [u8 a,u8 b]):=by
  refine Row.made W 1 _ _ (0,0) 2 2 _ rfl rfl (aj _) fF (.inl rfl) ?_;intro j u hu;simp only[jV,fN,fO,ru a Z Y,ru b X b1]at hu;simpa using hu
 exact Row.back h 140 9 5 underlying140 underlying5 underlying9
def wu(f s:Int):Bool:=decide (1<=f)&&decide (f<=6)&&decide (0<=s)&&decide (s<=6)
def O4(f s:Int):∀(Q:Prop),(¬1<=f->wu f s=false->Q)->(1<=f->¬f<=6->wu f s=false->Q)->(1<=f->f<=6->¬0<=s->wu f s=false->Q)->(1<=f->f<=6->0<=s->¬s<=6->wu f s=false->Q)->(1<=f->f<=6->0<=s->s<=6->wu f s=true->Q)->Q:=by
 intro Q q1 q2 U T S;by_cases Z:1<=f;{by_cases Y:f<=6;{by_cases X:0<=s;{by_cases V:s<=6;{exact S Z Y X V (by simp[wu,Z,Y,X,V])};exact T Z Y X V (by simp[wu,V])};exact U Z Y X (by simp[wu,X])};exact q2 Z Y (by simp[wu,Y])};exact q1 Z (by simp[wu,Z])
def yT(f s:Int)(w:fA):gb gg 196 #[.agg #[ι κ f,ι κ s]] w λe w'=>e=ρ (.bool (wu f s))/\fP w w':=by
 refine O4 f s _ ?_ ?_ ?_ ?_ ?_;all_goals(intros;rename_i hv;rw[hv];clear hv;go_in;go_wp2;go_ret;exact⟨by first|rfl|(simp;omega),gu _ _⟩)
def MB(f s:Int)(w:fA)(h1:1<=f)(h2:f<=6)(h3:0<=s)(h4:s<=6)(h:wu f s=true):gb gg 148 #[.agg #[ι κ f,ι κ s]] w λe w'=>e=ρ (τ #[.string ⟨#[u8 f,u8 s]⟩,η])/\fP w w':=by
 have Y:=yT f s (w.alloc (γ #[ι κ f,ι κ s] 230));rw[h]at Y;have V:=gu w (γ #[ι κ f,ι κ s] 230);have hA:=j2.new w #[ι κ f,ι κ s] 230;have x5:=λW=>acI W f s fC fC fC fC;clear h;go_in;go_wp2_with fail;refine Y.mono ?_;rintro e w1 ⟨rfl,k1⟩;have Z:=hA.below k1;have c0:w1.cell? ⟨w.heap.size,0,ν⟩=μ (ι κ f):=Z.cell 0;have c1:w1.cell? ⟨w.heap.size,1,ν⟩=μ (ι κ s):=Z.cell 1;have l1:w.heap.size<w1.heap.size:=Z.lt;have X:=fQ V k1;clear hA Z Y k1;go_wp2;go_ret2;exact⟨rfl,X.alloc X.size _⟩
def mr(l:List UInt8):Int×Int×Nat:=
 if l.length=2/\wu ((l.getD 0 0).toNat:Int) ((l.getD 1 0).toNat:Int)=true then(((l.getD 0 0).toNat:Int),((l.getD 1 0).toNat:Int),0)else(0,0,4)
def O5(s:ByteArray)(w:fA):gb gg 186 #[.string s] w λe w'=>e=ρ (τ #[.agg #[ι κ (mr s.data.toList).1,ι κ (mr s.data.toList).2.1],kr (mr s.data.toList).2.2])/\fP w w':=by
 have hz:=Jf;have hl:s.data.toList.length=s.size:=gZ;by_cases Y:s.size=2
 ·have b0:0<s.size:=fC;have b1:1<s.size:=fC;have z0:(0:Int)<(s.size:Int):=fC;have z1:(1:Int)<(s.size:Int):=fC;have Ad:=s[0].toNat_lt;have lU:=s[1].toNat_lt;have g2:((s.size:Int) !=2)=false:=by rw[Y];rfl
  have E:fP w ((w.alloc (γ #[ι κ 0,ι κ 0] 230)).alloc (γ #[ι κ (s[0].toNat:Int),ι κ (s[1].toNat:Int)] 230)).drew:=kN ((gu _ _).alloc gZ _);have M:=(j2.new w #[ι κ 0,ι κ 0] 230).below (gu (w.alloc (γ #[ι κ 0,ι κ 0] 230)) (γ #[ι κ (s[0].toNat:Int),ι κ (s[1].toNat:Int)] 230));have J:j2 ((w.alloc (γ #[ι κ 0,ι κ 0] 230)).alloc (γ #[ι κ (s[0].toNat:Int),ι κ (s[1].toNat:Int)] 230)) (w.heap.size+1) #[ι κ (s[0].toNat:Int),ι κ (s[1].toNat:Int)] 230:=j2.Ib _ _ _ _ gZ
  have Z:Hid (mr s.data.toList=if wu (s[0].toNat:Int) (s[1].toNat:Int)=true then((s[0].toNat:Int),(s[1].toNat:Int),0)else(0,0,4)):=by
   show _=_;unfold mr;rw[pM s 0 b0,pM s 1 b1,hl];simp[Y]
  have HS:Hid _:=Y;clear Y hl;go_in;go_wp2;go_region;go_wp2_with fail;obtain⟨Q,U⟩:=fH (((w.alloc (γ #[ι κ 0,ι κ 0] 230)).alloc (γ #[ι κ (s[0].toNat:Int),ι κ (s[1].toNat:Int)] 230)).drew);have A:j2 Q w.heap.size #[ι κ 0,ι κ 0] 230:=by rw[<-U];exact M
  have h:j2 Q (w.heap.size+1) #[ι κ (s[0].toNat:Int),ι κ (s[1].toNat:Int)] 230:=by rw[<-U];exact J
  rw[U]at E⊢;clear U M J;generalize s[0].toNat=x at*;generalize s[1].toNat=y at*;refine(yT (x:Int) (y:Int) _).mono ?_;rintro e T ⟨rfl,k2⟩;have X:=A.below k2;have D:=h.below k2;have G:T.cell? ⟨w.heap.size,0,ν⟩=μ (ι κ 0):=X.cell 0;have r1:T.cell? ⟨w.heap.size,1,ν⟩=μ (ι κ 0):=X.cell 1;have rf:=X.frozen;have rl:=X.lt;have x0:T.cell? ⟨w.heap.size+1,0,ν⟩=μ (ι κ (x:Int)):=D.cell 0;have x1:T.cell? ⟨w.heap.size+1,1,ν⟩=μ (ι κ (y:Int)):=D.cell 1;have H:=fQ E k2;cases V:wu (x:Int) (y:Int)
  ·have S:Hid (mr s.data.toList=(0,0,4)):=by show _=_;rw[Z.out,af (by simp[V])]
   clear Z V;go_wp2_with fail;rw[S.out];refine aN (v:=τ #[.agg #[ι κ 0,ι κ 0],.iface 128 (ι κ 4)]) (by simp[results,results186,go_sem,G,r1]) rfl ?_;exact⟨rfl,(H.setCell (aj _) _).setCell (aj _) _⟩
  have S:Hid (mr s.data.toList=((x:Int),(y:Int),0)):=by show _=_;rw[Z.out,ag V]
  clear Z V;go_wp2_with fail;rw[S.out];refine aN (v:=τ #[.agg #[ι κ (x:Int),ι κ (y:Int)],η]) (by simp[results,results186,go_sem,G,r1]) rfl ?_;exact⟨rfl,(H.setCell (aj _) _).setCell (aj _) _⟩
 have g2:((s.size:Int) !=2)=true:=by rw[bne_iff_ne];omega
 have oC:=gu w (γ #[ι κ 0,ι κ 0] 230);have Z:Hid (mr s.data.toList=(0,0,4)):=by show _=_;unfold mr;rw[hl,af fC]
 clear Y hl;go_in;go_wp2_with fail;rw[Z.out];refine aN (v:=τ #[.agg #[ι κ 0,ι κ 0],.iface 128 (ι κ 4)]) (by simp[results,results186,go_sem]) rfl ?_;exact⟨rfl,oC⟩
section
variable {P:Program}
def Il(s:ByteArray):(ix (λb:UInt8=>ι ic (b.toNat:Int)) s.data).extract 0 s.size=ix (λb:UInt8=>ι ic (b.toNat:Int)) s.data:=by
 have hs:s.size=(ix (λb:UInt8=>ι ic (b.toNat:Int)) s.data).size:=by rw[fa];rfl
 rw[hs,Array.extract_size]
def yb(g:Nat):∀(vs:List fB) (o:Nat) (w:fA),(w.setCells g o vs).heap.size=w.heap.size/\(w.setCells g o vs).os=w.os/\(w.setCells g o vs).tape=w.tape/\(w.setCells g o vs).output=w.output/\∀k,k≠g->(w.setCells g o vs).heap[k]? =w.heap[k]?
 |[],o,w=>⟨rfl,rfl,rfl,rfl,λ_ _=>rfl⟩
 |u::r,o,w=>by
  have h:=yb g r (o+1) (w.setCell ⟨g,o,ν⟩ u);have b1:Below 0 w (w.setCell ⟨g,o,ν⟩ u):=(aC 0 w).setCell (aw _) _;exact⟨h.1.trans gZ,h.2.1.trans b1.os,h.2.2.1.trans b1.tape,h.2.2.2.1.trans b1.output,λk Z=>(h.2.2.2.2 k Z).trans (ax _ _ _ k Z)⟩
def O6(l:List UInt8):∀u∈jV l,u.oneCell'=true:=by
 intro u hu;obtain⟨b,_,rfl⟩:=bX.1 hu;rfl
def O7(s:ByteArray):(ix (λb:UInt8=>ι ic (b.toNat:Int)) s.data).toList=jV s.data.toList:=by simp[jV]
def Row.aaz {xs:List fB} (h:Row w 1 v n xs):v=σ ν 0 0/\n=0/\xs=[] \/ ∃g cap,v=σ (μ ⟨g,0,ν⟩) n cap/\g<w.heap.size/\n<=cap/\cap<=maxLen/\(∀(j:Nat) (u:fB),xs[j]? =μ u->w.cell? ⟨g,j,ν⟩=μ u)/\(∀j<cap*1,(w.cell? ⟨g,j,ν⟩).isSome=true/\w.frozen? ⟨g,j,ν⟩=false):=by
 obtain⟨Z,Y⟩|⟨g,cap,Z,X,V,U,T,S⟩:=h.2;{exact .inl ⟨Z,Y,aQ (by rw[h.1,Y])⟩};exact .inr ⟨g,cap,Z,X,V,U,T,S⟩
def yc(w:fA)(t u ty e:fE)(i:TypeInfo)(z:fB)(T:P.underlying t=μ (.slice e))(hu:P.underlying u=μ .string)(hi:P.info? e=μ i)(hz:i.zero=μ z)(ub:i.size=1)(xN:i.bytes=1)(Ok:z.cells.size=1)
 (v:fB) (n:Nat) (xs:List fB) (X:Row w 1 v n xs) (s:ByteArray) (hs:s.size<=1000000) (hn:n<=1000000000):
 ∃v' w',(iy #[t,u] ty #[v,.string s]).run P w=.ok v' w'/\Row w' 1 v' (n+s.size) (xs++jV s.data.toList)/\w.grownBy w' v.ownBlock/\(v'.ownBlock=v.ownBlock \/ ∃k,v'.ownBlock=μ k/\w.heap.size<=k):=by
  have hsl:(jV s.data.toList).length=s.size:=by simp[tq]
  have hex:=Il s;obtain⟨rfl,rfl,rfl⟩|⟨g,cap,rfl,hg,vt,H9,hcell,Q⟩:=X.aaz
  ·by_cases A:s.size=0;{have J:s.data.toList=[] :=aQ (by simpa using A);refine⟨σ ν 0 0,w,?_,by rw[A,J];exact Row.nil _ _,⟨rfl,rfl,rfl,aj _,λ_ _ _=>rfl⟩,.inl rfl⟩;simp[iy,iz T,iz hu,sizeOf,typeInfo,hi,iA,iB,A]};have U:=run_append_nil_string (P:=P) (w:=w) t u ty e i z T hu hi hz s fC fC (by rw[xN];omega);have h:=grownCap_ge w s.size 0 e;refine⟨_,_,U,?_,⟨rfl,rfl,rfl,gZ,λk Y _=>bk w.drew _ k Y⟩,.inr ⟨_,rfl,aj _⟩⟩;simp only[Nat.zero_add,List.nil_append];refine Row.made w.drew 1 e _ (0,0) s.size _ _ (by rw[hsl,Nat.mul_one]) ?_ h (dT _ _ _ _ (by unfold maxLen;omega)) (.inl rfl) (λj x Z=> ?_);{rw[eh,size_zeroCells,Ok,fa];have:s.data.size=s.size:=rfl;omega};have V:j<s.size:=by rw[<-hsl];exact(aT.1 Z).1
   rw[di (by rw[fa];exact V),<-Z,<-O7 s,Array.getElem?_toList]
  by_cases U:n+s.size<=cap
  ·have S:∀j,j<(jV s.data.toList).length->(w.cell? ⟨g,0+n*1+j,ν⟩).isSome=true/\w.frozen? ⟨g,0+n*1+j,ν⟩=false:=λj Z=>Q _ fC;have lz:=iq (P:=P) g (0+n*1) (jV s.data.toList) 0 w (λj Z=>by rw[dK];exact(S j Z).1) (λj Z=>by rw[dK];exact(S j Z).2) (O6 _);have B:=yb g (jV s.data.toList) (0+n*1) w;refine⟨σ (μ ⟨g,0,ν⟩) (n+s.size) cap,w.setCells g (0+n*1) (jV s.data.toList),?_,⟨by rw[aG,X.1,hsl];omega,.inr ⟨g,cap,rfl,by rw[B.1];exact hg,U,H9,λj x hx=> ?_,λj Z=> ?_⟩⟩,⟨B.2.1,B.2.2.1,B.2.2.2.1,by rw[B.1];exact aj _,λk _ Y=>B.2.2.2.2 k (λe=>Y (by simp[fD,e]))⟩,.inl rfl⟩
   ·simp[iy,iz T,iz hu,sizeOf,typeInfo,hi,ub,iA,iB,U,hex,add_plain];have M:(il ⟨g,n,ν⟩ (jV s.data.toList)).run P w=.ok () (w.setCells g n (jV s.data.toList)):=by simpa using lz
    have e8:List.map (λb:UInt8=>ι ic (b.toNat:Int)) s.data.toList=jV s.data.toList:=rfl;rw[e8,M];rfl
   ·obtain Z|Z:=dw j xs.length;{rw[bT Z]at hx;rw[bQ g _ _ _ _ (λ_ _=>.inl (by show j<0+n*1;have:=X.1;omega))];exact hcell j x hx};rw[bL Z]at hx;have V:j-xs.length<(jV s.data.toList).length:=(aT.1 hx).1;have:=bZ g (jV s.data.toList) (0+n*1) w (λk Y=>(S k Y).1) (j-xs.length) V;have D:0+n*1+(j-xs.length)=j:=by have:=X.1;omega
    rw[D]at this;rw[this,<-hx,aB V]
   rw[cC];refine⟨?_,(Q j Z).2⟩;by_cases hq:n*1<=j/\j<n*1+(jV s.data.toList).length;{have:=bZ g (jV s.data.toList) (0+n*1) w (λk Y=>(S k Y).1) (j-n*1) fC;have D:0+n*1+(j-n*1)=j:=fC;rw[D]at this;rw[this];rfl};rw[bQ g _ _ _ _ (λ_ _=>by show j<0+n*1 \/0+n*1+(jV s.data.toList).length<=j;omega)];exact(Q j Z).1
  have N4:¬n+s.size<=cap:=U;have H:¬(9223372036854775807<((n:Int)+(s.size:Int))):=fC;have hcc:cap<n+s.size:=fC;have WO:iC (n+s.size) cap<=281474976710656:=by have:=nextslicecap_le hcc;omega
  have G:¬(281474976710656<iC (n+s.size) cap*i.bytes):=by rw[xN];omega
  have sM:=run_loadCells_list (P:=P) (w:=w.drew) ⟨g,0,ν⟩ xs (λj x Z=>by rw[add_plain];exact hcell j x Z)
  have E:(loadCells ⟨g,0,ν⟩ (n*i.size)).run P w.drew=.ok xs.toArray w.drew:=by
   rw[ub,<-X.1];exact sM
  have h:=grownCap_ge w (n+s.size) cap e;refine⟨σ (μ ⟨w.heap.size,0,ν⟩) (n+s.size) (grownCap w (n+s.size) cap e),w.drew.alloc (γ (xs.toArray++(jV s.data.toList).toArray++Builtin.zeroCells z.cells (grownCap w (n+s.size) cap e-(n+s.size))) e),?_,?_,⟨rfl,rfl,rfl,gZ,λk Y _=>bk w.drew _ k Y⟩,.inr ⟨_,rfl,aj _⟩⟩;{simp[iy,iz T,iz hu,sizeOf,typeInfo,zeroValue,hi,hz,iA,N4,H,G,Question.forced,newRow,grownCap,iB,hex,E];congr 2;apply Array.ext';simp[jV]};refine Row.made w.drew 1 e _ (0,0) (n+s.size) _ _ (by rw[aG,X.1,hsl];omega) ?_ h (dT _ _ _ _ (by unfold maxLen;omega)) (.inl rfl) (λj x Z=> ?_)
  ·rw[eh,eh,size_zeroCells,Ok];have h1:xs.toArray.size=n:=by simpa using X.1
   have h2:(jV s.data.toList).toArray.size=s.size:=by simpa using hsl
   rw[h1,h2];omega
  have V:j<(xs++jV s.data.toList).length:=(aT.1 Z).1;rw[di (by simpa using V),List.append_toArray,List.getElem?_toArray];exact Z
def vC(w:fA) {ops:Array Oper} {rest:List Oper} {o:Oper} {a:Act} {Q:Exit->Act->fA->Prop} (Z:o.guard=ν)(sl x:Operand)(t u:fE)
 (M:o.op=.call {callee:=.builtin .append,args:= #[sl,x],argTypes:= #[t,u] })
 (e:fE) (i:TypeInfo) (z:fB) (H:P.underlying t=μ (.slice e)) (hu:P.underlying u=μ .string) (hi:P.info? e=μ i) (G:i.zero=μ z) (D:i.size=1) (A:i.bytes=1) (Y:z.cells.size=1)
 (v:fB) (n:Nat) (xs:List fB) (hs:a.eval sl=v) (E:Row w 1 v n xs) (s:ByteArray) (hx:a.eval x=.string s) (hsl:s.size<=1000000) (S:n<=1000000000)
 (h:∀v' w',Row w' 1 v' (n+s.size) (xs++jV s.data.toList)->w.grownBy w' v.ownBlock->(v'.ownBlock=v.ownBlock \/ ∃k,v'.ownBlock=μ k/\w.heap.size<=k)->wpList P ops Q rest (a.put o.dst v') w'):wpList P ops Q (o::rest) a w:=by
  refine wpList_plain Z λK T=> ?_;obtain⟨v',w',J,X,V,U⟩:=yc (P:=P) w t u o.type e i z H hu hi G D A Y v n xs E s hsl S;unfold Oper.wp execOp;simp only[M,resolve,invoke,builtin,Sem.run_bind,Sem.run_pure,Result.andThen_ok,List.map_toArray,fN,fO,hs,hx,J];exact T _ _ (h v' w' X V U)
end
def Rc:∀(ps:List PV) (j:Nat) (p:PV),ps[j]? =μ p->(SB ps)[j*3]? =μ (ι κ p.code)/\(SB ps)[j*3+1]? =μ (ι κ p.id)/\(SB ps)[j*3+2]? =μ p.val
 |[],j,p,h=>by simp at h
 |q::r,0,p,h=>by
  have:q=p:=by simpa using h
  subst this;exact⟨rfl,rfl,rfl⟩
 |q::r,j+1,p,h=>by
  have Z:r[j]? =μ p:=by simpa using h
  obtain⟨a,b,c⟩:=Rc r j p Z;have e:SB (q::r)=ι κ q.code::ι κ q.id::q.val::SB r:=rfl;rw[e,show(j+1)*3=j*3+1+1+1 by omega,show j*3+1+1+1+1=(j*3+1)+1+1+1 by omega,show j*3+1+1+1+2=(j*3+2)+1+1+1 by omega];simp only[List.getElem?_cons_succ];exact⟨a,b,c⟩
structure aed(w:fA)(v:fB)(ps:List PV):Prop where
 row:Row w 3 v ps.length (SB ps)
 opt:∀p∈ps,kc w p.a p.n p.os/\p.n<=1000
def aed.shape {ps:List PV} (h:aed w v ps):∃(a:Option fq) (c:Nat),v=σ a ps.length c/\∀j p,ps[j]? =μ p->∃g,a=μ ⟨g,0,ν⟩/\w.cell? ⟨g,0+j*3,ν⟩=μ (ι κ p.code)/\w.cell? ⟨g,0+j*3+1,ν⟩=μ (ι κ p.id)/\w.cell? ⟨g,0+j*3+2,ν⟩=μ (σ p.a p.n p.cap):=by
 obtain⟨Z,X⟩|⟨g,c,Z,hg,vt,H9,hcell,_⟩:=h.row.2;{refine⟨ν,0,by rw[X,Z],λj p Y=> ?_⟩;have:=(aT.1 Y).1;omega};refine⟨_,c,Z,λj p Y=>⟨g,rfl,?_⟩⟩;obtain⟨a,b,d⟩:=Rc ps j p Y;rw[aY];exact⟨hcell _ _ a,hcell _ _ b,hcell _ _ d⟩
open St
def WQ:(gg.info? 5).map (λi=>(i.zero,i.size,i.bytes))=μ (μ (.int .u8 0),1,1):=iV
def stH(own seq:Int):List UInt8:=[St.u8 own,St.u8 (seq%256),St.u8 (seq/256%256),St.u8 (seq/65536)]
def aaA(own seq:Int):(stH own seq).length=4:=rfl
def WR(w:fA)(own seq:Int)(p1:1<=own)(p2:own<=6)(p3:1<=seq)(p4:seq<=1000000):Row (w.alloc (γ #[.int .u8 own,.int .u8 (seq%256),.int .u8 (seq/256%256),.int .u8 (seq/65536)] 5)) 1 (σ (μ ⟨w.heap.size,0,ν⟩) 4 4) 4 (jV [St.u8 own,St.u8 (seq%256),St.u8 (seq/256%256),St.u8 (seq/65536)]):=by
 refine Row.made w 1 _ _ (0,0) 4 4 _ rfl rfl (aj _) fF (.inl rfl) ?_;intro j u hu;simp only[jV,fN,fO,ru own fC fC,ru (seq%256) fC fC,ru (seq/256%256) fC fC,ru (seq/65536) fC fC]at hu;simpa using hu
def O8(own seq:Int)(a:Option fq)(n cap:Nat)(os:List kS)(w:fA)(Q:kc w a n os)(hf:qq own seq os=0):
 gb gg 198 #[.agg #[ι κ own,ι κ seq,σ a n cap]] w λe w'=>e=ρ (τ #[.string ⟨(tI own seq os).toArray⟩,η])/\fP w w':=by
  obtain⟨i0,hi,pB,oR,oe⟩:=bu WQ;obtain⟨⟨p1,p2⟩,⟨p3,p4⟩,p5,p6⟩:=kD hf;have py:=rR own os 0 p6;have hl:=Q.1;have oC:=gu w (γ #[ι κ own,ι κ seq,σ a n cap] 40);have M:=z9 own seq a n cap os _ fC (Q.below oC);have e0:kr 0=η:=rfl;rw[hf,e0]at M;clear e0 p6 hf;go_in;go_wp2_with fail;refine M.mono ?_;rintro e w1 ⟨rfl,J⟩;obtain⟨q0,q1,q2,hz⟩:=alL J;have wV:=fQ oC J;clear J M oC;go_wp2_with fail;have wq:Row (w1.alloc (γ #[.int .u8 own,.int .u8 (seq%256),.int .u8 (seq/256%256),.int .u8 (seq/65536)] 5)) 1 (σ (μ ⟨w1.heap.size,0,ν⟩) 4 4) 4 (jV [St.u8 own,St.u8 (seq%256),St.u8 (seq/256%256),St.u8 (seq/65536)]):=WR w1 own seq p1 p2 p3 p4;have Ad:fP w (w1.alloc (γ #[.int .u8 own,.int .u8 (seq%256),.int .u8 (seq/256%256),.int .u8 (seq/65536)] 5)):=wV.alloc wV.size _
  go_loopw [5,31] (λv i wr=>∃(k g cp:Nat) (E:List UInt8),E=stH own seq++N2 (os.take k)/\k<=n/\i=ι κ k/\v=σ (μ ⟨g,0,ν⟩) E.length cp/\Row wr 1 v E.length (jV E)/\
   w.heap.size<=g/\fP w wr)
   (λ_ i _=>n-(gj i).toNat)
  (case atStart=>exact⟨0,w1.heap.size,4,_,rfl,aw _,rfl,rfl,wq,wV.size,Ad⟩)
  case round=>
   obtain⟨k,g,cp,E,S,hk,rfl,rfl,U,LG,X⟩:=hrel
   have Q9:E.length<=19:=by
    have h1:=zY (os.take k);have h2:(os.take k).length<=6:=by simp;omega
    rw[S,aG,aaA];omega
   have HE:Hid _:=S;have HL:Hid _:=hl;clear S wq Ad hl;have m2:E.length+2<=maxLen:=by unfold maxLen;omega
   have b2:(E.length+2)*1<=140737488355328:=fC;by_cases lZ:k<n
   ·have B2:=Q.below X;obtain h0|⟨b,off,rfl,hc⟩:=B2.2;{omega};have sM:k<os.length:=by rw[HL.out];exact lZ
    obtain⟨c1,c2⟩:=hc k sM;obtain⟨⟨H,G⟩,⟨D,A⟩⟩:=py os[k] (aO _);have HT:Hid (os.take (k+1)=os.take k++ [os[k]]):=aJ sM;generalize os[k] =o at c1 c2 HT H G D A;clear hc B2;have pE:(k:Int)<(n:Int):=fC;have Y:fP w (wr.alloc (γ #[ι κ o.1,ι κ o.2] 123)):=X.alloc X.size _;have Z:Row (wr.alloc (γ #[ι κ o.1,ι κ o.2] 123)) 1 (σ (μ ⟨g,0,ν⟩) E.length cp) E.length (jV E):=U.alloc _;go_wp2_with(at_builtin;go_must(refine jN _ rfl (.tmp 35) (.tmp 42) 140 rfl 5 i0 (.int .u8 0) 1 1 underlying140 hi pB oR oe rfl fF _ E.length (jV E) rfl (Z.alloc _) _ 2 2 [.int .u8 o.1,.int .u8 o.2] rfl rfl fF ?hcc (nC _ _ _ _) m2 b2 ?_));(case hcc=>have:=rE (wr.alloc (γ #[ι κ o.1,ι κ o.2] 123)) (.int .u8 o.1) (.int .u8 o.2) 5;simpa using this);intro V cap2 w2 ue uP mS
    have uO:μ g=μ V \/(wr.alloc (γ #[ι κ o.1,ι κ o.2] 123)).heap.size+1<=V:=by
     obtain h|h:=mS;{exact .inl h};exact .inr (by simp;omega)
    have R:=IL uP uO LG Y
    have uN:Row w2 1 (σ (μ ⟨V,0,ν⟩) (E.length+2) cap2) (E++ [St.u8 o.1,St.u8 o.2]).length (jV (E++ [St.u8 o.1,St.u8 o.2])):=by
     rw[nA,aG];simp only[jV,fN,fO,ru o.1 (show 0<=o.1 by omega) (show o.1<=255 by omega),ru o.2 (show 0<=o.2 by omega) (show o.2<=255 by omega)];exact ue
    have HN:Hid (E++ [St.u8 o.1,St.u8 o.2] =stH own seq++N2 (os.take (k+1))):=by
     show E++ [St.u8 o.1,St.u8 o.2] =_;rw[HE.out,HT.out,VY,aK]
    have T:Hid ((E++ [St.u8 o.1,St.u8 o.2]).length=E.length+2):=by show(E++ [St.u8 o.1,St.u8 o.2]).length=E.length+2;simp
    clear ue uP mS uO U X Y Z;go_wp2;go_roundw;(case rel=>exact⟨k+1,V,cap2,_,HN.out,fC,by go_num,by rw[T.out],uN,R.1,R.2⟩);case measure=>simp[gj];omega
   have acE:(convert 140 9 (σ (μ ⟨g,0,ν⟩) E.length cp)).run gg wr=.ok (.string ⟨E.toArray⟩) wr:=Row.back U 140 9 5 underlying140 underlying5 underlying9
   have HF:Hid (tI own seq os=E):=by
    show tI own seq os=E;have AX:os.take k=os:=aR (by rw[HL.out];omega);rw[HE.out,AX];rfl
   clear U;go_wp2_with fail;rw[HF.out];go_ret2;exact⟨rfl,X⟩
def FO(w:fA)(x y:fB)(t:fE):∀(j:Nat) (u:fB),[x,y][j]? =μ u->(w.alloc (γ #[x,y] t)).drew.cell? ((⟨w.heap.size,0,ν⟩:fq).add j)=μ u:=λj u hu=>rE w x y t j u hu
def wW(Y:∀k,v.ownBlock=μ k->lo+2<=k)(Z:(wr.alloc o).drew.grownBy x1 v.ownBlock)(hb:b<lo+2)(X:b<wr.heap.size):x1.heap[b]? =wr.heap[b]? :=by
 rw[Z.block b (by show b<(wr.alloc o).heap.size;simp;omega) (λe=>by have:=Y b e.symm;omega)];exact bk wr o b X
def Te(Y:∀k,v.ownBlock=μ k->lo+2<=k)(Z:(wr.alloc o).drew.grownBy x1 v.ownBlock)(hc:wr.cell? ⟨lo+1,j,ν⟩=μ u):x1.cell? ⟨lo+1,j,ν⟩=μ u:=by
 have X:lo+1<wr.heap.size:=ai wr _ hc;rw[ak (w:=wr) (a:=⟨lo+1,j,ν⟩) (wW (b:=lo+1) Y Z fC X)];exact hc
def MC(Y:∀k,v.ownBlock=μ k->lo+2<=k)(Z:(wr.alloc o).drew.grownBy x1 v.ownBlock)(hc:wr.cell? ⟨lo+1,j,ν⟩=μ u)(hf:wr.frozen? ⟨lo+1,j,ν⟩=false):x1.frozen? ⟨lo+1,j,ν⟩=false:=by
 have X:lo+1<wr.heap.size:=ai wr _ hc;rw[aV (w:=wr) (a:=⟨lo+1,j,ν⟩) (wW (b:=lo+1) Y Z fC X)];exact hf
def FP(s:ByteArray)(k:Nat)(h:k<s.size):s.data.toList.drop k=s[k] ::s.data.toList.drop (k+1):=by
 rw[a9 (by simpa using h)];rfl
def Bi(Y:wr.heap[w.heap.size]? =μ (γ #[ι κ 0,ι κ 0,σ ν 0 0] 40 (0,0)))(X:fP wr w1):
 w1.cell? ⟨w.heap.size,0,ν⟩=μ (ι κ 0)/\w1.cell? ⟨w.heap.size,1,ν⟩=μ (ι κ 0)/\w1.cell? ⟨w.heap.size,2,ν⟩=μ (σ ν 0 0)/\∀j,w1.frozen? ⟨w.heap.size,j,ν⟩=false:=by
  have V:w.heap.size<wr.heap.size:=(aE.1 Y).1;have Z:w1.heap[w.heap.size]? =μ (γ #[ι κ 0,ι κ 0,σ ν 0 0] 40 (0,0)):=by rw[X.block _ V];exact Y
  exact⟨aD w1 _ 0 _ 40 (0,0) Z,aD w1 _ 1 _ 40 (0,0) Z,aD w1 _ 2 _ 40 (0,0) Z,λj=>bR w1 _ j _ 40 Z⟩
def WS(x y k:Nat)(hx:x<2^k)(hs:2^k*y+x<2^62):bits .or .i64 (x:Int) ((2^k*y:Nat):Int)=((2^k*y+x:Nat):Int):=by
 have Z:(gD 64 (x:Int)|||BitVec.ofInt 64 ((2^k*y:Nat):Int)).toNat=2^k*y+x:=by
  rw[BitVec.toNat_or,iD,iD,iE,iE,iF fC,iF fC,Nat.or_comm];exact(Nat.two_pow_add_eq_or_of_lt hx y).symm
 show κ.wrap ((gD 64 (x:Int)|||BitVec.ofInt 64 ((2^k*y:Nat):Int)).toNat:Int)=_;rw[Z,IntKind.wrap_i64];omega
def ami(x y:Nat)(hx:x<256)(hy:y<256):bits .or .i64 (x:Int) ((y:Int)*(256:Int))=(x:Int)+(256:Int)*(y:Int):=by
 have h:=WS x y 8 fC fC;have e:((2^8*y:Nat):Int)=(y:Int)*256:=fC;rw[e]at h;rw[h];omega
def amj(x y:Nat)(hx:x<65536)(hy:y<256):bits .or .i64 (x:Int) ((y:Int)*(65536:Int))=(x:Int)+(65536:Int)*(y:Int):=by
 have h:=WS x y 16 fC fC;have e:((2^16*y:Nat):Int)=(y:Int)*65536:=fC;rw[e]at h;rw[h];omega
def Cp(E:Nat->fB)(l:List UInt8)(w:fA)(e:Ending)(w':fA):Prop:=
 ∃(a:Option fq) (n cap f:Nat) (own seq:Int) (os:List kS),e=ρ (τ #[.agg #[ι κ own,ι κ seq,σ a n cap],E f])/\kc w' a n os/\n<=cap/\ig l=(own,seq,os,f)/\fP w w'/\mG a cap
def Ds(s:ByteArray)(Q:Int)(h4:4<=s.size)(heq:s.size%2=0)(Z:(s[1].toNat:Int)+(256:Int)*(s[2].toNat:Int)+(65536:Int)*(s[3].toNat:Int)=Q):
 ig s.data.toList=if qq (s[0].toNat:Int) Q (pairs (s.data.toList.drop 4))=0 then((s[0].toNat:Int),Q,pairs (s.data.toList.drop 4),0)else(0,0,[],4):=by
  have hl:s.data.toList.length=s.size:=gZ
  have Y:Mb s.data.toList=Q:=by
   unfold Mb;rw[pM s 1 fC,pM s 2 fC,pM s 3 fC,Z]
  unfold ig;rw[Y,pM s 0 fC,hl,af fC]
def Jg(X:Row w1 2 (σ ao k cp) k (jX ok))(V:∀j,fD (σ ao k cp)=μ j->w.heap.size+2<=j)(Z:fP w w1):
 kc (((w1.setCell ⟨w.heap.size,0,ν⟩ x).setCell ⟨w.heap.size,1,ν⟩ y).setCell ⟨w.heap.size,2,ν⟩ z) ao k ok/\fP w (((w1.setCell ⟨w.heap.size,0,ν⟩ x).setCell ⟨w.heap.size,1,ν⟩ y).setCell ⟨w.heap.size,2,ν⟩ z):=by
  refine⟨Row.opts (X.keep gZ (λj Y=> ?_)),((Z.setCell (aj _) _).setCell (aj _) _).setCell (aj _) _⟩;have:=V j Y;rw[ax _ _ _ _ (by show j≠w.heap.size;omega),ax _ _ _ _ (by show j≠w.heap.size;omega),ax _ _ _ _ (by show j≠w.heap.size;omega)]
def Io(w:fA)(a b:Obj):((w.alloc a).alloc b).drew.heap[w.heap.size+1]? =μ b:=by
 have h:=bw (w.alloc a) b;have e:(w.alloc a).heap.size=w.heap.size+1:=gZ;rw[e]at h;exact h
def FQ(w:fA)(a b:Obj):((w.alloc a).alloc b).drew.heap[w.heap.size]? =μ a:=by
 show((w.alloc a).alloc b).heap[w.heap.size]? =μ a;rw[bk (w.alloc a) b w.heap.size gZ];exact bw w a
def O9 {d:Int} {x y:Nat}
 (U:wr.heap[w.heap.size+1]? =μ (γ #[ι κ c,ι κ d,σ ao k cp] 40 (0,0)))
 (Q:wr.heap[w.heap.size]? =μ (γ #[ι κ 0,ι κ 0,σ ν 0 0] 40 (0,0)))
 (_hrow:Row wr 2 (σ ao k cp) k (jX ok)) (Y:∀j,fD (σ ao k cp)=μ j->w.heap.size+2<=j) (S:fP w wr)
 (T:Row x1 2 (σ (μ ⟨g',0,ν⟩) (k+1) kE) (k+1) (jX ok++ [ι κ (κ.wrap (x:Int)),ι κ (κ.wrap (y:Int))]))
 (X:(wr.alloc ob).drew.grownBy x1 (fD (σ ao k cp))) (J:fD (σ ao k cp)=μ g' \/(wr.alloc ob).drew.heap.size<=g') (hx:x<2^8) (hy:y<2^8):
 Row (x1.setCell ⟨w.heap.size+1,2,ν⟩ (σ (μ ⟨g',0,ν⟩) (k+1) kE)) 2 (σ (μ ⟨g',0,ν⟩) (k+1) kE) (k+1) (jX (ok++ [((x:Int),(y:Int))]))/\
 (x1.setCell ⟨w.heap.size+1,2,ν⟩ (σ (μ ⟨g',0,ν⟩) (k+1) kE)).heap[w.heap.size+1]? =μ (γ #[ι κ c,ι κ d,σ (μ ⟨g',0,ν⟩) (k+1) kE] 40 (0,0))/\
 (x1.setCell ⟨w.heap.size+1,2,ν⟩ (σ (μ ⟨g',0,ν⟩) (k+1) kE)).heap[w.heap.size]? =μ (γ #[ι κ 0,ι κ 0,σ ν 0 0] 40 (0,0))/\
 (∀j,fD (σ (μ ⟨g',0,ν⟩) (k+1) kE)=μ j->w.heap.size+2<=j)/\fP w (x1.setCell ⟨w.heap.size+1,2,ν⟩ (σ (μ ⟨g',0,ν⟩) (k+1) kE)):=by
  have H:w.heap.size+1<wr.heap.size:=(aE.1 U).1;have k1:=wW (b:=w.heap.size+1) Y X fC H;have k0:=wW (b:=w.heap.size) Y X fC fC;have hs0:(wr.alloc ob).drew.heap.size=wr.heap.size+1:=by show(wr.alloc ob).heap.size=_;simp
  have Q8:w.heap.size+2<=g':=by
   obtain h|h:=J;{exact Y g' h};omega
  have V:x1.heap[w.heap.size+1]? =μ (γ #[ι κ c,ι κ d,σ ao k cp] 40 (0,0)):=by rw[k1];exact U
  refine⟨?_,?_,?_,?_,?_⟩
  ·have ex:κ.wrap (x:Int)=(x:Int):=bg _ ⟨fC,fC⟩;have M:κ.wrap (y:Int)=(y:Int):=bg _ ⟨fC,fC⟩;rw[ex,M,<-nZ ok ((x:Int),(y:Int))]at T;refine T.keep gZ (λj Z=> ?_);have:g'=j:=by simpa[fD]using Z
   exact ax _ _ _ _ (by show j≠w.heap.size+1;omega)
  {rw[cg x1 (w.heap.size+1) 2 _ 40 (0,0) _ V];exact cW x1 _ _ _ 40 (0,0) V};{rw[ax _ _ _ _ (by show w.heap.size≠w.heap.size+1;omega),k0];exact Q}
  ·intro j Z;have:g'=j:=by simpa[fD]using Z
   omega
  have G:fP w (wr.alloc ob).drew:=(S.alloc S.size _).drew;refine bO ?_ (by show w.heap.size<=w.heap.size+1;omega) _;refine G.grown X fC (λj Z=> ?_);have:=Y j Z;omega
def Pa(s:ByteArray)(w:fA)(h4:4<=s.size)(hs:s.size<=16)(heq:s.size%2=0):
 gb gg 188 #[.string s] w λe w'=>Cp kr s.data.toList w e w':=by
  obtain⟨i0,hi,pB,oR,oe⟩:=bu A4;have hz:=rH;have g1:¬(s.size:Int)<4:=fC;have g2:¬(16:Int)<(s.size:Int):=fC;have g3:(((s.size:Int)-4) %2 !=0)=false:=by rw[bne_eq_false_iff_eq];omega
  have HE:Hid _:=heq;clear heq;have b0:0<s.size:=fC;have b1:1<s.size:=fC;have b2:2<s.size:=fC;have b3:3<s.size:=fC;have Ad:=s[0].toNat_lt;have Y:=s[1].toNat_lt;have oB:=s[2].toNat_lt;have uA:=s[3].toNat_lt;have z0:(0:Int)<(s.size:Int):=fC;have z1:(1:Int)<(s.size:Int):=fC;have z2:(2:Int)<(s.size:Int):=fC;have z3:(3:Int)<(s.size:Int):=fC;obtain⟨Q,hQ⟩:∃Q:Int,(s[1].toNat:Int)+(256:Int)*(s[2].toNat:Int)+(65536:Int)*(s[3].toNat:Int)=Q:=⟨_,rfl⟩
  have ho1:=ami s[1].toNat s[2].toNat fC fC
  have ho2:bits .or .i64 ((s[1].toNat:Int)+(256:Int)*(s[2].toNat:Int)) ((s[3].toNat:Int)*(65536:Int))=Q:=by
   have:=amj (s[1].toNat+256*s[2].toNat) s[3].toNat fC fC;push_cast at this;rw[this,hQ]
  have U:Hid _:=hQ;go_in;go_wp2;go_region;go_wp2_with fail;(try rw[U.out]);(try clear hQ);(try clear ho1);(try clear ho2);obtain⟨Z,S⟩:∃Z:Int,(s[0].toNat:Int)=Z:=⟨_,rfl⟩
  have G:Hid _:=S;rw[S];clear S Ad Y oB uA
  go_loopw [5] (λi wr=>∃(k cp:Nat) (ao:Option fq) (ok:List kS),4+2*k<=s.size/\i=ι κ ((4+2*k:Nat):Int)/\ok.length=k/\pairs (s.data.toList.drop 4)=ok++pairs (s.data.toList.drop (4+2*k))/\Row wr 2 (σ ao k cp) k (jX ok)/\
   wr.heap[w.heap.size+1]? =μ (γ #[ι κ Z,ι κ Q,σ ao k cp] 40 (0,0))/\wr.heap[w.heap.size]? =μ (γ #[ι κ 0,ι κ 0,σ ν 0 0] 40 (0,0))/\
   (∀j,fD (σ ao k cp)=μ j->w.heap.size+2<=j)/\fP w wr)
   (λi _=>s.size-(gj i).toNat)
  (case atStart=>refine⟨0,0,ν,[],fC,rfl,rfl,rfl,Row.nil _ _,?_,?_,λj hj=>by simp[fD]at hj,(((aC _ _).alloc (aj _) _).alloc gZ _).drew⟩;{exact Io w _ _};exact FQ w _ _)
  case round=>
   obtain⟨k,cp,ao,ok,hk,rfl,jR,A,X,Mz,FK,kt,jS⟩:=hrel;have hP:Hid _:=A;clear A;have cv:wr.cell? ⟨w.heap.size+1,2,ν⟩=μ (σ ao k cp):=aD wr _ 2 _ 40 (0,0) Mz;have fv:wr.frozen? ⟨w.heap.size+1,2,ν⟩=false:=bR wr _ 2 _ 40 Mz;have M:w.heap.size+1<wr.heap.size:=ai wr _ cv;have V:Hid _:=Mz;have T:Hid _:=FK;clear Mz FK;by_cases lZ:4+2*k<s.size
   ·have Ih:4+2*k+1<s.size:=by have:=HE.out;omega
    obtain⟨q,hq⟩:∃q,q=4+2*k:=⟨_,rfl⟩
    rw[<-hq]at lZ Ih;have HQ:Hid _:=hq;have y0:(0:Int)<=(q:Int):=fC;have y1:(q:Int)<(s.size:Int):=fC;have y2:(q:Int)+1<(s.size:Int):=fC;have y3:(0:Int)<=(q:Int)+1:=fC;have yw:κ.wrap ((q:Int)+1)=(q:Int)+1:=bg _ ⟨fC,fC⟩;have hbq:=s[q].toNat_lt;have ama:=s[q+1].toNat_lt;have m1:k+1<=maxLen:=by unfold maxLen;omega
    have bb1:(k+1)*16<=140737488355328:=fC;rw[<-hq];clear hq
    have HP2:Hid (pairs (s.data.toList.drop 4)=(ok++ [((s[q].toNat:Int),(s[q+1].toNat:Int))])++pairs (s.data.toList.drop (4+2*(k+1)))):=by
     show pairs (s.data.toList.drop 4)=_;rw[hP.out,<-HQ.out,FP s q lZ,FP s (q+1) Ih];have H:q+1+1=4+2*(k+1):=by have:=HQ.out;omega
     rw[H];simp[pairs]
    go_wp2
    go_region_law ((refine nN (by rfl) (.tmp 47) (.tmp 58) 38 (by rfl) 123 i0 (.agg #[ι κ 0,ι κ 0]) 2 16 underlying38 hi pB oR oe (by rfl) fF (σ ao k cp) k (jX ok) (by rfl) ((X.alloc _).drew) _ 1 1 [ι κ (κ.wrap (s[q].toNat:Int)),ι κ (κ.wrap (s[q+1].toNat:Int))] (by rfl) (by rfl) fF (FO _ _ _ _) (nC _ _ _ _) m1 bb1 ?_;intro g' kE x1 mQ mb kO;have c1:=Te kt mb cv;have f1:=MC kt mb cv fv))
    (all_goals have hS:=O9 (c:=Z) (d:=Q) V.out T.out X kt jS mQ mb kO s[q].toNat_lt s[q+1].toNat_lt);(all_goals clear mQ mb kO c1 f1);(all_goals go_wp2_with fail);(all_goals go_roundw)
    all_goals first
     |exact⟨k+1,kE,some ⟨g',0,none⟩,_,by have:=HQ.out;omega,by have:=HQ.out;go_num,by simp[jR],HP2.out,hS⟩
     |(simp[gj];omega)
   have h:4+2*k=s.size:=fC
   have WK:pairs (s.data.toList.drop 4)=ok:=by
    rw[hP.out,h,bB (by show s.size<=s.size;omega)];simp[pairs]
   have Eb:=X.opts;have ED:k<=cp/\mG ao cp:=⟨X.VC,λe=>by
    obtain⟨H,_⟩|⟨g,c,H,_⟩:=X.2;{exact(ch H).2.2}
    ·rw[e]at H;cases (ch H).1⟩
   have c0:wr.cell? ⟨w.heap.size+1,0,ν⟩=μ (ι κ Z):=aD wr _ 0 _ 40 (0,0) V.out;have c1:wr.cell? ⟨w.heap.size+1,1,ν⟩=μ (ι κ Q):=aD wr _ 1 _ 40 (0,0) V.out;have J:=z9 Z Q ao k cp ok wr fC Eb;have HK:Hid _:=WK;clear hP WK h;by_cases hf:qq Z Q ok=0
   ·have E:kr 0=η:=rfl;rw[hf,E]at J;clear E;have HF:Hid _:=hf;clear hf;go_wp2_with fail;refine J.mono ?_;rintro e w1 ⟨rfl,Y⟩;have d0:=(Y.cell (p:=⟨w.heap.size+1,0,ν⟩) M).trans c0;have d1:=(Y.cell (p:=⟨w.heap.size+1,1,ν⟩) M).trans c1;have d2:=(Y.cell (p:=⟨w.heap.size+1,2,ν⟩) M).trans cv;obtain⟨r0,r1,r2,r3⟩:=Bi T.out Y;have wV:=fQ jS Y;have D:=Jg (x:=ι κ Z) (y:=ι κ Q) (z:=σ ao k cp) (X.below Y) kt wV
    have HV:Hid (ig s.data.toList=(Z,Q,ok,0)):=by
     show ig s.data.toList=_;rw[Ds s Q h4 HE.out U.out,G.out,HK.out,ag HF.out]
    clear J Y c0 c1 cv X;go_wp2_with fail;refine aN (v:=τ #[.agg #[ι κ Z,ι κ Q,σ ao k cp],η]) (by simp[results,results188,go_sem,r0,r1,r2]) rfl ?_;exact⟨ao,k,cp,0,_,_,ok,rfl,D.1,ED.1,HV.out,D.2,ED.2⟩
   have E:kr (qq Z Q ok)=.iface 128 (ι κ (qq Z Q ok:Int)):=by simp[kr,hf]
   rw[E]at J;clear E;have HF:Hid _:=hf;clear hf
   have HV:Hid (ig s.data.toList=(0,0,[],4)):=by
    show ig s.data.toList=_;rw[Ds s Q h4 HE.out U.out,G.out,HK.out,af HF.out]
   generalize qq Z Q ok=ff at J;go_wp2_with fail;refine J.mono ?_;rintro e w1 ⟨rfl,Y⟩;obtain⟨r0,r1,r2,r3⟩:=Bi T.out Y;have wV:=fQ jS Y;have D:=Jg (ok:=[]) (ao:=ν) (k:=0) (cp:=0) (x:=ι κ 0) (y:=ι κ 0) (z:=σ ν 0 0) (Row.nil w1 2) (λj hj=>by simp[fD]at hj) wV;clear J Y c0 c1 cv X Eb;go_wp2_with fail;refine aN (v:=τ #[.agg #[ι κ 0,ι κ 0,σ ν 0 0],.iface 128 (ι κ 4)]) (by simp[results,results188,go_sem,r0,r1,r2]) rfl ?_;exact⟨ν,0,0,4,0,0,[],rfl,D.1,aj _,HV.out,D.2,λ_=>rfl⟩
def Tf(s:ByteArray)(w:fA)(hs:s.size<=maxLen)(h:ig s.data.toList=(0,0,[],4))(T:s.size<4 \/16<s.size \/s.size%2=1):
 gb gg 188 #[.string s] w λe w'=>Cp kr s.data.toList w e w':=by
  have hz:=rH;have Z:Hid _:=h;clear h;unfold maxLen at hs;have V:=gu w (γ #[ι κ 0,ι κ 0,σ ν 0 0] 40);have X:kc (w.alloc (γ #[ι κ 0,ι κ 0,σ ν 0 0] 40)) ν 0 [] :=⟨rfl,.inl rfl⟩
  have g0:(0:Int)<=(s.size:Int):=fC;obtain Y|Y|Y:s.size<4 \/(4<=s.size/\16<s.size) \/(4<=s.size/\s.size<=16/\s.size%2=1):=fC;{have g1:(s.size:Int)<4:=fC;go_in;go_wp2_with fail;refine aN (v:=τ #[.agg #[ι κ 0,ι κ 0,σ ν 0 0],.iface 128 (ι κ 4)]) (by simp[results,results188,go_sem]) rfl ?_;exact⟨ν,0,0,4,0,0,[],rfl,X,aj _,Z.out,V,λ_=>rfl⟩};{have g1:¬(s.size:Int)<4:=fC;have U:(16:Int)<(s.size:Int):=fC;go_in;go_wp2_with fail;refine aN (v:=τ #[.agg #[ι κ 0,ι κ 0,σ ν 0 0],.iface 128 (ι κ 4)]) (by simp[results,results188,go_sem]) rfl ?_;exact⟨ν,0,0,4,0,0,[],rfl,X,aj _,Z.out,V,λ_=>rfl⟩};have g1:¬(s.size:Int)<4:=fC;have U:¬(16:Int)<(s.size:Int):=fC;have g3:(((s.size:Int)-4) %2 !=0)=true:=by rw[bne_iff_ne];omega
  clear T Y;go_in;go_wp2_with fail;refine aN (v:=τ #[.agg #[ι κ 0,ι κ 0,σ ν 0 0],.iface 128 (ι κ 4)]) (by simp[results,results188,go_sem]) rfl ?_;exact⟨ν,0,0,4,0,0,[],rfl,X,aj _,Z.out,V,λ_=>rfl⟩
def FR(s:ByteArray)(w:fA)(hs:s.size<=maxLen):gb gg 188 #[.string s] w λe w'=>Cp kr s.data.toList w e w':=by
 have hl:s.data.toList.length=s.size:=gZ;by_cases Z:s.size<4 \/16<s.size \/s.size%2=1;{refine Tf s w hs ?_ Z;by_cases h16:16<s.size;{exact Mc _ fC};unfold ig;rw[hl,ag fC]};exact Pa s w fC fC fC
def Tg(B:Nat)(l code id:Int)(a:Option fq)(n cap:Nat)(w:fA)(h1:(l==105)=false)(h2:(l==122)=false)(h3:(l==114)=false)(h4:(l==116)=false)(h5:(l==97)=false)(h6:(l==110)=false)(h7:(l==107)=false):
 gb gg 208 #[π (μ ⟨B,0,ν⟩),.int .u8 l,.agg #[ι κ code,ι κ id,σ a n cap]] w λe w'=>e=ρ (τ #[])/\fP w w':=by
  have Z:=gu w (γ #[ι κ code,ι κ id,σ a n cap] 37);go_in;go_wp2_with fail;go_end0;exact⟨rfl,Z⟩
def Pb(B:Nat)(fs fm ns nm qs qm sz lf wt ow code id:Int)(v:fB)(a:Option fq)(n cap:Nat)(w:fA)(hT:kd w)(h:Lk w B (VI fs fm ns nm qs qm 0 sz lf wt ow v)):
 gb gg 171 #[π (μ ⟨B,0,ν⟩),ι κ 2,.agg #[ι κ code,ι κ id,σ a n cap]] w λe w'=>e=ρ η/\Lk w' B (VI fs fm fs fm qs qm 1 255 lf wt ow v)/\w.grownBy w' (μ B):=by
  have M:=gu w (γ #[ι κ code,ι κ id,σ a n cap] 37);have hA:=λj=>ay w #[ι κ code,ι κ id,σ a n cap] 37 (0,0) j;have h0:=h.below M;have Vj:=hT.below M;have H:=Kf 0 2 [115] 1 0 (by decide+kernel) _ Vj;have e0:kr 0=η:=rfl;rw[e0]at H;have hl:=h.lt;have J:w.cell? ⟨B,6,ν⟩=μ (ι κ 0):=h.cell 6;go_in;go_wp2_with fail;refine H.mono ?_;rintro e w1 ⟨rfl,m1,rfl⟩;obtain⟨Y,T⟩:=fH ((w.alloc (γ #[ι κ code,ι κ id,σ a n cap] 37)).drewN m1);obtain⟨Z,Q⟩:=fH (w.heap.size);have d0:Y.cell? ⟨Z,0,ν⟩=μ (ι κ code):=by rw[<-T,<-Q];exact hA 0
  have d1:Y.cell? ⟨Z,1,ν⟩=μ (ι κ id):=by rw[<-T,<-Q];exact hA 1
  have d2:Y.cell? ⟨Z,2,ν⟩=μ (σ a n cap):=by rw[<-T,<-Q];exact hA 2
  have V:Lk Y B (VI fs fm ns nm qs qm 0 sz lf wt ow v):=by rw[<-T];exact h0
  have mb:w.grownBy Y (μ B):=by rw[<-T];exact uG B (below_drewN M m1)
  rw[T,Q];have X:B≠Z:=fC;clear H T Q hA h0 Vj M h J hl e0 hT;have Z6:=V.lt;have c0:Y.cell? ⟨B,0,ν⟩=μ (ι κ fs):=V.cell 0;have c1:Y.cell? ⟨B,1,ν⟩=μ (ι κ fm):=V.cell 1;have c2:Y.cell? ⟨B,2,ν⟩=μ (ι κ ns):=V.cell 2;have c3:Y.cell? ⟨B,3,ν⟩=μ (ι κ nm):=V.cell 3;have J:Y.cell? ⟨B,6,ν⟩=μ (ι κ 0):=V.cell 6;have c7:Y.cell? ⟨B,7,ν⟩=μ (ι κ sz):=V.cell 7;have fz:∀j,Y.frozen? ⟨B,j,ν⟩=false:=V.frozen;have H2:Hid (Lk ((((Y.setCell ⟨B,6,ν⟩ (ι κ 1)).setCell ⟨B,2,ν⟩ (ι κ fs)).setCell ⟨B,3,ν⟩ (ι κ fm)).setCell ⟨B,7,ν⟩ (ι κ 255)) B (VI fs fm fs fm qs qm 1 255 lf wt ow v)):=((((V.set 6 _).set 2 _).set 3 _).set 7 _)
  have A:Hid (w.grownBy ((((Y.setCell ⟨B,6,ν⟩ (ι κ 1)).setCell ⟨B,2,ν⟩ (ι κ fs)).setCell ⟨B,3,ν⟩ (ι κ fm)).setCell ⟨B,7,ν⟩ (ι κ 255)) (μ B)):=(rj (rj (rj (rj mb 6 _) 2 _) 3 _) 7 _)
  have G:Hid (((((Y.setCell ⟨B,6,ν⟩ (ι κ 1)).setCell ⟨B,2,ν⟩ (ι κ fs)).setCell ⟨B,3,ν⟩ (ι κ fm)).setCell ⟨B,7,ν⟩ (ι κ 255)).cell? ⟨Z,0,ν⟩=μ (ι κ code)):=by show _=_;rw[aW _ _ _ _ X,aW _ _ _ _ X,aW _ _ _ _ X,aW _ _ _ _ X];exact d0
  have E:Hid (((((Y.setCell ⟨B,6,ν⟩ (ι κ 1)).setCell ⟨B,2,ν⟩ (ι κ fs)).setCell ⟨B,3,ν⟩ (ι κ fm)).setCell ⟨B,7,ν⟩ (ι κ 255)).cell? ⟨Z,1,ν⟩=μ (ι κ id)):=by show _=_;rw[aW _ _ _ _ X,aW _ _ _ _ X,aW _ _ _ _ X,aW _ _ _ _ X];exact d1
  have D:Hid (((((Y.setCell ⟨B,6,ν⟩ (ι κ 1)).setCell ⟨B,2,ν⟩ (ι κ fs)).setCell ⟨B,3,ν⟩ (ι κ fm)).setCell ⟨B,7,ν⟩ (ι κ 255)).cell? ⟨Z,2,ν⟩=μ (σ a n cap)):=by show _=_;rw[aW _ _ _ _ X,aW _ _ _ _ X,aW _ _ _ _ X,aW _ _ _ _ X];exact d2
  go_wp2_with fail;obtain⟨U,S⟩:=fH ((((Y.setCell ⟨B,6,ν⟩ (ι κ 1)).setCell ⟨B,2,ν⟩ (ι κ fs)).setCell ⟨B,3,ν⟩ (ι κ fm)).setCell ⟨B,7,ν⟩ (ι κ 255));have h2:Lk U B (VI fs fm fs fm qs qm 1 255 lf wt ow v):=by rw[<-S];exact H2.out
  have zv:w.grownBy U (μ B):=by rw[<-S];exact A.out
  have d0:U.cell? ⟨Z,0,ν⟩=μ (ι κ code):=by rw[<-S];exact G.out
  have d1:U.cell? ⟨Z,1,ν⟩=μ (ι κ id):=by rw[<-S];exact E.out
  have d2:U.cell? ⟨Z,2,ν⟩=μ (σ a n cap):=by rw[<-S];exact D.out
  rw[S];clear H2 A G E D S fz Z6 J V mb c0 c1 c2 c3 c7;have Lv:Z<U.heap.size:=ai U _ d0;refine cH 2 ?_;rw[cy];go_wp2;go_region_with(go_at_call 208;refine(Tg B 115 code id a n cap _ fF fF fF fF fF fF fF).mono ?_;rintro e V0 ⟨rfl,k0⟩);all_goals(have L0:=(h2.drew).below k0;have g0:=De zv (De (uG B (kN (aC _ _))) (uG B k0));go_wp2_with fail;rw[cy];go_wp2;go_ret;exact⟨rfl,L0,g0⟩)
def WT(B:Nat)(fs fm ns nm qs qm sz lf wt ow:Int)(v:fB)(w:fA)(Z:kd w)(h:Lk w B (VI fs fm ns nm qs qm 0 sz lf wt ow v)):
 gb gg 120 #[π (μ ⟨B,0,ν⟩),ι κ 2] w λe w'=>e=ρ η/\Lk w' B (VI fs fm fs fm qs qm 1 255 lf wt ow v)/\w.grownBy w' (μ B):=by
  have hz:=uH;have hc:=Pb B fs fm ns nm qs qm sz lf wt ow 0 0 v ν 0 0 w Z h;clear h Z;go_in;go_wp2_with fail;refine hc.mono ?_;rintro e w1 ⟨rfl,Y,X⟩;go_wp2;go_ret;exact⟨rfl,Y,X⟩
