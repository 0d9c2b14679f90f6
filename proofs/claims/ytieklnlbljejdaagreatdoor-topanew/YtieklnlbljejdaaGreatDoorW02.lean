import Derived.Test.YtieklnlbljejdaaGreatDoorW01
open Go.Value renaming int → ι, slice → σ, pointer → π, tuple → τ, nilIface → η
open Go.IntKind renaming i64 → κ
open Go.Ending renaming returned → ρ
open Go.Obj renaming cells → γ
open Option renaming none → ν, some → μ
open Go renaming World → dY, Calls → eZ, Addr → dX, Value → dZ, storeCells → fG, run_storeCells_cells → fH, TypeId → ew, run_underlying → fO
open Go.Proofs.Tryz renaming prog → e7
open Go.RowKit renaming intOf → fa, wrap64 → fF
open Go.Obj renaming cells → fC
open Go.Value renaming int → eB, ownBlock → eu, cells → fL
open Go.IntKind renaming u8 → fD, i64 → fJ
open List renaming length_cons → eT, length_append → eR, length_nil → eU, foldl_nil → fI, map_cons → eN, map_nil → eO, nil_append → fK
open ByteArray renaming empty → fE
open Array renaming map → fM
open Go.Builtin renaming append_ → fN, lenOf → fP, firstCells → fQ, nextslicecap → fR
set_option maxRecDepth 100000
set_option maxHeartbeats 8000000
open Go.Proofs.Tryz
namespace Go.Proofs.YtieklnlbljejdaaGreatDoor
open Go.RowKit
variable {C a b cp g j k lo m n o:Nat} {F G:Nat->Value} {ao:Option Addr} {d e:Bool} {l:List UInt8} {ob:Obj} {ok:List jH} {pre ss:List SV} {u v:Value} {w w' w1 wr x1:World} {x:SV}
def yA(n:Int):Bool:=decide (0<=n)&&decide (n<=255)
theorem mc(n:Int)(w:dY):eZ e7 226 #[ι κ n] w λe w'=>e=ρ (.bool (yA n))/\w=w':=by
 by_cases Z:0<=n
 ·by_cases Y:n<=255
  ·have hb:yA n=true:=by simp[yA,Z,Y]
   rw[hb];clear hb
   go_in
   go_wp2
   go_ret;exact⟨by first|rfl|(simp;omega),rfl⟩
  ·have hb:yA n=false:=by simp[yA,Y]
   rw[hb];clear hb
   go_in
   go_wp2
   go_ret;exact⟨by first|rfl|(simp;omega),rfl⟩
 ·have hb:yA n=false:=by simp[yA,Z]
  rw[hb];clear hb
  go_in
  go_wp2
  go_ret;exact⟨by first|rfl|(simp;omega),rfl⟩
theorem BW(k n K:Int)(bo:Nat)(w:dY)(QT:bo<w.heap.size)(h:w.cell? ⟨bo,0,ν⟩=μ (ι κ K)):
 eZ e7 243 #[.agg #[ι κ k,ι κ n],π (μ ⟨bo,0,ν⟩)] w λe w'=>e=ρ (.bool (k==K))/\eE w w':=by
 go_in
 go_wp2
 go_ret;exact⟨rfl,(au _ _).alloc (Nat.le_refl _) _⟩
theorem QU(a:Option dX)(n cap:Nat)(os:List jH)(K:Int)(bo:Nat)(w:dY)(hn:n<=1000000)(M:bo<w.heap.size)(h:w.cell? ⟨bo,0,ν⟩=μ (ι κ K))(U:jg w a n os):
 eZ e7 254 #[σ a n cap,.func (.func 243) #[] #[π (μ ⟨bo,0,ν⟩)]] w λe w'=>∃r:Int,e=ρ (ι κ r)/\(decide (0<=r)=os.any (λo=>o.1==K))/\eE w w':=by
 go_in
 go_wp2
 go_loopw [8] (λi wr=>∃k:Nat,k<=n/\i=ι κ k/\(os.take k).any (λo=>o.1==K)=false/\eE w wr) (λi _=>n-(fa i).toNat)
 case atStart=>exact⟨0,Nat.zero_le _,rfl,rfl,au _ _⟩
 case round=>
  obtain⟨k,hk,rfl,X,Y⟩:=hrel;have Z:Hid _:=X;clear X;by_cases y:k<n
  ·have D:=U.below Y;rcases D.2 with h0|⟨b,off,rfl,hc⟩
   ·omega
   have E:k<os.length:=by rw[U.1];exact y
   obtain⟨c1,c2⟩:=hc k E;have J:wr.cell? ⟨bo,0,ν⟩=μ (ι κ K):=(Y.cell (p:=⟨bo,0,ν⟩) M).trans h;have V:bo<wr.heap.size:=Nat.lt_of_lt_of_le M Y.size;have Q:Hid (os.take (k+1)=os.take k++ [os[k]]):=aA E;have S:Hid (os[k] ∈os):=aF _;generalize os[k] =o at c1 c2 Q S;clear hc;have nS:(k:Int)<(n:Int):=eh;cases H:(o.1==K)
   ·go_wp2_with(fail);refine(BW o.1 o.2 K bo wr V J).mono ?_;rintro e w1 ⟨rfl,T⟩
    go_wp2
    go_roundw
    case rel=>exact⟨k+1,eh,by go_num,by rw[Q.out,List.any_append,Z.out];simp[H],gu Y T⟩
    case measure=>simp[fa];omega
   ·go_wp2_with(fail);refine(BW o.1 o.2 K bo wr V J).mono ?_;rintro e w1 ⟨rfl,T⟩
    go_wp2
    go_ret;refine⟨_,rfl,?_,gu Y T⟩;have A:os.any (λo=>o.1==K)=true:=List.any_eq_true.mpr ⟨o,S.out,H⟩;rw[A];simp
  ·have zn:os.take k=os:=aI (by rw[U.1];omega);rw[zn]at Z
   go_wp2
   go_ret;exact⟨-1,rfl,by rw[Z.out];rfl,Y⟩
theorem Jb(a:Option dX)(n cap:Nat)(os:List jH)(K:Int)(bo:Nat)(w:dY)(Y:n<=1000000)(Z:bo<w.heap.size)(h:w.cell? ⟨bo,0,ν⟩=μ (ι κ K))(X:jg w a n os):
 eZ e7 242 #[σ a n cap,.func (.func 243) #[] #[π (μ ⟨bo,0,ν⟩)]] w λe w'=>e=ρ (.bool (os.any (λo=>o.1==K)))/\eE w w':=by
 go_in
 go_wp2_with(fail);refine(QU a n cap os K bo w Y Z h X).mono ?_;rintro e w1 ⟨r,rfl,V,hb⟩
 go_wp2
 go_ret;exact⟨by rw[<-V];rfl,hb⟩
def qg:List jH->List jH->Nat
 |_,[] =>0
 |seen,o::r=>if(yA o.1&&yA o.2)=false then 1 else if seen.any (λx=>x.1==o.1)=true then 3 else qg (seen++ [o]) r
theorem AQ(a:Option dX)(n cap:Nat)(os:List jH)(w:dY)(hn:n<=1000000)(KC:n<=cap)(E:jg w a n os):
 eZ e7 227 #[σ a n cap] w λe w'=>e=ρ (jk (qg [] os))/\eE w w':=by
 go_in
 go_wp2
 go_loopw [7] (λi wr=>∃k:Nat,k<=n/\i=ι κ k/\qg [] os=qg (os.take k) (os.drop k)/\eE w wr) (λi _=>n-(fa i).toNat)
 case atStart=>exact⟨0,Nat.zero_le _,rfl,rfl,au _ _⟩
 case round=>
  obtain⟨k,hk,rfl,h,T⟩:=hrel;have hF:Hid _:=h;clear h;by_cases kD:k<n
  ·have M:=E.below T;have Up:=M.take k eh;rcases M.2 with h0|⟨b,off,rfl,hc⟩
   ·omega
   have A:k<os.length:=by rw[E.1];exact kD
   obtain⟨c1,c2⟩:=hc k A;have y:Hid (os.take (k+1)=os.take k++ [os[k]]):=aA A;have V:Hid (os.drop k=os[k] ::os.drop (k+1)):=aS A;generalize os[k] =o at c1 c2 y V;clear hc;have nS:(k:Int)<(n:Int):=eh;have Q:eE w (wr.alloc (γ #[ι κ o.1,ι κ o.2] 276)):=T.alloc T.size _;have U:jg (wr.alloc (γ #[ι κ o.1,ι κ o.2] 276)) (μ ⟨b,off,ν⟩) k (os.take k):=Up.below ((au _ _).alloc (Nat.le_refl _) _);have H:(wr.alloc (γ #[ι κ o.1,ι κ o.2] 276)).cell? ⟨wr.heap.size,0,ν⟩=μ (ι κ o.1):=aq wr #[ι κ o.1,ι κ o.2] 276 (0,0) 0;have S:=Jb (μ ⟨b,off,ν⟩) k cap (os.take k) o.1 wr.heap.size (wr.alloc (γ #[ι κ o.1,ι κ o.2] 276)) eh gZ H U;clear Up U M;cases X:yA o.1
   ·have Y:Hid (qg [] os=1):=by
     show qg [] os=1;rw[hF.out,V.out,qg,ai (by simp[X])]
    go_wp2_with(fail);refine(mc o.1 _).mono ?_;rintro e w1 ⟨rfl,rfl⟩;go_wp2_with(fail);rw[Y.out];go_ret;exact⟨rfl,Q⟩
   ·cases J:yA o.2
    ·have Y:Hid (qg [] os=1):=by
      show qg [] os=1;rw[hF.out,V.out,qg,ai (by simp[J])]
     go_wp2_with(fail);refine(mc o.1 _).mono ?_;rintro e w1 ⟨rfl,rfl⟩;go_wp2_with(fail);refine(mc o.2 _).mono ?_;rintro e w1 ⟨rfl,rfl⟩;go_wp2_with(fail);rw[Y.out];go_ret;exact⟨rfl,Q⟩
    ·cases Z:(os.take k).any (λx=>x.1==o.1)
     ·have Y:Hid (qg [] os=qg (os.take (k+1)) (os.drop (k+1))):=by
       show qg [] os=_;rw[hF.out,V.out,qg,af (by simp[X,J]),af (by simp[Z]),y.out]
      rw[Z]at S;clear Z;go_wp2_with(fail);refine(mc o.1 _).mono ?_;rintro e w1 ⟨rfl,rfl⟩;go_wp2_with(fail);refine(mc o.2 _).mono ?_;rintro e w1 ⟨rfl,rfl⟩;go_wp2_with(fail);refine S.mono ?_;rintro e w1 ⟨rfl,D⟩
      go_wp2
      go_roundw
      case rel=>exact⟨k+1,eh,by go_num,Y.out,gu Q D⟩
      case measure=>simp[fa];omega
     ·have Y:Hid (qg [] os=3):=by
       show qg [] os=3;rw[hF.out,V.out,qg,af (by simp[X,J]),ai Z]
      rw[Z]at S;clear Z;go_wp2_with(fail);refine(mc o.1 _).mono ?_;rintro e w1 ⟨rfl,rfl⟩;go_wp2_with(fail);refine(mc o.2 _).mono ?_;rintro e w1 ⟨rfl,rfl⟩;go_wp2_with(fail);refine S.mono ?_;rintro e w1 ⟨rfl,D⟩;go_wp2_with(fail);rw[Y.out];go_ret;exact⟨rfl,gu Q D⟩
  ·have Y:Hid (qg [] os=0):=by
    show qg [] os=0;have G7:os.drop k=[] :=a8 (by rw[E.1];omega);rw[hF.out,G7,qg]
   go_wp2_with(fail);rw[Y.out];go_ret;exact⟨rfl,T⟩
def jU(code id:Int)(os:List jH):Nat:=
 if code<1 \/6<code \/yA id=false then 1
 else if 8<os.length then 2
 else if 5<=code/\0<os.length then 3
 else qg [] os
theorem uo(code id:Int)(a:Option dX)(n cap:Nat)(os:List jH)(w:dY)(J:n<=1000000)(S:n<=cap)(U:jg w a n os):
 eZ e7 209 #[.agg #[ι κ code,ι κ id,σ a n cap]] w λe w'=>e=ρ (jk (jU code id os))/\eE w w':=by
 have hl:=U.1;have Y:eE w (w.alloc (γ #[ι κ code,ι κ id,σ a n cap] 37)):=(au _ _).alloc (Nat.le_refl _) _;have T:=AQ a n cap os (w.alloc (γ #[ι κ code,ι κ id,σ a n cap] 37)) J S (U.below Y);by_cases Q:code<1
 ·have Z:Hid (jU code id os=1):=by show jU code id os=1;simp[jU,Q]
  go_in
  go_wp2_with(fail);rw[Z.out];go_ret;exact⟨rfl,Y⟩
 ·by_cases M:6<code
  ·have Z:Hid (jU code id os=1):=by show jU code id os=1;simp[jU,M]
   go_in
   go_wp2_with(fail);rw[Z.out];go_ret;exact⟨rfl,Y⟩
  ·cases X:yA id
   ·have Z:Hid (jU code id os=1):=by show jU code id os=1;simp[jU,X]
    go_in
    go_wp2_with(fail);refine(mc id _).mono ?_;rintro e w1 ⟨rfl,rfl⟩;go_wp2_with(fail);rw[Z.out];go_ret;exact⟨rfl,Y⟩
   ·by_cases h4:(8:Int)<(n:Int)
    ·have Z:Hid (jU code id os=2):=by
      show jU code id os=2;rw[jU,af (by simp[X];omega),ai eh]
     go_in
     go_wp2_with(fail);refine(mc id _).mono ?_;rintro e w1 ⟨rfl,rfl⟩;go_wp2_with(fail);rw[Z.out];go_ret;exact⟨rfl,Y⟩
    ·by_cases h5:5<=code
     ·by_cases h6:(0:Int)<(n:Int)
      ·have Z:Hid (jU code id os=3):=by
        show jU code id os=3;rw[jU,af (by simp[X];omega),af eh,ai eh]
       go_in
       go_wp2_with(fail);refine(mc id _).mono ?_;rintro e w1 ⟨rfl,rfl⟩;go_wp2_with(fail);rw[Z.out];go_ret;exact⟨rfl,Y⟩
      ·have Z:Hid (jU code id os=qg [] os):=by
        show jU code id os=_;rw[jU,af (by simp[X];omega),af eh,af eh]
       go_in
       go_wp2_with(fail);refine(mc id _).mono ?_;rintro e w1 ⟨rfl,rfl⟩;go_wp2_with(fail);refine T.mono ?_;rintro e w1 ⟨rfl,V⟩;go_wp2_with(fail);rw[Z.out];go_ret;exact⟨rfl,gu Y V⟩
     ·have Z:Hid (jU code id os=qg [] os):=by
       show jU code id os=_;rw[jU,af (by simp[X];omega),af eh,af eh]
      go_in
      go_wp2_with(fail);refine(mc id _).mono ?_;rintro e w1 ⟨rfl,rfl⟩;go_wp2_with(fail);refine T.mono ?_;rintro e w1 ⟨rfl,V⟩;go_wp2_with(fail);rw[Z.out];go_ret;exact⟨rfl,gu Y V⟩
theorem Dn(x:Int):yA x=true↔0<=x/\x<=255:=by simp[yA]
open Plain
theorem aat:(e7.info? 5).map (λi=>(i.zero,i.size,i.bytes))=μ (μ (.int .u8 0),1,1):=gX
theorem KE(s:ByteArray)(w:dY)(hs:s.size<=60):
 eZ e7 197 #[.string s] w λe w'=>e=ρ (τ #[.string ⟨(lS s.data.toList).toArray⟩,η])/\eE w w':=by
 obtain⟨i0,hi,oB,np,mI⟩:=aX aat;have hle:¬(60:Int)<(s.size:Int):=eh;have hsl:=Plain.MW s.data.toList;obtain⟨cap,C,fr,afn,iX⟩:=Gj (P:=e7) (w.alloc (γ #[.int .u8 126] 5)) 9 140 5 s underlying9 underlying140 underlying5 (by unfold maxLen;omega);have rV:(w.alloc (γ #[.int .u8 126] 5)).heap.size=w.heap.size+1:=gZ;rw[rV]at iX;obtain⟨L,hL⟩:∃L,L=l7 s.data.toList:=⟨_,rfl⟩
 have hLl:L.length=s.size+2:=by rw[hL,oC];rfl
 go_in
 go_wp2_with(first
  |(go_at_call 210;refine(O6 _ _ ?hx).mono ?_;(case hx=>unfold maxLen;omega);rintro e w' ⟨rfl,rfl⟩)
  |(at_builtin;go_must(refine iI _ rfl (.tmp 16) (.tmp 22) 140 rfl 5 i0 (.int .u8 0) 1 1 underlying140 hi oB np mI rfl eA (.slice (some ⟨w.heap.size+1,0,none⟩) s.size cap) s.size (iR s.data.toList) rfl ?r1 _ 2 2 (iR [Ku s.data.toList,Kv s.data.toList]) rfl rfl eA ?c1 ?c2 ?c3 ?c4 ?_)))
 case r1=>exact(iX.alloc _).drew
 case c1=>
  intro j u hu;rw[add_plain,World.cell?_drew];have h2:=aq ((w.alloc (fC #[eB fD 126] 5)).alloc (fC C 5 fr)) #[eB fD (↑(sum s.data.toList) %256),eB fD (↑(sum s.data.toList)/256)] 5 (0,0) j;have h3:((w.alloc (fC #[eB fD 126] 5)).alloc (fC C 5 fr)).heap.size=w.heap.size+1+1:=gZ;rw[h3]at h2;rw[h2,<-G9,<-Ha];simpa[iR]using hu
 case c2=>intro u hu;simp[iR]at hu;rcases hu with rfl|rfl<;>rfl
 case c3=>unfold maxLen;omega
 case c4=>omega
 intro g1 CQ w1 BX kG jI;have yB:eE w w1:=by
  refine Below.grown ?_ kG ?_ ?_
  ·exact((((au _ _).alloc (Nat.le_refl _) _).alloc gZ _).alloc (by simp;omega) _).drew
  ·simp;omega
  ·intro k hk;simp[eu]at hk;omega
 have KF:w.heap.size<g1:=by
  rcases jI with h|h
  ·simp[eu]at h;omega
  ·omega
 have ur:Row w1 1 (σ (μ ⟨w.heap.size,0,ν⟩) 1 1) 1 (iR [126]):=by
  refine Row.kept (row:=μ (w.heap.size+1)) ?q1 kG ?q2
  case q1=>exact(((Row.made w 1 5 #[.int .u8 126] (0,0) 1 1 (iR [126]) rfl rfl (Nat.le_refl _) eA (.inl rfl) (by simp[iR])).alloc _).alloc _).drew
  case q2=>
   intro k hk;have uR:w.heap.size=k:=by simpa[eu]using hk
   intro e;have e':w.heap.size+1=k:=by simpa using e
   omega
 have hS:Row w1 1 (σ (μ ⟨g1,0,ν⟩) (s.size+2) CQ) (s.size+2) (iR L):=by
  rw[hL,l7,lM];exact BX
 clear BX kG jI iX afn
 go_wp2
 go_loopw [5,25] (λv i wr=>∃(k g cp:Nat) (E:List UInt8),E=126::sH (L.take k)/\k<=L.length/\i=ι κ k/\v=σ (μ ⟨g,0,ν⟩) E.length cp/\Row wr 1 v E.length (iR E)/\
  Row wr 1 (σ (μ ⟨g1,0,ν⟩) (s.size+2) CQ) (s.size+2) (iR L)/\w.heap.size<=g/\g≠g1/\eE w wr)
  (λ_ i _=>L.length-(fa i).toNat)
 case atStart=>exact⟨0,w.heap.size,1,[126],rfl,Nat.zero_le _,rfl,rfl,ur,hS,Nat.le_refl _,eh,yB⟩
 case round=>
  obtain⟨k,g,cp,E,Nd,hk,rfl,rfl,J,M,Kj,Ur,H⟩:=hrel;have Ph:E.length<=1+2*62:=by
   have h1:=Dk (L.take k);have h2:(L.take k).length<=62:=by simp;omega
   rw[Nd];simp only[eT];omega
  have HE:Hid _:=Nd;clear Nd;clear ur hS yB;have m1:E.length+1<=maxLen:=by unfold maxLen;omega
  have m2:E.length+2<=maxLen:=by unfold maxLen;omega
  have b1:(E.length+1)*1<=140737488355328:=eh;have b2:(E.length+2)*1<=140737488355328:=eh;by_cases kD:k<L.length
  ·have hcell:=M.cell k _ (yo L k kD);have hx:=aai L[k];have HN:Hid (126::sH (L.take (k+1))=E++CT L[k]):=by
    have:L.take (k+1)=L.take k++ [L[k]] :=aA kD;rw[HE.out,this,QK];rfl
   have HC:Hid (rW L[k] =true↔_):=QL L[k];obtain⟨c,hc⟩:∃c,c=L[k] :=⟨_,rfl⟩
   rw[<-hc]at hcell hx HN HC;clear hc;have hT:∀(T:rW c=true) (D A:Nat) (Z:dY),Row Z 1 (σ (μ ⟨D,0,ν⟩) (E.length+2) A) (E.length+2) (iR E++ [.int .u8 125,.int .u8 ((c^^^32).toNat:Int)])->
    Row Z 1 (σ (μ ⟨D,0,ν⟩) (126::sH (L.take (k+1))).length A) (126::sH (L.take (k+1))).length (iR (126::sH (L.take (k+1))))/\(126::sH (L.take (k+1))).length=E.length+2:=by
    intro T D A Z hr;rw[HN.out];have e1:CT c=[125,c^^^32] :=by simp[CT,T]
    rw[e1];refine⟨?_,gZ⟩;rw[lM,az];exact hr
   have hO:∀(T:¬rW c=true) (D A:Nat) (Z:dY),Row Z 1 (σ (μ ⟨D,0,ν⟩) (E.length+1) A) (E.length+1) (iR E++ [.int .u8 (c.toNat:Int)])->
    Row Z 1 (σ (μ ⟨D,0,ν⟩) (126::sH (L.take (k+1))).length A) (126::sH (L.take (k+1))).length (iR (126::sH (L.take (k+1))))/\(126::sH (L.take (k+1))).length=E.length+1:=by
    intro T D A Z hr;rw[HN.out];have e1:CT c=[c] :=by simp[CT,T]
    rw[e1];refine⟨?_,gZ⟩;rw[lM,az];exact hr
   by_cases h1:((c.toNat:Int)==126)=true
   ·have T:rW c=true:=HC.out.mpr (.inl (by simpa using h1));go_wp2_with(at_builtin;go_must(refine iI _ rfl (.tmp 39) (.tmp 42) 140 rfl 5 i0 (.int .u8 0) 1 1 underlying140 hi oB np mI rfl eA _ E.length (iR E) rfl (J.alloc _) _ 2 2 [.int .u8 125,.int .u8 ((c^^^32).toNat:Int)] rfl rfl eA (pP _ _ _ _) (lR _ _ _ _) m2 b2 ?_));intro U cap2 Z V X Y;obtain⟨y,Q⟩:=hT T U cap2 Z V;have R:=vU X Y M Kj Ur H;have S:Hid _:=Q;clear Q X Y V J M H hcell hx
    go_wp2
    go_roundw
    case rel=>exact⟨k+1,U,cap2,_,rfl,eh,by go_num,by rw[S.out],by rw[<-S.out];exact y,R.1,R.2.1,R.2.2.1,R.2.2.2⟩
    case measure=>simp[fa];omega
   ·have yC:((c.toNat:Int)==126)=false:=by simpa using h1
    by_cases h2:((c.toNat:Int)==125)=true
    ·have T:rW c=true:=HC.out.mpr (.inr (.inl (by simpa using h2)));go_wp2_with(at_builtin;go_must(refine iI _ rfl (.tmp 39) (.tmp 42) 140 rfl 5 i0 (.int .u8 0) 1 1 underlying140 hi oB np mI rfl eA _ E.length (iR E) rfl (J.alloc _) _ 2 2 [.int .u8 125,.int .u8 ((c^^^32).toNat:Int)] rfl rfl eA (pP _ _ _ _) (lR _ _ _ _) m2 b2 ?_));intro U cap2 Z V X Y;obtain⟨y,Q⟩:=hT T U cap2 Z V;have R:=vU X Y M Kj Ur H;have S:Hid _:=Q;clear Q X Y V J M H hcell hx
     go_wp2
     go_roundw
     case rel=>exact⟨k+1,U,cap2,_,rfl,eh,by go_num,by rw[S.out],by rw[<-S.out];exact y,R.1,R.2.1,R.2.2.1,R.2.2.2⟩
     case measure=>simp[fa];omega
    ·have AR:((c.toNat:Int)==125)=false:=by simpa using h2
     by_cases h3:(c.toNat:Int)<32
     ·have T:rW c=true:=HC.out.mpr (.inr (.inr h3));go_wp2_with(at_builtin;go_must(refine iI _ rfl (.tmp 39) (.tmp 42) 140 rfl 5 i0 (.int .u8 0) 1 1 underlying140 hi oB np mI rfl eA _ E.length (iR E) rfl (J.alloc _) _ 2 2 [.int .u8 125,.int .u8 ((c^^^32).toNat:Int)] rfl rfl eA (pP _ _ _ _) (lR _ _ _ _) m2 b2 ?_));intro U cap2 Z V X Y;obtain⟨y,Q⟩:=hT T U cap2 Z V;have R:=vU X Y M Kj Ur H;have S:Hid _:=Q;clear Q X Y V J M H hcell hx
      go_wp2
      go_roundw
      case rel=>exact⟨k+1,U,cap2,_,rfl,eh,by go_num,by rw[S.out],by rw[<-S.out];exact y,R.1,R.2.1,R.2.2.1,R.2.2.2⟩
      case measure=>simp[fa];omega
     ·have T:¬rW c=true:=by
       rw[HC.out];simp at yC AR;omega
      go_wp2_with(at_builtin;go_must(refine iI _ rfl (.tmp 44) (.tmp 46) 140 rfl 5 i0 (.int .u8 0) 1 1 underlying140 hi oB np mI rfl eA _ E.length (iR E) rfl (J.alloc _) _ 1 1 [.int .u8 (c.toNat:Int)] rfl rfl eA (qJ _ _ _) (xm _ _) m1 b1 ?_));intro U cap2 Z V X Y;obtain⟨y,Q⟩:=hO T U cap2 Z V;have R:=vU X Y M Kj Ur H;have S:Hid _:=Q;clear Q X Y V J M H hcell hx
      go_wp2
      go_roundw
      case rel=>exact⟨k+1,U,cap2,_,rfl,eh,by go_num,by rw[S.out],by rw[<-S.out];exact y,R.1,R.2.1,R.2.2.1,R.2.2.2⟩
      case measure=>simp[fa];omega
  ·go_wp2_with(at_builtin;go_must(refine iI _ rfl (.tmp 49) (.tmp 50) 140 rfl 5 i0 (.int .u8 0) 1 1 underlying140 hi oB np mI rfl eA _ E.length (iR E) rfl (J.alloc _) _ 1 1 [.int .u8 126] rfl rfl eA (qJ _ _ _) (xm _ _) m1 b1 ?_));intro U cap2 Z V X Y;have R:=vU X Y M Kj Ur H;have Xz:k=L.length:=eh;have hF:lS s.data.toList=E++ [126] :=by
    rw[HE.out,Xz,aI (Nat.le_refl _),hL];rfl
   have aau:(convert 140 9 (σ (μ ⟨U,0,ν⟩) (E.length+1) cap2)).run e7 Z=.ok (.string ⟨(E++ [126]).toArray⟩) Z:=by
    refine Row.back (n:=E.length+1) ?_ 140 9 5 underlying140 underlying5 underlying9;rw[lM];exact V
   clear V X Y J M H;have HF:Hid _:=hF;clear hF Xz
   go_wp2
   go_ret2
   exact⟨by rw[HF.out];rfl,R.2.2.2⟩
theorem Pj(s:ByteArray)(w:dY)(hs:60<s.size)(Z:s.size<=maxLen):
 eZ e7 197 #[.string s] w λe w'=>e=ρ (τ #[.string fE,.iface 128 (ι κ 2)])/\w=w':=by
 unfold maxLen at Z;have hle:(60:Int)<(s.size:Int):=eh
 go_in
 go_wp2
 go_ret2
 exact⟨rfl,rfl⟩
def qz(w:dY)(g o m:Nat)(F:Nat->dZ):Prop:=∀j,j<m->w.cell? ⟨g,o+j,ν⟩=μ (F j)/\w.frozen? ⟨g,o+j,ν⟩=false
def tC(F:Nat->dZ)(i:Nat)(v:dZ):Nat->dZ:=λj=>if j=i then v else F j
theorem pS(F:Nat->dZ)(i:Nat)(v:dZ):tC F i v i=v:=by simp[tC]
theorem jM(F:Nat->dZ) {i:Nat} (v:dZ)(h:j≠i):tC F i v j=F j:=by simp[tC,h]
theorem mJ(w:dY)(a x:dX)(v:dZ):(w.setCell a v).frozen? x=w.frozen? x:=gZ
theorem qz.cell {w:dY} {g o m:Nat} {F:Nat->dZ} (h:qz w g o m F)(j:Nat)(Z:j<m):w.cell? ⟨g,o+j,ν⟩=μ (F j):=(h j Z).1
theorem qz.fz(h:qz w g o m F)(j:Nat)(Z:j<m):w.frozen? ⟨g,o+j,ν⟩=false:=(h j Z).2
theorem qz.lt(h:qz w g o m F)(Z:0<m):g<w.heap.size:=ag w _ (h.cell 0 Z)
theorem qz.set(h:qz w g o m F)(i:Nat)(hi:i<m)(v:dZ):qz (w.setCell ⟨g,o+i,ν⟩ v) g o m (tC F i v):=by
 intro j Z;refine⟨?_,(mJ _ _ _ _).trans (h.fz j Z)⟩;by_cases e:j=i
 ·subst e;rw[pS];exact World.cell?_setCell_same _ _ _ (h.cell j Z)
 ·rw[jM F v e,aW _ _ _ _ (λe=>by have:=congrArg Addr.off e;simp at this;omega)];exact h.cell j Z
theorem qz.keep(h:qz w g o m F)(hb:w'.heap[g]? =w.heap[g]?):qz w' g o m F:=λj Z=>by
 refine⟨(aj (a:=⟨g,o+j,ν⟩) hb).trans (h.cell j Z),?_⟩;have:w'.frozen? ⟨g,o+j,ν⟩=w.frozen? ⟨g,o+j,ν⟩:=by
  simp only[World.frozen?,hb]
 exact this.trans (h.fz j Z)
theorem qz.below(h:qz w g o m F)(Z:0<m)(hb:eE w w'):qz w' g o m F:=h.keep (hb.block g (h.lt Z))
theorem qz.sub(h:qz w g o m F)(a k:Nat)(hk:a+k<=m):qz w g (o+a) k (λj=>F (a+j)):=λj hj=>by
 have:=h (a+j) eh;rw[Nat.add_assoc];exact this
theorem qz.congr(h:qz w g o m F)(e:∀j,j<m->F j=G j):qz w g o m G:=λj Z=>by rw[<-e j Z];exact h j Z
structure lp(w w':dY)(g o m:Nat):Prop where
 os:w'.os=w.os
 tape:w'.tape=w.tape
 output:w'.output=w.output
 size:w.heap.size<=w'.heap.size
 block:∀i,i<w.heap.size->i≠g->w'.heap[i]? =w.heap[i]?
 cell:∀j,j<o \/o+m<=j->w'.cell? ⟨g,j,ν⟩=w.cell? ⟨g,j,ν⟩
 fz:∀j,w'.frozen? ⟨g,j,ν⟩=w.frozen? ⟨g,j,ν⟩
theorem lp.refl(w:dY)(g o m:Nat):lp w w g o m:=⟨rfl,rfl,rfl,Nat.le_refl _,λ_ _ _=>rfl,λ_ _=>rfl,λ_=>rfl⟩
theorem lp.trans {a b c:dY} {g o m:Nat} (h:lp a b g o m)(k:lp b c g o m):lp a c g o m:=
 ⟨k.os.trans h.os,k.tape.trans h.tape,k.output.trans h.output,Nat.le_trans h.size k.size,λi hi Y=>(k.block i (Nat.lt_of_lt_of_le hi h.size) Y).trans (h.block i hi Y),λj Z=>(k.cell j Z).trans (h.cell j Z),λj=>(k.fz j).trans (h.fz j)⟩
theorem lp.set {x:dY} (h:lp w x g o m)(j:Nat)(h1:o<=j)(h2:j<o+m)(v:dZ):lp w (x.setCell ⟨g,j,ν⟩ v) g o m:=by
 have b1:Below 0 x (x.setCell ⟨g,j,ν⟩ v):=(au 0 x).setCell (Nat.zero_le _) _;exact⟨b1.os.trans h.os,b1.tape.trans h.tape,b1.output.trans h.output,Nat.le_trans h.size b1.size,λi hi Z=>(ak _ _ _ i Z).trans (h.block i hi Z),
  λi hi=>(aW _ _ _ _ (λe=>by have:=congrArg Addr.off e;simp at this;omega)).trans (h.cell i hi),λi=>(mJ _ _ _ _).trans (h.fz i)⟩
theorem lp.drewN {w x:dY} {g o m:Nat} (h:lp w x g o m)(n:Nat):lp w (x.drewN n) g o m:=⟨h.os,h.tape,h.output,h.size,h.block,h.cell,h.fz⟩
theorem lp.drew {w x:dY} {g o m:Nat} (h:lp w x g o m):lp w x.drew g o m:=⟨h.os,h.tape,h.output,h.size,h.block,h.cell,h.fz⟩
theorem qz.join(h:qz w g o m F)(X:lp w w' g (o+a) k)(U:qz w' g (o+a) k G):qz w' g o m (λj=>if a<=j/\j<a+k then G (j-a)else F j):=λj Y=>by
 by_cases e:a<=j/\j<a+k
 ·have Z:=U (j-a) eh;have V:o+a+(j-a)=o+j:=eh;rw[V]at Z;simp only[if_pos e];exact Z
 ·simp only[if_neg e];exact⟨(X.cell (o+j) eh).trans (h.cell j Y),(X.fz _).trans (h.fz j Y)⟩
structure Dp(F:Nat->dZ)(l:List UInt8)(e d:Bool):Prop where
 len:l.length<=62
 live:∀i:Nat,i<62->∃x:Int,F i=.int .u8 x
 body:∀(i:Nat) (h:i<l.length),F i=.int .u8 (l[i].toNat:Int)
 many:F 62=ι κ (l.length:Int)
 esc:F 63=.bool e
 bad:F 64=.bool d
def Rd(w:dY)(g o:Nat)(l:List UInt8)(e d:Bool):Prop:=∃F,qz w g o 65 F/\Dp F l e d
theorem Dp.Jc(h:Dp F l e d)(d':Bool):Dp (tC F 64 (.bool d')) l e d':=by
 have hlen:=h.len;refine⟨hlen,λi hi=> ?_,λi hi=> ?_,?_,?_,pS _ _ _⟩
 ·obtain⟨x,hx⟩:=h.live i hi;exact⟨x,by rw[jM _ _ eh];exact hx⟩
 ·rw[jM _ _ eh];exact h.body i hi
 ·rw[jM _ _ eh];exact h.many
 ·rw[jM _ _ eh];exact h.esc
theorem Dp.Nf(h:Dp F l e d)(e':Bool):Dp (tC F 63 (.bool e')) l e' d:=by
 have hlen:=h.len;refine⟨hlen,λi hi=> ?_,λi hi=> ?_,?_,pS _ _ _,?_⟩
 ·obtain⟨x,hx⟩:=h.live i hi;exact⟨x,by rw[jM _ _ eh];exact hx⟩
 ·rw[jM _ _ eh];exact h.body i hi
 ·rw[jM _ _ eh];exact h.many
 ·rw[jM _ _ eh];exact h.bad
theorem Dp.push(h:Dp F l e d)(hl:l.length<62)(c:UInt8):
 Dp (tC (tC F l.length (.int .u8 (c.toNat:Int))) 62 (ι κ ((l.length:Int)+1))) (l++ [c]) e d:=by
 refine⟨by simp;omega,λi hi=> ?_,λi hi=> ?_,?_,?_,?_⟩
 ·rw[jM _ _ eh];by_cases Z:i=l.length
  ·rw[Z,pS];exact⟨_,rfl⟩
  ·rw[jM _ _ Z];exact h.live i hi
 ·have kX:i<l.length+1:=by simpa using hi
  rw[jM _ _ eh];by_cases Z:i=l.length
  ·subst Z;rw[pS];simp
  ·rw[jM _ _ Z,h.body i eh,List.getElem_append_left eh]
 ·rw[pS];simp
 ·rw[jM _ _ eh,jM _ _ eh];exact h.esc
 ·rw[jM _ _ eh,jM _ _ eh];exact h.bad
def r8:List UInt8×Bool×Bool->UInt8->List UInt8×Bool×Bool
 |(l,e,d),c=>
  if c<32 \/(c=125/\e=true)then(l,e,true)
  else if c=125 then(l,true,d)
  else if l.length=62 then(l,false,true)
  else(l++ [if e then c^^^32 else c],false,d)
theorem Us(g o:Nat)(l:List UInt8)(e d:Bool)(c:UInt8)(w:dY)(h:Rd w g o l e d):
 eZ e7 182 #[π (μ ⟨g,o,ν⟩),.int .u8 (c.toNat:Int)] w λe' w'=>e'=ρ (τ #[])/\Rd w' g o (r8 (l,e,d) c).1 (r8 (l,e,d) c).2.1 (r8 (l,e,d) c).2.2/\lp w w' g o 65:=by
 obtain⟨F,hC,M⟩:=h;have S:Hid _:=M;have hlen:=M.len;have Y:c<32↔(c.toNat:Int)<32:=by rw[UInt8.lt_iff_toNat_lt];show c.toNat<32↔_;omega
 have Q:c=125↔((c.toNat:Int)==125)=true:=by
  rw[<-UInt8.toNat_inj,dU];show c.toNat=125↔_;omega
 have afq:w.cell? ⟨g,o+62,ν⟩=μ (ι κ (l.length:Int)):=(hC.cell 62 eA).trans (congrArg μ M.many);have aj2:w.cell? ⟨g,o+63,ν⟩=μ (.bool e):=(hC.cell 63 eA).trans (congrArg μ M.esc);have wi:w.cell? ⟨g,o+64,ν⟩=μ (.bool d):=(hC.cell 64 eA).trans (congrArg μ M.bad);have U:∀i,i<65->w.frozen? ⟨g,o+i,ν⟩=false:=λi hi=>hC.fz i hi;have f62:=U 62 eA;have f63:=U 63 eA;have f64:=U 64 eA;have KF:=hC.lt eA;have T:Hid (qz w g o 65 F):=hC;clear hC M;by_cases y:(c.toNat:Int)<32
 ·have V:r8 (l,e,d) c=(l,e,true):=by simp[r8,Y.mpr y]
  rw[V];clear Y Q U
  go_in
  go_wp2
  first|go_end0|refine iM rfl rfl ?_
  exact⟨rfl,⟨_,T.out.set 64 eA _,S.out.Jc true⟩,(lp.refl _ _ _ _).set _ eh eh _⟩
 ·have X:¬c<32:=λx=>y (Y.mp x);by_cases J:((c.toNat:Int)==125)=true
  ·have E:c=125:=Q.mpr J;cases e
   ·have V:r8 (l,false,d) c=(l,true,d):=by simp[r8,E]
    rw[V];clear Y Q E X U
    go_in
    go_wp2
    first|go_end0|refine iM rfl rfl ?_
    exact⟨rfl,⟨_,T.out.set 63 eA _,S.out.Nf true⟩,(lp.refl _ _ _ _).set _ eh eh _⟩
   ·have V:r8 (l,true,d) c=(l,true,true):=by simp[r8,E]
    rw[V];clear Y Q E X U
    go_in
    go_wp2
    first|go_end0|refine iM rfl rfl ?_
    exact⟨rfl,⟨_,T.out.set 64 eA _,S.out.Jc true⟩,(lp.refl _ _ _ _).set _ eh eh _⟩
  ·have AR:((c.toNat:Int)==125)=false:=by simpa using J
   have D:¬c=125:=λx=>J (Q.mp x);have hx:=aai c;by_cases A:((l.length:Int)==62)=true
   ·have Z:l.length=62:=by have:=dU.mp A;omega
    have V:r8 (l,e,d) c=(l,false,true):=by simp[r8,D,X,Z]
    rw[V];have L62:Hid _:=Z;clear Y Q D X Z J U;cases e
    ·go_in
     go_wp2
     first|go_end0|refine iM rfl rfl ?_
     exact⟨rfl,⟨_,T.out.set 64 eA _,S.out.Jc true⟩,(lp.refl _ _ _ _).set _ eh eh _⟩
    ·go_in
     go_wp2
     first|go_end0|refine iM rfl rfl ?_
     exact⟨rfl,⟨_,(T.out.set 63 eA _).set 64 eA _,(S.out.Nf false).Jc true⟩,((lp.refl _ _ _ _).set _ eh eh _).set _ eh eh _⟩
   ·have tU:((l.length:Int)==62)=false:=by simpa using A
    have Z:l.length<62:=by
     have:¬(l.length:Int)=62:=λe=>A (by simp[e]);omega
    have anj:(l.length:Int)<62:=eh;have V:r8 (l,e,d) c=(l++ [if e then c^^^32 else c],false,d):=by simp[r8,D,X,Nat.ne_of_lt Z]
    rw[V];obtain⟨x,H⟩:=S.out.live _ Z;have hcell:w.cell? ⟨g,o+l.length,ν⟩=μ (.int .u8 x):=(T.out.cell _ eh).trans (congrArg μ H);have fl:=U l.length eh;clear Y Q D X J A H U;cases e
    ·go_in
     go_wp2
     go_region
     go_wp2_with(fail)
     go_end0
     exact⟨rfl,⟨_,(T.out.set _ eh _).set 62 eA _,S.out.push Z c⟩,(((lp.refl _ _ _ _).set _ eh eh _).set _ eh eh _).drew⟩
    ·go_in
     go_wp2
     go_region
     go_wp2_with(fail)
     go_end0
     refine⟨rfl,⟨_,((T.out.set 63 eA _).set _ eh _).set 62 eA _,?_⟩,((((lp.refl _ _ _ _).set _ eh eh _).set _ eh eh _).set _ eh eh _).drew⟩;have hp:=(S.out.Nf false).push Z (c^^^32);rw[UInt8.toNat_xor]at hp;exact hp
def nH(l:List UInt8)(e d:Bool):List UInt8×Bool×Nat:=
 if d=true \/e=true then([],true,4)
 else if l.length=0 then([],false,0)
 else if l.length<2 then([],true,4)
 else if(Plain.sum (l.take (l.length-2)):Int)=((l.getD (l.length-2) 0).toNat:Int)+256*((l.getD (l.length-1) 0).toNat:Int)then(l.take (l.length-2),true,0)
 else([],true,5)
theorem afr(s:ByteArray)(w:dY)(hs:s.size<=maxLen):
 eZ e7 210 #[.string s] w λe w'=>e=ρ (ι κ (Plain.sum s.data.toList:Nat))/\w'=w:=(O6 s w hs).mono λ_ _ ⟨a,b⟩=>⟨a,b.symm⟩
theorem Pk(a b:UInt8):fF (fF (a.toNat:Int)+fF (256*fF (b.toNat:Int)))=(a.toNat:Int)+256*(b.toNat:Int):=by
 have ha:=a.toNat_lt;have hb:=b.toNat_lt;rw[cD (a.toNat:Int) ⟨eh,eh⟩,cD (b.toNat:Int) ⟨eh,eh⟩,cD (256*(b.toNat:Int)) ⟨eh,eh⟩,cD _ ⟨eh,eh⟩]
theorem Ni(l:List UInt8)(U:¬l.length<2)
 (Z:(((Plain.sum (l.take (l.length-2)):Nat):Int) !=fF (fF ((l[l.length-2]'(by omega)).toNat:Int)+fF (256*fF ((l[l.length-1]'(by omega)).toNat:Int))))=true):nH l false false=([],true,5):=by
 rw[Pk]at Z;have Y:¬((Plain.sum (l.take (l.length-2)):Nat):Int)=((l[l.length-2]'(by omega)).toNat:Int)+256*((l[l.length-1]'(by omega)).toNat:Int):=by simpa using Z
 have X:l.getD (l.length-2) 0=l[l.length-2]'(by omega):=by simp[show l.length-2<l.length by omega]
 have V:l.getD (l.length-1) 0=l[l.length-1]'(by omega):=by simp[show l.length-1<l.length by omega]
 unfold nH;rw[af gZ,af eh,af U,X,V,af Y]
theorem KG(l:List UInt8)(U:¬l.length<2)
 (Z:(((Plain.sum (l.take (l.length-2)):Nat):Int) !=fF (fF ((l[l.length-2]'(by omega)).toNat:Int)+fF (256*fF ((l[l.length-1]'(by omega)).toNat:Int))))=false):nH l false false=(l.take (l.length-2),true,0):=by
 rw[Pk]at Z;have Y:((Plain.sum (l.take (l.length-2)):Nat):Int)=((l[l.length-2]'(by omega)).toNat:Int)+256*((l[l.length-1]'(by omega)).toNat:Int):=by simpa using Z
 have X:l.getD (l.length-2) 0=l[l.length-2]'(by omega):=by simp[show l.length-2<l.length by omega]
 have V:l.getD (l.length-1) 0=l[l.length-1]'(by omega):=by simp[show l.length-1<l.length by omega]
 unfold nH;rw[af gZ,af eh,af U,X,V,ai Y]
theorem zx:e7.arrayLen 137=62:=gX
theorem D8:e7.underlying 137=μ (.array (e7.arrayLen 137) (e7.elem 137)):=gX
theorem Nj(w:dY):(sizeOf (e7.elem 137)).run e7 w=.ok 1 w:=gX
theorem QV(g o:Nat)(l:List UInt8)(e d:Bool)(w:dY)(h:Rd w g o l e d):
 eZ e7 183 #[π (μ ⟨g,o,ν⟩)] w λe' w'=>e'=ρ (τ #[.string ⟨(nH l e d).1.toArray⟩,.bool (nH l e d).2.1,jk (nH l e d).2.2])/\∃n,w'=w.drewN n:=by
 obtain⟨F,hC,X⟩:=h;have hlen:=X.len;have afq:w.cell? ⟨g,o+62,ν⟩=μ (ι κ (l.length:Int)):=(hC.cell 62 eA).trans (congrArg μ X.many);have aj2:w.cell? ⟨g,o+63,ν⟩=μ (.bool e):=(hC.cell 63 eA).trans (congrArg μ X.esc);have wi:w.cell? ⟨g,o+64,ν⟩=μ (.bool d):=(hC.cell 64 eA).trans (congrArg μ X.bad);have Y:∀i (h:i<l.length),w.cell? ⟨g,o+i,ν⟩=μ (.int .u8 (l[i].toNat:Int)):=λi h=>(hC.cell i eh).trans (congrArg μ (X.body i h));have KF:=hC.lt eA;clear hC X;by_cases hd:d=true \/e=true
 ·have Z:nH l e d=([],true,4):=by simp[nH,hd]
  rw[Z];clear Z Y;rcases hd with rfl|rfl
  ·go_in
   go_wp2
   go_ret3
   exact⟨rfl,0,rfl⟩
  ·cases d
   ·go_in
    go_wp2
    go_ret3
    exact⟨rfl,0,rfl⟩
   ·go_in
    go_wp2
    go_ret3
    exact⟨rfl,0,rfl⟩
 ·obtain⟨rfl,rfl⟩:d=false/\e=false:=by cases d<;>cases e<;>simp_all
  by_cases V:l.length=0
  ·have Z:nH l false false=([],false,0):=by simp[nH,V]
   rw[Z];have U:((l.length:Int)==0)=true:=by simp[V]
   have H0:Hid _:=V;clear Z Y V hd
   go_in
   go_wp2
   go_ret3
   exact⟨rfl,0,rfl⟩
  ·have U:((l.length:Int)==0)=false:=by rw[cR];omega
   by_cases T:l.length<2
   ·have Z:nH l false false=([],true,4):=by simp[nH,V,T]
    rw[Z];clear Z Y hd
    go_in
    go_wp2
    go_ret3
    exact⟨rfl,0,rfl⟩
   ·have hsl:∀W:dY,(Instr.sliceAt 137 (π (μ ⟨g,o,ν⟩)) ν (μ (ι κ ((l.length:Int)-2))) ν).run e7 W=.ok (σ (μ ⟨g,o,ν⟩) (l.length-2) 62) W:=by
     intro W;rw[run_sliceAt_array_h W 137 ⟨g,o,ν⟩ D8 .i64 _ eh (by rw[zx];omega),Nj,zx];have M:((l.length:Int)-2).toNat=l.length-2:=eh;simp[slicedAt,Result.andThen,M,ni]
    have wj:(convert 140 9 (σ (μ ⟨g,o,ν⟩) (l.length-2) 62)).run e7 w=.ok (.string ⟨(l.take (l.length-2)).toArray⟩) w:=by
     have Q:(l.take (l.length-2)).length=l.length-2:=gZ;have:=dL (P:=e7) w 140 9 5 ⟨g,o,ν⟩ 62 (l.take (l.length-2)) underlying140 underlying5 underlying9 (λj hj=>by
      rw[ni,Y j eh];simp)
     rw[Q]at this;exact this
    have hA:=Y (l.length-2) eh;have hB:=Y (l.length-1) eh;have tA:(((l.length:Int)-2).toNat)=l.length-2:=eh;have tB:(((l.length:Int)-2+1).toNat)=l.length-1:=eh;have J:(ByteArray.mk (l.take (l.length-2)).toArray).size<=maxLen:=by
     show(l.take (l.length-2)).toArray.size<=maxLen;unfold maxLen;simp;omega
    go_in
    go_wp2
    go_quiet((go_at_call 210;exact Calls.quiet_of_same (afr _ _ J)))
    go_wp2_with(fail)
    ·have S:=Ni l T jf;rw[S]
     go_ret3
     exact⟨rfl,_,rfl⟩
    ·have S:=KG l T jf;rw[S]
     go_ret3
     exact⟨rfl,_,rfl⟩
def Hk:Array dZ:= #[] ++Array.replicate 62 (.int .u8 0)++ #[ι κ 0,.bool false,.bool false]
theorem abR:(e7.info? 139).map (λi=>(i.zero,i.size))=μ (μ (.agg Hk),65):=gX
theorem Ut:(∀w,(zeroValue 139).run e7 w=.ok (.agg Hk) w)/\(e7.info? 139).map (·.size)=μ 65:=bS abR
theorem zy:Hk.size=65:=eA
def Nk(j:Nat):dZ:=Hk.getD j (.bool false)
theorem Dp.zero:Dp Nk [] false false:=by
 refine⟨gZ,λi hi=>⟨0,?_⟩,λi hi=>by simp at hi,gX,gX,gX⟩;have h:Hk[i]? =μ (.int .u8 0):=by
  unfold Hk;rw[cO (by simp;omega)];simp[hi]
 unfold Nk;rw[dr,h];rfl
theorem Ym:∀v∈Hk.toList,v.oneCell'=true:=by
 have:Hk.toList.all (·.oneCell')=true:=gX;exact aZ.mp this
theorem D9(h:qz w g o 65 F):
 (fG ⟨g,o,ν⟩ Hk.toList).run e7 w=.ok () (w.setCells g o Hk.toList)/\qz (w.setCells g o Hk.toList) g o 65 Nk/\lp w (w.setCells g o Hk.toList) g o 65:=by
 have hl:Hk.toList.length=65:=by simp[zy]
 have V:=fH (P:=e7) g o Hk.toList 0 w (λj Z=>by rw[Nat.add_zero,h.cell j eh];rfl) (λj Z=>by rw[Nat.add_zero];exact h.fz j eh) Ym;have T:∀(vs:List dZ) (o:Nat) (w:dY),(w.setCells g o vs).heap.size=w.heap.size/\(w.setCells g o vs).os=w.os/\(w.setCells g o vs).tape=w.tape/\(w.setCells g o vs).output=w.output/\∀k,k≠g->(w.setCells g o vs).heap[k]? =w.heap[k]? :=by
  intro vs
  induction vs with
  |nil=>intro o w;exact⟨rfl,rfl,rfl,rfl,λ_ _=>rfl⟩
  |cons u r ih=>
   intro o w;have:=ih (o+1) (w.setCell ⟨g,o,ν⟩ u);have b1:Below 0 w (w.setCell ⟨g,o,ν⟩ u):=(au 0 w).setCell (Nat.zero_le _) _;refine⟨this.1.trans gZ,this.2.1.trans b1.os,this.2.2.1.trans b1.tape,this.2.2.2.1.trans b1.output,λk Y=>(this.2.2.2.2 k Y).trans (ak _ _ _ k Y)⟩
 have B:=T Hk.toList o w;refine⟨by simpa using V,λj Z=>⟨?_,?_⟩,⟨B.2.1,B.2.2.1,B.2.2.2.1,by rw[B.1];exact Nat.le_refl _,λi _ U=>B.2.2.2.2 i U,λj Z=>bz g _ _ _ _ (λ_ _=>by show j<o \/o+Hk.toList.length<=j;omega),λj=>bW g _ _ _ _⟩⟩
 ·have X:=bJ g Hk.toList o w (λk Y=>by rw[h.cell k eh];rfl) j eh;rw[X];unfold Nk;rw[dr,Array.getElem?_eq_getElem (by rw[zy];exact Z)];simp
 ·exact(bW g _ _ _ _).trans (h.fz j Z)
def qh(l:List UInt8)(e d:Bool)(c:UInt8):List UInt8×Bool×Bool:=if c=126 then([],false,false)else r8 (l,e,d) c
def qj(l:List UInt8)(e d:Bool)(c:UInt8):List UInt8×Bool×Nat:=if c=126 then nH l e d else([],false,0)
theorem QW(g o:Nat)(l:List UInt8)(e d:Bool)(c:UInt8)(w:dY)(h:Rd w g o l e d):
 eZ e7 132 #[π (μ ⟨g,o,ν⟩),.int .u8 (c.toNat:Int)] w λe' w'=>e'=ρ (τ #[.string ⟨(qj l e d c).1.toArray⟩,.bool (qj l e d c).2.1,jk (qj l e d c).2.2])/\
  Rd w' g o (qh l e d c).1 (qh l e d c).2.1 (qh l e d c).2.2/\lp w w' g o 65:=by
 have X:c=126↔((c.toNat:Int)==126)=true:=by
  rw[<-UInt8.toNat_inj,dU];show c.toNat=126↔_;omega
 by_cases hc:c=126
 ·have M:((c.toNat:Int) !=126)=false:=by rw[bne,X.mp hc];rfl
  have Z:qj l e d c=nH l e d:=by simp[qj,hc]
  have Y:qh l e d c=([],false,false):=by simp[qh,hc]
  rw[Z,Y];clear Z Y X hc;have S:=QV g o l e d w h;obtain⟨F,hC,V⟩:=h;have kj:∀n,(fG ⟨g,o,ν⟩ Hk.toList).run e7 (w.drewN n)=.ok () ((w.drewN n).setCells g o Hk.toList):=λn=>(D9 (w:=w.drewN n) (F:=F) hC).1;have hz:=Ut.1;have hZ:=zy;have T:Hid (qz w g o 65 F):=hC;clear V hC
  go_in
  go_wp2_with(go_at_call 183;refine S.mono ?_;rintro e' w' ⟨rfl,n,rfl⟩)
  go_ret3
  have U:=D9 (w:=w.drewN n) (F:=F) T.out;exact⟨rfl,⟨Nk,U.2.1,Dp.zero⟩,((lp.refl w g o 65).drewN n).trans U.2.2⟩
 ·have M:((c.toNat:Int) !=126)=true:=by
   rw[bne];cases J:((c.toNat:Int)==126)
   ·rfl
   ·exact absurd (X.mpr J) hc
  have Z:qj l e d c=([],false,0):=by simp[qj,hc]
  have Y:qh l e d c=r8 (l,e,d) c:=by simp[qh,hc]
  rw[Z,Y];clear Z Y X hc
  go_in
  go_wp2_with(go_at_call 182;refine(Us g o l e d c _ h).mono ?_;rintro e' w' ⟨rfl,V,Q⟩)
  go_ret3
  exact⟨rfl,V,Q⟩
abbrev kE:=List UInt8×Bool×Bool
def mK(a:List (List UInt8)×Nat×kE)(c:UInt8):List (List UInt8)×Nat×kE:=
 let t:=qj a.2.2.1 a.2.2.2.1 a.2.2.2.2 c
 let r:=qh a.2.2.1 a.2.2.2.1 a.2.2.2.2 c
 if t.2.2≠0 then(a.1,a.2.1+1,r)else if t.2.1=true then(a.1++ [t.1],a.2.1,r)else(a.1,a.2.1,r)
def kB(st:kE)(l:List UInt8):List (List UInt8)×Nat×kE:=l.foldl mK ([],0,st)
def strs(l:List (List UInt8)):List dZ:=l.map λs=>Value.string ⟨s.toArray⟩
theorem QX(st:kE)(l:List UInt8)(c:UInt8):kB st (l++ [c])=mK (kB st l) c:=by simp[kB]
theorem Uu(a:List (List UInt8)×Nat×kE)(c:UInt8):(mK a c).1.length+(mK a c).2.1<=a.1.length+a.2.1+1:=by
 unfold mK;simp only;split
 ·simp only;omega
 ·split
  ·simp only[eR,eT,eU];omega
  ·simp only;omega
theorem KH:∀(l:List UInt8) (a:List (List UInt8)×Nat×kE),(l.foldl mK a).1.length+(l.foldl mK a).2.1<=a.1.length+a.2.1+l.length
 |[],a=>gZ
 |c::l,a=>by
  have h1:=KH l (mK a c);have h2:=Uu a c;simp only[List.foldl_cons,eT];omega
theorem Dq(st:kE)(l:List UInt8):(kB st l).1.length+(kB st l).2.1<=l.length:=by
 have:=KH l ([],0,st);unfold kB;simp only[eU]at this;omega
theorem Yo:(e7.info? 9).map (λi=>(i.zero,i.size,i.bytes))=μ (μ (.string fE),1,16):=gX
theorem Uv {w2:dY} {g2 cap2:Nat} (V:g<w.heap.size)(S:∀k,v.ownBlock=μ k->w.heap.size<=k)(Q:Rd w1 g o l e d)(Z:lp w w1 g o 65)
 (X:(w1.alloc ob).grownBy w2 v.ownBlock) (J:v.ownBlock=μ g2 \/w1.heap.size+1<=g2):
 (∀k,eu (σ (μ ⟨g2,0,ν⟩) n cap2)=μ k->w.heap.size<=k)/\Rd w2 g o l e d/\lp w w2 g o 65:=by
 have hs:=Z.size;have DV:(w1.alloc ob).heap.size=w1.heap.size+1:=gZ;have Y:∀k,k<w.heap.size->w2.heap[k]? =w1.heap[k]? :=λk Y=>by
  rw[X.block k eh (λe=>by have:=S k e.symm;omega)];exact aU w1 ob k eh
 refine⟨λk Y=> ?_,?_,⟨X.os.trans Z.os,X.tape.trans Z.tape,X.output.trans Z.output,by have:=X.size;omega,λk T U=>(Y k T).trans (Z.block k T U),λj M=>(aj (a:=⟨g,j,ν⟩) (Y g V)).trans (Z.cell j M),λj=>(aL (a:=⟨g,j,ν⟩) (Y g V)).trans (Z.fz j)⟩⟩
 ·have:g2=k:=by simpa[eu]using Y
  rcases J with h|h
  ·have:=S g2 h;omega
  ·omega
 ·obtain⟨F,hC,U⟩:=Q;exact⟨F,hC.keep (Y g V),U⟩
theorem Uw(g o:Nat)(st:kE)(s:ByteArray)(w:dY)(h:Rd w g o st.1 st.2.1 st.2.2)(hs:s.size<=100000):
 eZ e7 78 #[π (μ ⟨g,o,ν⟩),.string s] w λe w'=>∃v,e=ρ (τ #[v,ι κ ((kB st s.data.toList).2.1:Int)])/\
  Row w' 1 v (kB st s.data.toList).1.length (strs (kB st s.data.toList).1)/\(∀k,v.ownBlock=μ k->w.heap.size<=k)/\((kB st s.data.toList).1=[]->v=σ ν 0 0)/\
  Rd w' g o (kB st s.data.toList).2.2.1 (kB st s.data.toList).2.2.2.1 (kB st s.data.toList).2.2.2.2/\lp w w' g o 65:=by
 obtain⟨i0,hi,oB,np,mI⟩:=aX Yo;have AJ:g<w.heap.size:=by
  obtain⟨F,hC,_⟩:=h;exact hC.lt eA
 go_in
 go_wp2
 go_loopw [4,5,12] (λv n i wr=>∃(k:Nat) (A:List (List UInt8)×Nat×kE),A=kB st (s.data.toList.take k)/\k<=s.size/\i=ι κ k/\n=ι κ (A.2.1:Int)/\
  Row wr 1 v A.1.length (strs A.1)/\(∀k,v.ownBlock=μ k->w.heap.size<=k)/\(A.1=[]->v=σ ν 0 0)/\Rd wr g o A.2.2.1 A.2.2.2.1 A.2.2.2.2/\lp w wr g o 65)
  (λ_ _ i _=>s.size-(fa i).toNat)
 case atStart=>exact⟨0,_,rfl,Nat.zero_le _,rfl,rfl,Row.nil _ _,λk hk=>by simp[eu]at hk,λ_=>rfl,h,lp.refl _ _ _ _⟩
 case round=>
  obtain⟨k,A,hA,hk,rfl,rfl,H,M,S,hR,hg⟩:=hrel;have kr:Hid _:=S;clear S;have E:Hid (A.1.length+A.2.1<=k):=by
   have:=Dq st (s.data.toList.take k);rw[<-hA]at this;have h2:(s.data.toList.take k).length<=k:=ct _ _;exact(by omega:A.1.length+A.2.1<=k)
  have HA:Hid _:=hA;clear hA h;by_cases kD:k<s.size
  ·obtain⟨t,dn,Z,hT⟩:∃t dn Z,qj A.2.2.1 A.2.2.2.1 A.2.2.2.2 s[k] =(t,dn,Z):=⟨_,_,_,rfl⟩
   obtain⟨R',y⟩:∃R',qh A.2.2.1 A.2.2.2.1 A.2.2.2.2 s[k] =R':=⟨_,rfl⟩
   have J:eZ e7 132 #[π (μ ⟨g,o,ν⟩),.int .u8 (s[k].toNat:Int)] wr λe' w'=>e'=ρ (τ #[.string ⟨t.toArray⟩,.bool dn,jk Z])/\
    Row w' 1 u4 A.1.length (strs A.1)/\Rd w' g o R'.1 R'.2.1 R'.2.2/\lp w w' g o 65:=by
    have hq:=QW g o A.2.2.1 A.2.2.2.1 A.2.2.2.2 s[k] wr hR;rw[hT,y]at hq;refine hq.mono λe' w' ⟨h1,h2,h3⟩=>⟨h1,H.keep h3.size (λj hj=>h3.block j (H.lt j hj) (λe1=>by have:=M j hj;omega)),h2,hg.trans h3⟩
   have T:(kB st (s.data.toList.take (k+1))=if Z≠0 then(A.1,A.2.1+1,R')else if dn=true then(A.1++ [t],A.2.1,R')else(A.1,A.2.1,R')):=by
    have:s.data.toList.take (k+1)=s.data.toList.take k++ [s[k]] :=G8 s k kD;rw[this,QX,<-HA.out];unfold mK;simp only[hT,y]
   have D:Hid _:=T;clear T;have hn:A.2.1<=100000:=by have:=E.out;omega
   clear hT y H hR hg;by_cases Y:Z=0
   ·subst Y;have Q:jk 0=η:=rfl;rw[Q]at J;clear Q;cases dn
    ·go_wp2_with(go_at_call 132;refine J.mono ?_;rintro e w1 ⟨rfl,U,X,V⟩);go_roundw
     case rel=>exact⟨k+1,_,D.out.symm,eh,by go_num,rfl,U,M,kr.out,X,V⟩
     case measure=>simp[fa];omega
    ·have m1:A.1.length+1<=maxLen:=by have:=E.out;unfold maxLen;omega
     have b1:(A.1.length+1)*16<=140737488355328:=by have:=E.out;omega
     go_wp2_with(first
      |(go_at_call 132;refine J.mono ?_;rintro e w1 ⟨rfl,U,X,V⟩)
      |(at_builtin;go_must(refine iI _ rfl (.tmp 29) (.tmp 31) 164 rfl 9 i0 (.string fE) 1 16 underlying164 hi oB np mI rfl eA u4 A.1.length (strs A.1) rfl (Row.alloc jf _) _ 1 1 [.string ⟨t.toArray⟩] rfl rfl eA (qJ _ _ _) (MS _) m1 b1 ?_)))
     intro g2 cap2 w2 tj sL k7;have hS:=Uv (n:=A.1.length+1) (cap2:=cap2) AJ M X V sL k7;clear sL k7 U X V
     go_wp2
     go_roundw
     case rel=>exact⟨k+1,(A.1++ [t],A.2.1,R'),by rw[D.out];rfl,eh,by go_num,rfl,by simpa[strs]using tj,hS.1,λh=>by simp at h,hS.2.1,hS.2.2⟩
     case measure=>simp[fa];omega
   ·have Q:jk Z=.iface 128 (ι κ (Z:Int)):=by simp[jk,Y]
    rw[Q]at J;clear Q;go_wp2_with(go_at_call 132;refine J.mono ?_;rintro e w1 ⟨rfl,U,X,V⟩);go_roundw
    case rel=>exact⟨k+1,(A.1,A.2.1+1,R'),by rw[D.out,ai Y],eh,by go_num,by go_num,U,M,kr.out,X,V⟩
    case measure=>simp[fa];omega
  ·go_wp2
   have hA:kB st s.data.toList=A:=by
    rw[HA.out,aI];show s.size<=k;omega
   rw[hA]
   go_ret2
   exact⟨u4,rfl,H,M,kr.out,hR,hg⟩
theorem wk(s:ByteArray)(a b:Nat):(s.extract a b).data.toList=(s.data.toList.take b).drop a:=by
 rw[ByteArray.data_extract];simp[List.drop_take]
theorem QY:∀c:UInt8,rW c=true->(c^^^32≠126/\¬c^^^32<32/\c^^^32≠125)/\c^^^32^^^32=c:=by
 have h:∀n:Fin 256,rW (UInt8.ofNat n)=true->(UInt8.ofNat n^^^32≠126/\¬UInt8.ofNat n^^^32<32/\UInt8.ofNat n^^^32≠125)/\UInt8.ofNat n^^^32^^^32=UInt8.ofNat n:=by decide+kernel
 intro c;have:=h ⟨c.toNat,c.toNat_lt⟩;simpa using this
theorem KJ:∀c:UInt8,rW c=false->c≠126/\¬c<32/\c≠125:=by
 intro c h;unfold rW at h;simp at h;exact⟨h.1.1,by rw[UInt8.lt_iff_toNat_lt];have:=h.2;rw[UInt8.le_iff_toNat_le]at this;omega,h.1.2⟩
theorem AU:∀(l:List UInt8) (o:List (List UInt8)) (n:Nat) (st:kE),l.foldl mK (o,n,st)=(o++(l.foldl mK ([],0,st)).1,n+(l.foldl mK ([],0,st)).2.1,(l.foldl mK ([],0,st)).2.2)
 |[],o,n,st=>gZ
 |c::l,o,n,st=>by
  have key:∀(o:List (List UInt8)) (n:Nat),mK (o,n,st) c=(o++(mK ([],0,st) c).1,n+(mK ([],0,st) c).2.1,(mK ([],0,st) c).2.2):=by
   intro o n;unfold mK;simp only;split
   ·simp
   ·split<;>simp
  rw[bF,bF,key o n,AU l (o++_) _ _];obtain⟨x,y,z,e⟩:∃x y z,mK ([],0,st) c=(x,y,z):=⟨_,_,_,rfl⟩
  rw[e];simp only;rw[AU l x y z];simp[Nat.add_assoc]
theorem rz(st:kE)(a b:List UInt8):kB st (a++b)=((kB st a).1++(kB (kB st a).2.2 b).1,(kB st a).2.1+(kB (kB st a).2.2 b).2.1,(kB (kB st a).2.2 b).2.2):=by
 unfold kB;rw[cX];exact AU b _ _ _
theorem Ea(o:List (List UInt8))(n:Nat)(l:List UInt8)(e d:Bool)(c:UInt8)(h:c≠126):mK (o,n,(l,e,d)) c=(o,n,r8 (l,e,d) c):=by
 simp[mK,qj,qh,h]
theorem QZ(o:List (List UInt8))(n:Nat)(l:List UInt8)(c:UInt8)(h:l.length<62):(CT c).foldl mK (o,n,(l,false,false))=(o,n,(l++ [c],false,false)):=by
 unfold CT;by_cases hc:rW c=true
 ·obtain⟨⟨Y,X,V⟩,T⟩:=QY c hc;rw[ai hc,bF,bF,fI,Ea o n l false false 125 eA];have U:r8 (l,false,false) 125=(l,true,false):=by simp[r8]
  rw[U,Ea _ _ _ _ _ _ Y];have Z:r8 (l,true,false) (c^^^32)=(l++ [c^^^32^^^32],false,false):=by
   simp[r8,X,V,Nat.ne_of_lt h]
  rw[Z,T]
 ·have S:rW c=false:=by simpa using hc
  obtain⟨Y,X,V⟩:=KJ c S;rw[af hc,bF,fI,Ea _ _ _ _ _ _ Y];have Z:r8 (l,false,false) c=(l++ [c],false,false):=by
   simp[r8,X,V,Nat.ne_of_lt h]
  rw[Z]
theorem Hl(o:List (List UInt8))(n:Nat):∀(m l:List UInt8),l.length+m.length<=62->(sH m).foldl mK (o,n,(l,false,false))=(o,n,(l++m,false,false))
 |[],l,_=>by simp[sH]
 |c::m,l,h=>by
  have h':l.length+(m.length+1)<=62:=by simpa using h
  have e:sH (c::m)=CT c++sH m:=by simp[sH]
  rw[e,cX,QZ o n l c eh,Hl o n m (l++ [c]) (by simp;omega)];simp
theorem Jd(l:List UInt8):nH (l7 l) false false=(l,true,0):=by
 have hl:(l7 l).length=l.length+2:=oC l;have X:(l7 l).take ((l7 l).length-2)=l:=by rw[hl];simp[l7]
 have Z:(l7 l).getD ((l7 l).length-2) 0=Ku l:=by
  rw[hl];simp[l7]
 have Y:(l7 l).getD ((l7 l).length-1) 0=Kv l:=by
  rw[hl];simp[l7]
 unfold nH;rw[af gZ,af eh,af eh,Z,Y,X,ai];rw[G9,Ha];omega
theorem Nm(l:List UInt8)(h:l.length<=60):kB ([],false,false) (lS l)=([l],0,([],false,false)):=by
 unfold kB lS;rw[bF,cX];have Z:mK ([],0,([],false,false)) 126=([],0,([],false,false)):=by simp[mK,qj,qh,nH]
 rw[Z,Hl [] 0 (l7 l) [] (by rw[oC];simp;omega)];simp[mK,qj,qh,Jd]
theorem x5(l:List UInt8):(lS l).length=(sH (l7 l)).length+2:=by simp[lS]
theorem Q5(l:List UInt8)(h:l.length<=60):(lS l).length<=126:=by
 rw[x5];have:=Dk (l7 l);rw[oC]at this;omega
def j1(x:Int):UInt8:=UInt8.ofNat x.toNat
theorem nI(x:Int)(h0:0<=x)(h1:x<=255):((j1 x).toNat:Int)=x:=by
 unfold j1;rw[UInt8.toNat_ofNat_of_lt' (by show x.toNat<256;omega)];omega
def BZ(os:List jH):List UInt8:=os.flatMap λo=>[j1 o.1,j1 o.2]
def mL(code id:Int)(os:List jH):List UInt8:=j1 code::j1 id::j1 os.length::BZ os
theorem Nn(os:List jH)(o:jH):BZ (os++ [o])=BZ os++ [j1 o.1,j1 o.2] :=by simp[BZ]
theorem r9(os:List jH):(BZ os).length=2*os.length:=by
 induction os with
 |nil=>rfl
 |cons o r ih=>simp only[BZ,List.flatMap_cons,eR,eT,eU]at ih⊢;omega
theorem Eb:∀(r seen:List jH),qg seen r=0->∀o∈r,yA o.1=true/\yA o.2=true
 |[],_,_,o,Z=>by simp at Z
 |x::r,seen,h,o,Z=>by
  unfold qg at h;split at h
  ·simp at h
  ·rename_i Y
   split at h
   ·simp at h
   ·rcases aO.mp Z with rfl|Z
    ·simpa using Y
    ·exact Eb r _ h o Z
theorem Np {code id:Int} {os:List jH} (h:jU code id os=0):1<=code/\code<=6/\(0<=id/\id<=255)/\os.length<=8/\(5<=code->os.length=0)/\qg [] os=0:=by
 unfold jU at h;split at h
 ·simp at h
 ·rename_i h1
  split at h
  ·simp at h
  ·split at h
   ·simp at h
   ·have Z:yA id=true:=by cases hq:yA id<;>simp_all
    exact⟨eh,eh,(Dn id).mp Z,eh,eh,h⟩
theorem KK(code id:Int)(a:Option dX)(n cap:Nat)(os:List jH)(w:dY)(U:n<=1000000)(V:n<=cap)(T:jg w a n os)(hf:jU code id os≠0):
 eZ e7 175 #[.agg #[ι κ code,ι κ id,σ a n cap]] w λe w'=>e=ρ (τ #[.string fE,jk (jU code id os)])/\eE w w':=by
 have X:eE w (w.alloc (γ #[ι κ code,ι κ id,σ a n cap] 37)):=(au _ _).alloc (Nat.le_refl _) _;have Z:=uo code id a n cap os (w.alloc (γ #[ι κ code,ι κ id,σ a n cap] 37)) U V (T.below X);generalize jU code id os=f at hf Z;have Y:jk f=.iface 128 (ι κ (f:Int)):=by simp[jk,hf]
 rw[Y]at Z⊢;clear Y
 go_in
 go_wp2_with(fail);refine Z.mono ?_;rintro e w1 ⟨rfl,S⟩
 go_wp2
 go_ret2
 exact⟨rfl,gu X S⟩
theorem Je(code id:Int)(a:Option dX)(n cap:Nat)(os:List jH)(w:dY)(KC:n<=cap)(D:jg w a n os)(hf:jU code id os=0):
 eZ e7 175 #[.agg #[ι κ code,ι κ id,σ a n cap]] w λe w'=>e=ρ (τ #[.string ⟨(mL code id os).toArray⟩,η])/\eE w w':=by
 obtain⟨i0,hi,oB,np,mI⟩:=aX aat;obtain⟨p1,p2,⟨p3,p4⟩,p5,p6,p7⟩:=Np hf;have nO:=Eb os [] p7;have hl:=D.1;have y:eE w (w.alloc (γ #[ι κ code,ι κ id,σ a n cap] 37)):=(au _ _).alloc (Nat.le_refl _) _;have A:=uo code id a n cap os (w.alloc (γ #[ι κ code,ι κ id,σ a n cap] 37)) eh KC (D.below y);have e0:jk 0=η:=rfl;rw[hf,e0]at A;clear e0 p6 p7 hf;have Ux:∀w1:dY,Below (w.alloc (γ #[ι κ code,ι κ id,σ a n cap] 37)).heap.size (w.alloc (γ #[ι κ code,ι κ id,σ a n cap] 37)) w1->
  w1.cell? ⟨w.heap.size,0,ν⟩=μ (ι κ code)/\w1.cell? ⟨w.heap.size,1,ν⟩=μ (ι κ id)/\w1.cell? ⟨w.heap.size,2,ν⟩=μ (σ a n cap):=by
  intro w1 hb;have T:w.heap.size<(w.alloc (γ #[ι κ code,ι κ id,σ a n cap] 37)).heap.size:=gZ;have hA:=λj=>aq w #[ι κ code,ι κ id,σ a n cap] 37 (0,0) j;exact⟨(hb.cell (p:=⟨w.heap.size,0,ν⟩) T).trans (hA 0),(hb.cell (p:=⟨w.heap.size,1,ν⟩) T).trans (hA 1),(hb.cell (p:=⟨w.heap.size,2,ν⟩) T).trans (hA 2)⟩
 go_in
 go_wp2_with(fail);refine A.mono ?_;rintro e w1 ⟨rfl,S⟩;obtain⟨q0,q1,q2⟩:=Ux w1 S;have vR:=gu y S;have T:w.heap.size<w1.heap.size:=by
  have:=S.size;simp at this;omega
 clear Ux S A y;go_wp2_with(fail);have ur:Row (w1.alloc (γ #[.int .u8 code,.int .u8 id,.int .u8 (n:Int)] 5)) 1 (σ (μ ⟨w1.heap.size,0,ν⟩) 3 3) 3 (iR [j1 code,j1 id,j1 os.length]):=by
  refine Row.made w1 1 5 _ (0,0) 3 3 _ rfl rfl (Nat.le_refl _) eA (.inl rfl) ?_;intro j u hu;simp only[iR,eN,eO,nI code eh eh,nI id p3 p4,hl,nI (n:Int) eh eh]at hu;simpa using hu
 have yB:eE w (w1.alloc (γ #[.int .u8 code,.int .u8 id,.int .u8 (n:Int)] 5)):=vR.alloc vR.size _
 go_loopw [5,27] (λv i wr=>∃(k g cp:Nat) (E:List UInt8),E=j1 code::j1 id::j1 os.length::BZ (os.take k)/\k<=n/\i=ι κ k/\v=σ (μ ⟨g,0,ν⟩) E.length cp/\Row wr 1 v E.length (iR E)/\
  w.heap.size<=g/\eE w wr)
  (λ_ i _=>n-(fa i).toNat)
 case atStart=>exact⟨0,w1.heap.size,3,_,rfl,Nat.zero_le _,rfl,rfl,ur,vR.size,yB⟩
 case round=>
  obtain⟨k,g,cp,E,M,hk,rfl,rfl,U,Kj,X⟩:=hrel;have Ph:E.length<=19:=by
   have h1:=r9 (os.take k);have h2:(os.take k).length<=8:=by simp;omega
   rw[M];simp only[eT];omega
  have HE:Hid _:=M;have HL:Hid _:=hl;clear M ur yB hl;have m2:E.length+2<=maxLen:=by unfold maxLen;omega
  have b2:(E.length+2)*1<=140737488355328:=eh;by_cases kD:k<n
  ·have Ax:=D.below X;rcases Ax.2 with h0|⟨b,off,rfl,hc⟩
   ·omega
   have qK:k<os.length:=by rw[HL.out];exact kD
   obtain⟨c1,c2⟩:=hc k qK;obtain⟨J,H⟩:=nO os[k] (aF _);have HT:Hid (os.take (k+1)=os.take k++ [os[k]]):=aA qK;generalize os[k] =o at c1 c2 HT J H;obtain⟨o1a,o1b⟩:=(Dn o.1).mp J;obtain⟨o2a,o2b⟩:=(Dn o.2).mp H;clear hc J H Ax;have nS:(k:Int)<(n:Int):=eh;have Y:eE w (wr.alloc (γ #[ι κ o.1,ι κ o.2] 276)):=X.alloc X.size _;have Z:Row (wr.alloc (γ #[ι κ o.1,ι κ o.2] 276)) 1 (σ (μ ⟨g,0,ν⟩) E.length cp) E.length (iR E):=U.alloc _;go_wp2_with(at_builtin;go_must(refine iI _ rfl (.tmp 31) (.tmp 38) 140 rfl 5 i0 (.int .u8 0) 1 1 underlying140 hi oB np mI rfl eA _ E.length (iR E) rfl (Z.alloc _) _ 2 2 [.int .u8 o.1,.int .u8 o.2] rfl rfl eA ?hcc (lR _ _ _ _) m2 b2 ?_))
   case hcc=>
    have:=pP (wr.alloc (γ #[ι κ o.1,ι κ o.2] 276)) (.int .u8 o.1) (.int .u8 o.2) 5;simpa using this
   intro V cap2 w2 tj sL k7;have sN:μ g=μ V \/(wr.alloc (γ #[ι κ o.1,ι κ o.2] 276)).heap.size+1<=V:=by
    rcases k7 with h|h
    ·exact .inl h
    ·exact .inr (by simp;omega)
   have R:=GZ sL sN Kj Y;have sM:Row w2 1 (σ (μ ⟨V,0,ν⟩) (E.length+2) cap2) (E++ [j1 o.1,j1 o.2]).length (iR (E++ [j1 o.1,j1 o.2])):=by
    rw[lM,az];simp only[iR,eN,eO,nI o.1 o1a o1b,nI o.2 o2a o2b];exact tj
   have HN:Hid (E++ [j1 o.1,j1 o.2] =j1 code::j1 id::j1 os.length::BZ (os.take (k+1))):=by
    show E++ [j1 o.1,j1 o.2] =_;rw[HE.out,HT.out,Nn];rfl
   have Q:Hid ((E++ [j1 o.1,j1 o.2]).length=E.length+2):=by show(E++ [j1 o.1,j1 o.2]).length=E.length+2;simp
   clear tj sL k7 sN U X Y Z
   go_wp2
   go_roundw
   case rel=>exact⟨k+1,V,cap2,_,HN.out,eh,by go_num,by rw[Q.out],sM,R.1,R.2⟩
   case measure=>simp[fa];omega
  ·have aau:(convert 140 9 (σ (μ ⟨g,0,ν⟩) E.length cp)).run e7 wr=.ok (.string ⟨E.toArray⟩) wr:=Row.back U 140 9 5 underlying140 underlying5 underlying9;have HF:Hid (mL code id os=E):=by
    show mL code id os=E;have zn:os.take k=os:=aI (by rw[HL.out];omega);rw[HE.out,zn];rfl
   clear U;go_wp2_with(fail);rw[HF.out]
   go_ret2
   exact⟨rfl,X⟩
theorem Uy:(e7.info? 276).map (λi=>(i.zero,i.size,i.bytes))=μ (μ (.agg #[ι κ 0,ι κ 0]),2,16):=gX
theorem Uz(w:dY):(zeroValue 37).run e7 w=.ok (.agg #[ι κ 0,ι κ 0,σ ν 0 0]) w:=gX
theorem AW(w:dY)(x y:dZ)(t:ew):∀(j:Nat) (u:dZ),[x,y][j]? =μ u->(w.alloc (γ #[x,y] t)).drew.cell? ((⟨w.heap.size,0,ν⟩:dX).add j)=μ u:=λj u Z=>pP w x y t j u Z
theorem sd {o:Obj} (Y:∀k,v.ownBlock=μ k->lo+2<=k)(Z:(wr.alloc o).drew.grownBy x1 v.ownBlock)(hb:b<lo+2)(X:b<wr.heap.size):x1.heap[b]? =wr.heap[b]? :=by
 rw[Z.block b (by show b<(wr.alloc o).heap.size;simp;omega) (λe=>by have:=Y b e.symm;omega)];exact aU wr o b X
theorem KL {o:Obj} (Y:∀k,v.ownBlock=μ k->lo+2<=k)(Z:(wr.alloc o).drew.grownBy x1 v.ownBlock)(hc:wr.cell? ⟨lo+1,j,ν⟩=μ u):x1.cell? ⟨lo+1,j,ν⟩=μ u:=by
 have X:lo+1<wr.heap.size:=ag wr _ hc;rw[aj (w:=wr) (a:=⟨lo+1,j,ν⟩) (sd (b:=lo+1) Y Z eh X)];exact hc
theorem Gp {o:Obj} (Y:∀k,v.ownBlock=μ k->lo+2<=k)(Z:(wr.alloc o).drew.grownBy x1 v.ownBlock)(hc:wr.cell? ⟨lo+1,j,ν⟩=μ u)(hf:wr.frozen? ⟨lo+1,j,ν⟩=false):x1.frozen? ⟨lo+1,j,ν⟩=false:=by
 have X:lo+1<wr.heap.size:=ag wr _ hc;rw[aL (w:=wr) (a:=⟨lo+1,j,ν⟩) (sd (b:=lo+1) Y Z eh X)];exact hf
def mS:List UInt8->List jH
 |k::n::r=>((k.toNat:Int),(n.toNat:Int))::mS r
 |_=>[]
theorem B1(s:ByteArray)(k:Nat)(h:k<s.size):s.data.toList.drop k=s[k] ::s.data.toList.drop (k+1):=by
 rw[aS (by simpa using h)];rfl
theorem wm(Y:wr.heap[w.heap.size]? =μ (γ #[ι κ 0,ι κ 0,σ ν 0 0] 37 (0,0)))(hb:eE wr w1):
 w1.cell? ⟨w.heap.size,0,ν⟩=μ (ι κ 0)/\w1.cell? ⟨w.heap.size,1,ν⟩=μ (ι κ 0)/\w1.cell? ⟨w.heap.size,2,ν⟩=μ (σ ν 0 0)/\∀j,w1.frozen? ⟨w.heap.size,j,ν⟩=false:=by
 have X:w.heap.size<wr.heap.size:=(ax.1 Y).1;have Z:w1.heap[w.heap.size]? =μ (γ #[ι κ 0,ι κ 0,σ ν 0 0] 37 (0,0)):=by rw[hb.block _ X];exact Y
 exact⟨aw w1 _ 0 _ 37 (0,0) Z,aw w1 _ 1 _ 37 (0,0) Z,aw w1 _ 2 _ 37 (0,0) Z,λj=>bB w1 _ j _ 37 Z⟩
def ja(l:List UInt8):Int×Int×List jH×Nat:=
 if l.length<3 \/(l.length:Int)≠(3:Int)+(2:Int)*((l.getD 2 0).toNat:Int)then(0,0,[],4)
 else if jU ((l.getD 0 0).toNat:Int) ((l.getD 1 0).toNat:Int) (mS (l.drop 3))=0 then(((l.getD 0 0).toNat:Int),((l.getD 1 0).toNat:Int),mS (l.drop 3),0)
 else(0,0,[],4)
def Ee(l:List UInt8)(w:dY)(e:Ending)(w':dY):Prop:=
 ∃(a:Option dX) (n cap f:Nat) (code id:Int) (os:List jH),e=ρ (τ #[.agg #[ι κ code,ι κ id,σ a n cap],jk f])/\jg w' a n os/\n<=cap/\ja l=(code,id,os,f)/\eE w w'/\(∀j,eu (σ a n cap)=μ j->w.heap.size<=j/\j<w'.heap.size)/\kN a cap
theorem x6(s:ByteArray)(h3:3<=s.size)(heq:(s.size:Int)=(3:Int)+(2:Int)*(s[2].toNat:Int)):
 ja s.data.toList=if jU (s[0].toNat:Int) (s[1].toNat:Int) (mS (s.data.toList.drop 3))=0 then((s[0].toNat:Int),(s[1].toNat:Int),mS (s.data.toList.drop 3),0)else(0,0,[],4):=by
 have hl:s.data.toList.length=s.size:=gZ;unfold ja;rw[nX s 0 eh,nX s 1 eh,nX s 2 eh,hl,af eh]
theorem B3 {x y z:dZ} (Y:Row w1 2 (σ ao k cp) k (iV ok))(X:∀j,eu (σ ao k cp)=μ j->w.heap.size+2<=j)(hb:eE w w1):
 jg (((w1.setCell ⟨w.heap.size,0,ν⟩ x).setCell ⟨w.heap.size,1,ν⟩ y).setCell ⟨w.heap.size,2,ν⟩ z) ao k ok/\eE w (((w1.setCell ⟨w.heap.size,0,ν⟩ x).setCell ⟨w.heap.size,1,ν⟩ y).setCell ⟨w.heap.size,2,ν⟩ z):=by
 refine⟨Row.opts (Y.keep gZ (λj Z=> ?_)),((hb.setCell (Nat.le_refl _) _).setCell (Nat.le_refl _) _).setCell (Nat.le_refl _) _⟩;have:=X j Z;rw[ak _ _ _ _ (by show j≠w.heap.size;omega),ak _ _ _ _ (by show j≠w.heap.size;omega),ak _ _ _ _ (by show j≠w.heap.size;omega)]
theorem CW(w:dY)(a b:Obj):((w.alloc a).alloc b).drew.heap[w.heap.size+1]? =μ b:=by
 have h:=aY (w.alloc a) b;have e:(w.alloc a).heap.size=w.heap.size+1:=gZ;rw[e]at h;exact h
theorem AX(w:dY)(a b:Obj):((w.alloc a).alloc b).drew.heap[w.heap.size]? =μ a:=by
 show((w.alloc a).alloc b).heap[w.heap.size]? =μ a;rw[aU (w.alloc a) b w.heap.size gZ];exact aY w a
theorem Jf {g' jv:Nat} {c d:Int} {x y:Nat}
 (U:wr.heap[w.heap.size+1]? =μ (γ #[ι κ c,ι κ d,σ ao k cp] 37 (0,0)))
 (Q:wr.heap[w.heap.size]? =μ (γ #[ι κ 0,ι κ 0,σ ν 0 0] 37 (0,0)))
 (_hrow:Row wr 2 (σ ao k cp) k (iV ok)) (Y:∀j,eu (σ ao k cp)=μ j->w.heap.size+2<=j) (S:eE w wr)
 (T:Row x1 2 (σ (μ ⟨g',0,ν⟩) (k+1) jv) (k+1) (iV ok++ [ι κ (fJ.wrap (x:Int)),ι κ (fJ.wrap (y:Int))]))
 (X:(wr.alloc ob).drew.grownBy x1 (eu (σ ao k cp))) (J:eu (σ ao k cp)=μ g' \/(wr.alloc ob).drew.heap.size<=g') (hx:x<2^8) (hy:y<2^8):
 Row (x1.setCell ⟨w.heap.size+1,2,ν⟩ (σ (μ ⟨g',0,ν⟩) (k+1) jv)) 2 (σ (μ ⟨g',0,ν⟩) (k+1) jv) (k+1) (iV (ok++ [((x:Int),(y:Int))]))/\
 (x1.setCell ⟨w.heap.size+1,2,ν⟩ (σ (μ ⟨g',0,ν⟩) (k+1) jv)).heap[w.heap.size+1]? =μ (γ #[ι κ c,ι κ d,σ (μ ⟨g',0,ν⟩) (k+1) jv] 37 (0,0))/\
 (x1.setCell ⟨w.heap.size+1,2,ν⟩ (σ (μ ⟨g',0,ν⟩) (k+1) jv)).heap[w.heap.size]? =μ (γ #[ι κ 0,ι κ 0,σ ν 0 0] 37 (0,0))/\
 (∀j,eu (σ (μ ⟨g',0,ν⟩) (k+1) jv)=μ j->w.heap.size+2<=j)/\eE w (x1.setCell ⟨w.heap.size+1,2,ν⟩ (σ (μ ⟨g',0,ν⟩) (k+1) jv)):=by
 have H:w.heap.size+1<wr.heap.size:=(ax.1 U).1;have k1:=sd (b:=w.heap.size+1) Y X eh H;have k0:=sd (b:=w.heap.size) Y X eh eh;have hs0:(wr.alloc ob).drew.heap.size=wr.heap.size+1:=by show(wr.alloc ob).heap.size=_;simp
 have KF:w.heap.size+2<=g':=by
  rcases J with h|h
  ·exact Y g' h
  ·omega
 have V:x1.heap[w.heap.size+1]? =μ (γ #[ι κ c,ι κ d,σ ao k cp] 37 (0,0)):=by rw[k1];exact U
 refine⟨?_,?_,?_,?_,?_⟩
 ·have ex:fJ.wrap (x:Int)=(x:Int):=aQ _ ⟨eh,eh⟩;have M:fJ.wrap (y:Int)=(y:Int):=aQ _ ⟨eh,eh⟩;rw[ex,M,<-mE ok ((x:Int),(y:Int))]at T;refine T.keep gZ (λj Z=> ?_);have:g'=j:=by simpa[eu]using Z
  exact ak _ _ _ _ (by show j≠w.heap.size+1;omega)
 ·rw[bL x1 (w.heap.size+1) 2 _ 37 (0,0) _ V];exact cC x1 _ _ _ 37 (0,0) V
 ·rw[ak _ _ _ _ (by show w.heap.size≠w.heap.size+1;omega),k0];exact Q
 ·intro j Z;have:g'=j:=by simpa[eu]using Z
  omega
 ·have E:eE w (wr.alloc ob).drew:=(S.alloc S.size _).drew;refine bw ?_ (by show w.heap.size<=w.heap.size+1;omega) _;refine E.grown X eh (λj Z=> ?_);have:=Y j Z;omega
theorem Jg(s:ByteArray)(w:dY)(hs:s.size<=1000)(h3:3<=s.size)(heq:(s.size:Int)=(3:Int)+(2:Int)*(s[2].toNat:Int)):
 eZ e7 184 #[.string s] w λe w'=>Ee s.data.toList w e w':=by
 obtain⟨i0,hi,oB,np,mI⟩:=aX Uy;have hz:=Uz;have g1:¬(s.size:Int)<3:=eh;have mX:=s[2].toNat_lt;have g2:((s.size:Int) !=(3:Int)+(2:Int)*(s[2].toNat:Int))=false:=by rw[heq];simp
 have HE:Hid _:=heq;clear heq;have b0:0<s.size:=eh;have b1:1<s.size:=eh;have b2:2<s.size:=eh;have yB:=s[0].toNat_lt;have Z:=s[1].toNat_lt;have z0:(0:Int)<(s.size:Int):=eh;have z1:(1:Int)<(s.size:Int):=eh
 go_in
 go_wp2
 go_region
 go_wp2
 go_loopw [5] (λi wr=>∃(k cp:Nat) (ao:Option dX) (ok:List jH),3+2*k<=s.size/\i=ι κ ((3+2*k:Nat):Int)/\ok.length=k/\mS (s.data.toList.drop 3)=ok++mS (s.data.toList.drop (3+2*k))/\Row wr 2 (σ ao k cp) k (iV ok)/\
  wr.heap[w.heap.size+1]? =μ (γ #[ι κ (s[0].toNat:Int),ι κ (s[1].toNat:Int),σ ao k cp] 37 (0,0))/\wr.heap[w.heap.size]? =μ (γ #[ι κ 0,ι κ 0,σ ν 0 0] 37 (0,0))/\
  (∀j,eu (σ ao k cp)=μ j->w.heap.size+2<=j)/\eE w wr)
  (λi _=>s.size-(fa i).toNat)
 case atStart=>
  refine⟨0,0,ν,[],eh,rfl,rfl,rfl,Row.nil _ _,?_,?_,λj Y=>by simp[eu]at Y,(((au _ _).alloc (Nat.le_refl _) _).alloc gZ _).drew⟩
  ·exact CW w _ _
  ·exact AX w _ _
 case round=>
  obtain⟨k,cp,ao,ok,hk,rfl,iQ,H,X,A,Ec,E,iN⟩:=hrel;have hP:Hid _:=H;clear H;have cv:wr.cell? ⟨w.heap.size+1,2,ν⟩=μ (σ ao k cp):=aw wr _ 2 _ 37 (0,0) A;have fv:wr.frozen? ⟨w.heap.size+1,2,ν⟩=false:=bB wr _ 2 _ 37 A;have Yp:w.heap.size+1<wr.heap.size:=ag wr _ cv;have U:Hid _:=A;have T:Hid _:=Ec;clear A Ec;by_cases kD:3+2*k<s.size
  ·have Gn:3+2*k+1<s.size:=by have:=HE.out;omega
   obtain⟨q,h⟩:∃q,q=3+2*k:=⟨_,rfl⟩
   rw[<-h]at kD Gn;have D:Hid _:=h;have y0:(0:Int)<=(q:Int):=eh;have y1:(q:Int)<(s.size:Int):=eh;have y2:(q:Int)+1<(s.size:Int):=eh;have y3:(0:Int)<=(q:Int)+1:=eh;have yw:fJ.wrap ((q:Int)+1)=(q:Int)+1:=aQ _ ⟨eh,eh⟩;have hbq:=s[q].toNat_lt;have aj8:=s[q+1].toNat_lt;have m1:k+1<=maxLen:=by unfold maxLen;omega
   have bb1:(k+1)*16<=140737488355328:=eh;rw[<-h];clear h;have HP2:Hid (mS (s.data.toList.drop 3)=(ok++ [((s[q].toNat:Int),(s[q+1].toNat:Int))])++mS (s.data.toList.drop (3+2*(k+1)))):=by
    show mS (s.data.toList.drop 3)=_;rw[hP.out,<-D.out,B1 s q kD,B1 s (q+1) Gn];have S:q+1+1=3+2*(k+1):=by have:=D.out;omega
    rw[S];simp[mS]
   go_wp2
   go_region_law ((refine l8 (by rfl) (.tmp 35) (.tmp 46) 35 (by rfl) 276 i0 (.agg #[ι κ 0,ι κ 0]) 2 16 underlying35 hi oB np mI (by rfl) eA (σ ao k cp) k (iV ok) (by rfl) ((X.alloc _).drew) _ 1 1 [ι κ (fJ.wrap (s[q].toNat:Int)),ι κ (fJ.wrap (s[q+1].toNat:Int))] (by rfl) (by rfl) eA (AW _ _ _ _) (lR _ _ _ _) m1 bb1 ?_;intro g' jv x1 lg kG jI;have c1:=KL E kG cv;have f1:=Gp E kG cv fv))
   all_goals have hS:=Jf (c:=(s[0].toNat:Int)) (d:=(s[1].toNat:Int)) U.out T.out X E iN lg kG jI s[q].toNat_lt s[q+1].toNat_lt
   all_goals clear lg kG jI c1 f1
   all_goals go_wp2_with(fail)
   all_goals go_roundw
   all_goals first
    |exact⟨k+1,jv,some ⟨g',0,none⟩,_,by have:=D.out;omega,by have:=D.out;go_num,by simp[iQ],HP2.out,hS⟩
    |(simp[fa];omega)
  ·have MZ:3+2*k=s.size:=eh;have UA:mS (s.data.toList.drop 3)=ok:=by
    rw[hP.out,MZ,a8 (by show s.size<=s.size;omega)];simp[mS]
   have CV:=X.opts;have Dm:=X.TL;have c0:wr.cell? ⟨w.heap.size+1,0,ν⟩=μ (ι κ (s[0].toNat:Int)):=aw wr _ 0 _ 37 (0,0) U.out;have c1:wr.cell? ⟨w.heap.size+1,1,ν⟩=μ (ι κ (s[1].toNat:Int)):=aw wr _ 1 _ 37 (0,0) U.out;have Q:=uo (s[0].toNat:Int) (s[1].toNat:Int) ao k cp ok wr eh Dm CV;have HK:Hid _:=UA;clear hP UA MZ;by_cases hf:jU (s[0].toNat:Int) (s[1].toNat:Int) ok=0
   ·have M:jk 0=η:=rfl;rw[hf,M]at Q;clear M;have HF:Hid _:=hf;clear hf;go_wp2_with(fail);refine Q.mono ?_;rintro e w1 ⟨rfl,Z⟩;have d0:=(Z.cell (p:=⟨w.heap.size+1,0,ν⟩) Yp).trans c0;have d1:=(Z.cell (p:=⟨w.heap.size+1,1,ν⟩) Yp).trans c1;have d2:=(Z.cell (p:=⟨w.heap.size+1,2,ν⟩) Yp).trans cv;obtain⟨r0,r1,r2,r3⟩:=wm T.out Z;have vR:=gu iN Z;have V:Hid ((∀j,eu (σ ao k cp)=μ j->w.heap.size<=j/\j<w1.heap.size)/\kN ao cp):=⟨λj Y=>⟨by have:=E j Y;omega,(X.below Z).lt j Y⟩,λe=>by
     rcases X.2 with⟨S,_⟩|⟨g9,c9,S,_⟩
     ·simp at S;exact S.2.2
     ·rw[e]at S;simp at S⟩
    have J:=B3 (x:=ι κ (s[0].toNat:Int)) (y:=ι κ (s[1].toNat:Int)) (z:=σ ao k cp) (X.below Z) E vR;have HV:Hid (ja s.data.toList=((s[0].toNat:Int),(s[1].toNat:Int),ok,0)):=by
     show ja s.data.toList=_;rw[x6 s h3 HE.out,HK.out,ai HF.out]
    clear Q Z c0 c1 cv X;go_wp2_with(fail);refine aE (v:=τ #[.agg #[ι κ (s[0].toNat:Int),ι κ (s[1].toNat:Int),σ ao k cp],η]) (by simp[results,results184,go_sem,r0,r1,r2]) rfl ?_;exact⟨ao,k,cp,0,_,_,ok,rfl,J.1,Dm,HV.out,J.2,λj Y=>⟨(V.out.1 j Y).1,by simpa using(V.out.1 j Y).2⟩,V.out.2⟩
   ·have M:jk (jU (s[0].toNat:Int) (s[1].toNat:Int) ok)=.iface 128 (ι κ (jU (s[0].toNat:Int) (s[1].toNat:Int) ok:Int)):=by simp[jk,hf]
    rw[M]at Q;clear M;have HF:Hid _:=hf;clear hf;have HV:Hid (ja s.data.toList=(0,0,[],4)):=by
     show ja s.data.toList=_;rw[x6 s h3 HE.out,HK.out,af HF.out]
    generalize jU (s[0].toNat:Int) (s[1].toNat:Int) ok=ff at Q;go_wp2_with(fail);refine Q.mono ?_;rintro e w1 ⟨rfl,Z⟩;obtain⟨r0,r1,r2,r3⟩:=wm T.out Z;have vR:=gu iN Z;have J:=B3 (ok:=[]) (ao:=ν) (k:=0) (cp:=0) (x:=ι κ 0) (y:=ι κ 0) (z:=σ ν 0 0) (Row.nil w1 2) (λj Y=>by simp[eu]at Y) vR;clear Q Z c0 c1 cv X CV;go_wp2_with(fail);refine aE (v:=τ #[.agg #[ι κ 0,ι κ 0,σ ν 0 0],.iface 128 (ι κ 4)]) (by simp[results,results184,go_sem,r0,r1,r2]) rfl ?_;exact⟨ν,0,0,4,0,0,[],rfl,J.1,Nat.le_refl _,HV.out,J.2,λj Y=>by simp[eu]at Y,λ_=>rfl⟩
theorem B5(s:ByteArray)(w:dY)(hs:s.size<=1000)(h:ja s.data.toList=(0,0,[],4))(hb:s.size<3 \/ ∃T:3<=s.size,(s.size:Int)≠(3:Int)+(2:Int)*(s[2].toNat:Int)):
 eZ e7 184 #[.string s] w λe w'=>Ee s.data.toList w e w':=by
 have hz:=Uz;have Y:Hid _:=h;clear h;have U:eE w (w.alloc (γ #[ι κ 0,ι κ 0,σ ν 0 0] 37)):=(au _ _).alloc (Nat.le_refl _) _;have V:jg (w.alloc (γ #[ι κ 0,ι κ 0,σ ν 0 0] 37)) ν 0 [] :=⟨rfl,.inl rfl⟩
 rcases hb with h1|⟨T,X⟩
 ·have g1:(s.size:Int)<3:=eh
  go_in
  go_wp2_with(fail);refine aE (v:=τ #[.agg #[ι κ 0,ι κ 0,σ ν 0 0],.iface 128 (ι κ 4)]) (by simp[results,results184,go_sem]) rfl ?_;exact⟨ν,0,0,4,0,0,[],rfl,V,Nat.le_refl _,Y.out,U,λj Z=>by simp[eu]at Z,λ_=>rfl⟩
 ·have g1:¬(s.size:Int)<3:=eh;have mX:=s[2].toNat_lt;have b2:2<s.size:=eh;have g2:((s.size:Int) !=(3:Int)+(2:Int)*(s[2].toNat:Int))=true:=by rw[bne_iff_ne];exact X
  clear X
  go_in
  go_wp2_with(fail);refine aE (v:=τ #[.agg #[ι κ 0,ι κ 0,σ ν 0 0],.iface 128 (ι κ 4)]) (by simp[results,results184,go_sem]) rfl ?_;exact⟨ν,0,0,4,0,0,[],rfl,V,Nat.le_refl _,Y.out,U,λj Z=>by simp[eu]at Z,λ_=>rfl⟩
theorem KN(s:ByteArray)(w:dY)(hs:s.size<=1000):eZ e7 184 #[.string s] w λe w'=>Ee s.data.toList w e w':=by
 have hl:s.data.toList.length=s.size:=gZ;by_cases Z:3<=s.size
 ·by_cases heq:(s.size:Int)=(3:Int)+(2:Int)*(s[2].toNat:Int)
  ·exact Jg s w hs Z heq
  ·refine B5 s w hs ?_ (.inr ⟨Z,heq⟩);unfold ja;rw[nX s 2 eh,hl,ai (.inr heq)]
 ·refine B5 s w hs ?_ (.inl eh);unfold ja;rw[hl,ai (.inl eh)]
open St
structure SR(w:dY)(g C:Nat)(ss:List SV):Prop where
 lt:g<w.heap.size
 cell:∀j s,ss[j]? =μ s->w.cell? ⟨g,j*3,ν⟩=μ (ι κ s.own)/\w.cell? ⟨g,j*3+1,ν⟩=μ (ι κ s.seq)/\w.cell? ⟨g,j*3+2,ν⟩=μ (σ s.a s.n s.cap)
 sp:∀j,j<C*3->(w.cell? ⟨g,j,ν⟩).isSome=true/\w.frozen? ⟨g,j,ν⟩=false
 le:ss.length<=C
 cm:C<=maxLen
theorem SR.fz(h:SR w g C ss)(j:Nat)(hj:j<ss.length*3):w.frozen? ⟨g,j,ν⟩=false:=(h.sp j (by have:=h.le;omega)).2
theorem SR.below(h:SR w g C ss)(hb:eE w w'):SR w' g C ss:=
 ⟨Nat.lt_of_lt_of_le h.lt hb.size,λj s e=>by
  obtain⟨c0,c1,c2⟩:=h.cell j s e;exact⟨(hb.cell (p:=⟨g,j*3,ν⟩) h.lt).trans c0,(hb.cell (p:=⟨g,j*3+1,ν⟩) h.lt).trans c1,(hb.cell (p:=⟨g,j*3+2,ν⟩) h.lt).trans c2⟩,λj Z=>⟨by rw[hb.cell (p:=⟨g,j,ν⟩) h.lt];exact(h.sp j Z).1,(hb.frozen (p:=⟨g,j,ν⟩) h.lt).trans (h.sp j Z).2⟩,h.le,h.cm⟩
theorem SR.drewN {w:dY} {g C:Nat} {ss:List SV} (h:SR w g C ss)(n:Nat):SR (w.drewN n) g C ss:=h.below (below_drewN (au _ _) n)
def Nq(w:dY)(g k:Nat)(s:SV):dY:=((w.setCell ⟨g,k*3,ν⟩ (ι κ s.own)).setCell ⟨g,k*3+1,ν⟩ (ι κ s.seq)).setCell ⟨g,k*3+2,ν⟩ (σ s.a s.n s.cap)
theorem SR.put(h:SR w g C ss)(k:Nat)(S:k<ss.length)(s:SV):SR (Nq w g k s) g C (ss.set k s):=by
 have V:∀j,j<ss.length*3->(w.cell? ⟨g,j,ν⟩).isSome=true:=by
  intro j Z;have hl:j/3<ss.length:=eh;obtain⟨c0,c1,c2⟩:=h.cell (j/3) ss[j/3] (ay hl);rcases(show j=j/3*3 \/j=j/3*3+1 \/j=j/3*3+2 by omega)with e|e|e
  ·rw[e,c0];rfl
  ·rw[e,c1];rfl
  ·rw[e,c2];rfl
 have U:Nq w g k s=w.setCells g (k*3) [ι κ s.own,ι κ s.seq,σ s.a s.n s.cap] :=rfl;have X:=bJ g [ι κ s.own,ι κ s.seq,σ s.a s.n s.cap] (k*3) w (λj Z=>V _ (by simp at Z;omega));refine⟨by unfold Nq;simpa using h.lt,λj s' e=> ?_,λj Z=> ?_,by simpa using h.le,h.cm⟩
 ·by_cases Y:j=k
  ·subst Y;rw[List.getElem?_set_self S]at e;obtain rfl:=Option.some.inj e;rw[U];exact⟨X 0 gZ,X 1 gZ,X 2 gZ⟩
  ·rw[List.getElem?_set_ne (λe=>Y e.symm)]at e;obtain⟨c0,c1,c2⟩:=h.cell j s' e;have T:∀o,o<3->(w.setCells g (k*3) [ι κ s.own,ι κ s.seq,σ s.a s.n s.cap]).cell? ⟨g,j*3+o,ν⟩=w.cell? ⟨g,j*3+o,ν⟩:=λo ho=>bz g _ _ _ _ (λ_ _=>by show j*3+o<k*3 \/k*3+3<=j*3+o;omega);rw[U];exact⟨(T 0 eA).trans c0,(T 1 eA).trans c1,(T 2 eA).trans c2⟩
 ·rw[U,bW];refine⟨?_,(h.sp j Z).2⟩;by_cases hq:k*3<=j/\j<k*3+3
  ·have:=X (j-k*3) (by simp;omega);rw[show k*3+(j-k*3)=j by omega]at this;rw[this];rfl
  ·rw[bz g _ _ _ _ (λ_ _=>by show j<k*3 \/k*3+3<=j;omega)];exact(h.sp j Z).1
theorem Hm(w:dY)(g k:Nat)(s:SV):w.grownBy (Nq w g k s) (μ g):=by
 unfold Nq;exact kQ (kQ (kQ ⟨rfl,rfl,rfl,Nat.le_refl _,λ_ _ _=>rfl⟩ _ _) _ _) _ _
def Nr(l:List SV):Prop:=l.Pairwise (λx y=>x.own<y.own)
theorem UB(x y:SV)(w:dY):eZ e7 203 #[.agg #[ι κ x.own,ι κ x.seq,σ x.a x.n x.cap],.agg #[ι κ y.own,ι κ y.seq,σ y.a y.n y.cap]] w λe w'=>e=ρ (ι κ (mb x.own y.own))/\eE w w':=by
 have Y:eE w ((w.alloc (γ #[ι κ x.own,ι κ x.seq,σ x.a x.n x.cap] 40)).alloc (γ #[ι κ y.own,ι κ y.seq,σ y.a y.n y.cap] 40)):=(gY _ _).alloc gZ _;have Z:=tF x.own y.own ((w.alloc (γ #[ι κ x.own,ι κ x.seq,σ x.a x.n x.cap] 40)).alloc (γ #[ι κ y.own,ι κ y.seq,σ y.a y.n y.cap] 40))
 go_in
 go_wp2_with(fail);refine Z.mono ?_;rintro e w1 ⟨rfl,rfl⟩
 go_wp2
 go_ret;exact⟨rfl,Y⟩
structure Down(w wr:dY)(g cap n i:Nat)(ss pre mid post:List SV)(x:SV):Prop where
 sr:SR wr g cap (pre++x::(mid++post))
 perm:(pre++x::(mid++post)).Perm ss
 Q6:Nr (pre++mid)
 low:∀y∈mid,x.own<y.own
 len:pre.length+mid.length=i
 grown:w.grownBy wr (μ g)
theorem Pm {mid:List SV} (h:Nr (pre++mid))(X:∀y∈pre,y.own<x.own)(Y:∀y∈mid,x.own<y.own):Nr (pre++x::mid):=by
 unfold Nr at*;rw[br]at h⊢;refine⟨h.1,cA.2 ⟨Y,h.2.1⟩,λa Z b hb=> ?_⟩;rcases aO.1 hb with rfl|hb
 ·exact X a Z
 ·exact h.2.2 a Z b hb
theorem UC {y:SV} (h:Nr (pre++ [y]))(hy:y.own<x.own):∀z∈pre++ [y],z.own<x.own:=by
 intro z Z;rcases av.1 Z with Z|Z
 ·have:=(br.1 h).2.2 z Z y gZ;omega
 ·have:z=y:=by simpa using Z
  rw[this];exact hy
theorem tH {a b:dY} (h:w.grownBy a (μ g))(k:eE a b):w.grownBy b (μ g):=
 ⟨k.os.trans h.os,k.tape.trans h.tape,k.output.trans h.output,Nat.le_trans h.size k.size,λi hi Z=>(k.block i (Nat.lt_of_lt_of_le hi h.size)).trans (h.block i hi Z)⟩
theorem B6 {a b:dY} (h:w.grownBy a (μ g))(k:a.grownBy b (μ g)):w.grownBy b (μ g):=
 ⟨k.os.trans h.os,k.tape.trans h.tape,k.output.trans h.output,Nat.le_trans h.size k.size,λi hi Z=>(k.block i (Nat.lt_of_lt_of_le hi h.size) Z).trans (h.block i hi Z)⟩
theorem afx {c d e f:Nat} {u0 u1 u2 u3 u4 u5:dZ} (k:eE w w')(gl:g<w.heap.size)
 (h:w.cell? ⟨g,a,ν⟩=μ u0/\w.cell? ⟨g,b,ν⟩=μ u1/\w.cell? ⟨g,c,ν⟩=μ u2/\w.cell? ⟨g,d,ν⟩=μ u3/\w.cell? ⟨g,e,ν⟩=μ u4/\w.cell? ⟨g,f,ν⟩=μ u5):
 w'.cell? ⟨g,a,ν⟩=μ u0/\w'.cell? ⟨g,b,ν⟩=μ u1/\w'.cell? ⟨g,c,ν⟩=μ u2/\w'.cell? ⟨g,d,ν⟩=μ u3/\w'.cell? ⟨g,e,ν⟩=μ u4/\w'.cell? ⟨g,f,ν⟩=μ u5:=
 ⟨(k.cell (p:=⟨g,a,ν⟩) gl).trans h.1,(k.cell (p:=⟨g,b,ν⟩) gl).trans h.2.1,(k.cell (p:=⟨g,c,ν⟩) gl).trans h.2.2.1,(k.cell (p:=⟨g,d,ν⟩) gl).trans h.2.2.2.1,(k.cell (p:=⟨g,e,ν⟩) gl).trans h.2.2.2.2.1,(k.cell (p:=⟨g,f,ν⟩) gl).trans h.2.2.2.2.2⟩
theorem Ns(g n cap:Nat)(ss:List SV)(w:dY)(h:SR w g cap ss)(hl:ss.length=n)(hn:n<=12)(hd:ss.Pairwise (λx y=>x.own≠y.own)):
 eZ e7 232 #[σ (μ ⟨g,0,ν⟩) n cap,ι κ 0,ι κ (n:Int),.func (.func 203) #[] #[]] w λe w'=>e=ρ (τ #[])/\∃ts,SR w' g cap ts/\ts.Perm ss/\Nr ts/\w.grownBy w' (μ g):=by
 go_in
 go_wp2
 go_loopw [8] (λi wr=>∃(k:Nat) (ts:List SV),1<=k/\(k<=n \/k=1)/\i=ι κ k/\SR wr g cap ts/\ts.Perm ss/\Nr (ts.take k)/\w.grownBy wr (μ g)) (λi _=>n-(fa i).toNat)
 case atStart=>exact⟨1,ss,Nat.le_refl _,.inr rfl,rfl,h,List.Perm.refl _,by unfold Nr;cases ss<;>simp,⟨rfl,rfl,rfl,Nat.le_refl _,λ_ _ _=>rfl⟩⟩
 case round=>
  obtain⟨k,ts,XA,AY,rfl,hS,U,hR,hG⟩:=hrel;have htl:ts.length=n:=by rw[U.length_eq,hl]
  by_cases kD:k<n
  ·have nS:(k:Int)<(n:Int):=eh;have hD0:Hid (Down w wr g cap n k ss (ts.take k) [] (ts.drop (k+1)) (ts[k]'(by omega))):=by
    have e:ts.take k++(ts[k]'(by omega))::([] ++ts.drop (k+1))=ts:=by
     rw[bT,<-aS eh,cF]
    refine⟨by rw[e];exact hS,by rw[e];exact U,by rw[aB];exact hR,gZ,by simp;omega,hG⟩
   obtain⟨wo,rfl⟩:∃wo,wo=wr:=⟨_,rfl⟩
   clear hS U hR hG
   go_wp2
   go_loopw [9] (λj wr=>∃(pre mid post:List SV) (x:SV),j=ι κ (pre.length:Int)/\Down w wr g cap n k ss pre mid post x) (λj _=>(fa j).toNat)
   case atStart=>exact⟨_,_,_,_,by simp;omega,hD0.out⟩
   case round=>
    clear hD0;obtain⟨pre,mid,post,x,rfl,Y⟩:=hrel;have hlen:pre.length+mid.length+post.length+1=n:=by
     have:=Y.perm.length_eq;simp at this;omega
    rcases cG pre with rfl|⟨Z,y,oP⟩
    ·have A:Hid (∃ts:List SV,SR wr g cap ts/\ts.Perm ss/\Nr (ts.take (k+1))/\w.grownBy wr (μ g)):=by
      refine⟨_,Y.sr,Y.perm,?_,Y.grown⟩;have hm:=Y.len;simp only[fK,eU,Nat.zero_add]at hm⊢;have e:(x::(mid++post)).take (k+1)=x::mid:=by
       rw[List.take_succ_cons,<-hm,List.take_left]
      rw[e];exact Pm (pre:=[]) Y.Q6 gZ Y.low
     clear Y;simp only[eU,Int.natCast_zero]
     go_wp2
     go_quiet(fail)
     go_wp2
     go_roundw
     case rel=>
      obtain⟨us,q1,q2,q3,q4⟩:=A.out;exact⟨k+1,us,eh,.inl eh,by go_num,SR.drewN q1 _,q2,q3,tH q4 (below_drewN (au _ _) _)⟩
     case measure=>simp[fa];omega
    ·rw[cH]at oP;subst oP;obtain⟨P,U⟩:=gq (Z.length);have T:(Z++ [y]).length=P+1:=by simp[U]
     have gx:((Z++ [y])++x::(mid++post))[P+1]? =μ x:=by rw[<-T];simp
     have gy:((Z++ [y])++x::(mid++post))[P]? =μ y:=by rw[<-U];simp
     obtain⟨x0,x1,x2⟩:=Y.sr.cell _ _ gx;obtain⟨y0,y1,y2⟩:=Y.sr.cell _ _ gy;have gl:=Y.sr.lt;have hPn:P+1<n:=by
      rw[T]at hlen;omega
     have b0:(0:Int)<=(P:Int):=eh;have b1:(P:Int)<(n:Int):=eh;have b2:(P:Int)+1<(n:Int):=eh;have b3:(0:Int)<=(P:Int)+1:=eh;have b4:(0:Int)<(P:Int)+1:=eh;have b5:fJ.wrap ((P:Int)+1-1)=(P:Int):=by rw[show(P:Int)+1-1=(P:Int) by omega];exact aQ _ ⟨eh,eh⟩
     have b6:fJ.wrap (P:Int)=(P:Int):=aQ _ ⟨eh,eh⟩;have afy:¬x.own=y.own:=by
      have Pn:=(Y.perm.pairwise_iff (λ{a b} (Dr:a.own≠b.own)=>λe=>Dr e.symm)).2 hd;have h3:=(br.1 Pn).2.2 y gZ x gZ;exact λe=>h3 e.symm
     have eJ:(((Z++ [y]).length:Nat):Int)=(P:Int)+1:=by rw[T];rfl
     rw[eJ];have HD:Hid _:=Y;have HP:Hid _:=U;have HN:Hid _:=afy;clear Y U afy eJ T gx gy hlen;have H:wr.drew.cell? ⟨g,(P+1)*3,ν⟩=μ (ι κ x.own)/\wr.drew.cell? ⟨g,(P+1)*3+1,ν⟩=μ (ι κ x.seq)/\wr.drew.cell? ⟨g,(P+1)*3+2,ν⟩=μ (σ x.a x.n x.cap)/\wr.drew.cell? ⟨g,P*3,ν⟩=μ (ι κ y.own)/\wr.drew.cell? ⟨g,P*3+1,ν⟩=μ (ι κ y.seq)/\wr.drew.cell? ⟨g,P*3+2,ν⟩=μ (σ y.a y.n y.cap):=⟨x0,x1,x2,y0,y1,y2⟩
     have D:=UB x y wr.drew;obtain⟨cx,X⟩:=gq (mb x.own y.own);rw[X]at D;by_cases UD:x.own<y.own
     ·have Q:cx= -1:=by rw[<-X,mb,ai UD]
      subst Q;clear X
      go_wp2
      go_region_held3(λv=>v.cell? ⟨g,(P+1)*3,ν⟩=μ (ι κ x.own)/\v.cell? ⟨g,(P+1)*3+1,ν⟩=μ (ι κ x.seq)/\v.cell? ⟨g,(P+1)*3+2,ν⟩=μ (σ x.a x.n x.cap)/\v.cell? ⟨g,P*3,ν⟩=μ (ι κ y.own)/\v.cell? ⟨g,P*3+1,ν⟩=μ (ι κ y.seq)/\v.cell? ⟨g,P*3+2,ν⟩=μ (σ y.a y.n y.cap))
       (first|assumption|exact H|exact E)
       ((go_at_call 203;refine D.mono ?_;rintro e J ⟨rfl,M⟩;have E:=afx M gl H))
      have V:eE wr J:=gu (below_drewN (au _ _) 1) M;have S5:=HD.out.sr.below V;obtain⟨z0,z1,z2,z3,z4,z5⟩:=E;have gl5:=S5.lt;have S:∀o,o<(P+2)*3->J.frozen? ⟨g,o,ν⟩=false:=λo ho=>S5.fz o (by have:=HP.out;simp;omega);have f0:=S ((P+1)*3) eh;have f1:=S ((P+1)*3+1) eh;have f2:=S ((P+1)*3+2) eh;have f3:=S (P*3) eh;have f4:=S (P*3+1) eh;have f5:=S (P*3+2) eh;clear S D H x0 x1 x2 y0 y1 y2 M;have hD6:Hid (Down w (Nq (Nq J g (P+1) y) g P x).drew g cap n k ss Z (y::mid) post x):=by
       have hd:=HD.out;have hp:=HP.out;have KO:((((Z++ [y])++x::(mid++post)).set (P+1) y).set P x)=Z++x::((y::mid)++post):=by
        subst hp;rw[aD,dS _ _ eh,show Z.length+1-Z.length=1 by omega];simp only[List.singleton_append,List.set_cons_succ,List.set_cons_zero];rw[dS _ _ eh,Nat.sub_self];rfl
       have hlen:((Z++ [y])++x::(mid++post)).length=Z.length+mid.length+post.length+2:=by simp;omega
       have s6:=((S5.put (P+1) (by rw[hlen];omega) y).put P (by rw[List.length_set,hlen];omega) x).drewN 1;rw[KO]at s6;refine⟨s6,?_,?_,?_,?_,?_⟩
       ·refine List.Perm.trans ?_ hd.perm;rw[aD];exact List.Perm.append_left Z (by simpa using List.Perm.swap y x (mid++post))
       ·have:=hd.Q6;rw[aD]at this;exact this
       ·intro z hz;rcases aO.1 hz with rfl|hz
        ·exact UD
        ·exact hd.low z hz
       ·have:=hd.len;simp at this⊢;omega
       ·exact tH (B6 (B6 (tH hd.grown V) (Hm _ g (P+1) y)) (Hm _ g P x)) (below_drewN (au _ _) 1)
      go_wp2
      go_region
      go_wp2_with(fail);refine⟨⟨Z,y::mid,post,x,?_,?_⟩,?_⟩
      ·rw[HP.out]
      ·exact hD6.out
      ·simp[fa]
     ·have hhi:y.own<x.own:=by
       have h9:¬x.own=y.own:=HN.out;omega
      have Q:cx=1:=by rw[<-X,mb,af UD,ai hhi]
      subst Q;clear X
      go_wp2
      go_region_held3(λv=>v.cell? ⟨g,(P+1)*3,ν⟩=μ (ι κ x.own)/\v.cell? ⟨g,(P+1)*3+1,ν⟩=μ (ι κ x.seq)/\v.cell? ⟨g,(P+1)*3+2,ν⟩=μ (σ x.a x.n x.cap)/\v.cell? ⟨g,P*3,ν⟩=μ (ι κ y.own)/\v.cell? ⟨g,P*3+1,ν⟩=μ (ι κ y.seq)/\v.cell? ⟨g,P*3+2,ν⟩=μ (σ y.a y.n y.cap))
       (first|assumption|exact H|exact E)
       ((go_at_call 203;refine D.mono ?_;rintro e J ⟨rfl,M⟩;have E:=afx M gl H))
      have V:eE wr J:=gu (below_drewN (au _ _) 1) M;have A:Hid (∃ts:List SV,SR J g cap ts/\ts.Perm ss/\Nr (ts.take (k+1))/\w.grownBy J (μ g)):=by
       have hd:=HD.out;refine⟨_,hd.sr.below V,hd.perm,?_,tH hd.grown V⟩;have hm:=hd.len;have e:((Z++ [y])++x::(mid++post)).take (k+1)=(Z++ [y])++x::mid:=by
        rw[show(Z++ [y])++x::(mid++post)=((Z++ [y])++x::mid)++post by simp];rw[List.take_left' (by simp at hm⊢;omega)]
       rw[e];exact Pm hd.Q6 (UC (br.1 hd.Q6).1 hhi) hd.low
      clear D H E x0 x1 x2 y0 y1 y2 M
      go_wp2
      go_roundw
      case rel=>
       obtain⟨us,q1,q2,q3,q4⟩:=A.out;exact⟨k+1,us,eh,.inl eh,by go_num,q1,q2,q3,q4⟩
      case measure=>simp[fa];omega
  ·have A:Hid (∃ts,SR wr g cap ts/\ts.Perm ss/\Nr ts/\w.grownBy wr (μ g)):=by
    refine⟨ts,hS,U,?_,hG⟩;have:ts.take k=ts:=aI eh
    rwa [this]at hR
   clear hS U hR hG;have xZ:¬(k:Int)<(n:Int):=eh
   go_wp2
   first|go_end0|refine iM rfl rfl ?_
   exact⟨rfl,A.out⟩
theorem Po(n:Nat)(hn:n<=6)(w:dY):eZ e7 221 #[.int .u64 (n:Int)] w λe w'=>∃r:Int,e=ρ (ι κ r)/\w=w':=by
 have Z:∀W:dY,eZ e7 241 #[.int .u64 (n:Int)] W λe w'=>∃r:Int,e=ρ (ι κ r)/\W=w':=by
  intro W;rcases(show n=0 \/n=1 \/n=2 \/n=3 \/n=4 \/n=5 \/n=6 by omega)with rfl|rfl|rfl|rfl|rfl|rfl|rfl
  all_goals
   go_in
   go_wp2
   go_ret;exact⟨_,rfl,rfl⟩
 go_in
 go_wp2_with(fail);refine(Z _).mono ?_;rintro e w1 ⟨r,rfl,rfl⟩
 go_wp2
 go_ret;exact⟨_,rfl,rfl⟩
theorem Yq(g n cap:Nat)(L:Int)(ss:List SV)(w:dY)(h:SR w g cap ss)(hl:ss.length=n)(X:n<=12)(hd:ss.Pairwise (λx y=>x.own≠y.own)):
 eZ e7 220 #[σ (μ ⟨g,0,ν⟩) n cap,ι κ 0,ι κ (n:Int),ι κ L,.func (.func 203) #[] #[]] w λe w'=>e=ρ (τ #[])/\∃ts,SR w' g cap ts/\ts.Perm ss/\Nr ts/\w.grownBy w' (μ g):=by
 have hc:=Ns g n cap ss w h hl X hd;have h12:(n:Int)<=12:=eh
 go_in
 go_wp2_with(fail);refine bZ 1 ?_;rw[bR];go_wp2_with(fail);refine hc.mono ?_;rintro e w1 ⟨rfl,Z⟩;have Y:Hid _:=Z;clear Z hc
 go_wp2
 first|go_end0|refine iM rfl rfl ?_
 exact⟨rfl,Y.out⟩
theorem UE(g n cap:Nat)(ss:List SV)(w:dY)(h:SR w g cap ss)(hl:ss.length=n)(V:n<=6)(hd:ss.Pairwise (λx y=>x.own≠y.own)):
 eZ e7 202 #[σ (μ ⟨g,0,ν⟩) n cap,.func (.func 203) #[] #[]] w λe w'=>e=ρ (τ #[])/\∃ts,SR w' g cap ts/\ts.Perm ss/\Nr ts/\w.grownBy w' (μ g):=by
 have Z:=Po n V w;have h12:(n:Int)<=6:=eh
 go_in
 go_wp2_with(fail);refine Z.mono ?_;rintro e w1 ⟨r,rfl,rfl⟩;go_wp2_with(fail);refine(Yq g n cap r ss w h hl eh hd).mono ?_;rintro e w2 ⟨rfl,Y⟩;have X:Hid _:=Y;clear Y Z
 go_wp2
 first|go_end0|refine iM rfl rfl ?_
 exact⟨rfl,X.out⟩
open Go.ChangeShapes Go.WideShapes Go.ChangeAt
theorem Q7 {H:Type} {enc:ew×dZ->H} {W:dY} {a:Option dX} {cap:Nat} {d:DataW H} {ps:List MemPlace}
 (h:DataW.Trod enc e7 W 0 (λ_=>true) true 35 (σ a n cap) d ps):
 ∃os:List jH,jg W a n os/\kN a cap/\n<=maxLen:=by
 obtain⟨fuel,hf⟩:=h;rcases dF underlying35 underlying276 gX rfl rfl gX gX hf with⟨hcs,_⟩|⟨x,len,cp,m',n',Y,X,D0,D1,P0,P1,hcs,_,hl,hm,T,_,hx⟩
 ·simp[fL]at hcs;obtain⟨rfl,rfl,rfl⟩:=hcs;exact⟨[],⟨rfl,.inl rfl⟩,λ_=>rfl,eA⟩
 ·simp[fL]at hcs;obtain⟨rfl,rfl,rfl⟩:=hcs;simp at T;have each:∀i,i<n->W.cell? (x.add (i*2))=μ (ι κ (fa (Y i)))/\W.cell? (x.add (i*2+1))=μ (ι κ (fa (X i))):=by
   intro i hi;obtain⟨q1,q2,J,E⟩:=hx i eh;obtain⟨k,f0,_,_⟩:=bg underlying3 J;obtain⟨n,f1,_,_⟩:=bg underlying3 E;simp at f0 f1;exact⟨by rw[q1,f0];rfl,by rw[q2,f1];rfl⟩
  refine⟨(List.range n).map (λi=>(fa (Y i),fa (X i))),⟨gZ,?_⟩,λh=>by simp at h,eh⟩;by_cases Q:n=0
  ·exact .inl Q
  ·obtain⟨b,off,Z⟩:=x;have hc:=(each 0 eh).1;have U:Z=ν:=by simpa[Addr.add]using cZ hc
   subst U;refine .inr ⟨b,off,rfl,λj M=> ?_⟩;have S:j<n:=by simpa using M
   have V:=each j S;rw[ni,ni]at V;simpa[Nat.add_assoc]using V
theorem iZ.drew {w:dY} {B:Nat} {C:Array dZ} {t:ew} (h:iZ w B C t):iZ w.drew B C t:=h
abbrev abU:=Int×Bool×Int
def zA(me f s:Int):abU:=if f=me then(0,false,0)else(f,s==me,4)
def iY(p:abU):abU:=if p.2.2<=1 then(0,false,0)else(p.1,p.2.1,p.2.2-1)
theorem Eg(w:dY):(zeroValue 116).run e7 w=.ok (.agg #[ι κ 0,.bool false,ι κ 0]) w:=gX
theorem Hn(w:dY):(zeroValue 230).run e7 w=.ok (.agg #[ι κ 0,ι κ 0]) w:=gX
theorem UF(a c me f s:Int)(b:Bool)(w:dY):eZ e7 187 #[.agg #[ι κ a,.bool b,ι κ c],ι κ me,.agg #[ι κ f,ι κ s]] w λe w'=>
 e=ρ (.agg #[ι κ (zA me f s).1,.bool (zA me f s).2.1,ι κ (zA me f s).2.2])/\eE w w':=by
 have hz:=Eg;have hb:∀(A B C:Array dZ) (t u v:ew),eE w (((w.alloc (γ A t)).alloc (γ B u)).alloc (γ C v)):=λA B C t u v=>((gY _ _).alloc gZ _).alloc (by simp;omega) _;cases q:(f==me)
 ·have hv:zA me f s=(f,s==me,4):=by simp at q;simp[zA,q]
  rw[hv];clear hv
  go_in
  go_wp2
  refine aE (v:=.agg #[ι κ f,.bool (s==me),ι κ 4]) (by simp[results,results187,go_sem]) rfl ?_;exact⟨rfl,hb _ _ _ _ _ _⟩
 ·have hv:zA me f s=(0,false,0):=by simp at q;simp[zA,q]
  rw[hv];clear hv
  go_in
  go_wp2
  refine aE (v:=.agg #[ι κ 0,.bool false,ι κ 0]) (by simp[results,results187,go_sem]) rfl ?_;exact⟨rfl,hb _ _ _ _ _ _⟩
theorem UG(a c:Int)(b:Bool)(w:dY)(hc:0<=c)(Ty:c<=100):eZ e7 84 #[.agg #[ι κ a,.bool b,ι κ c]] w λe w'=>
 e=ρ (.agg #[ι κ (iY (a,b,c)).1,.bool (iY (a,b,c)).2.1,ι κ (iY (a,b,c)).2.2])/\eE w w':=by
 have hz:=Eg;have hb:∀(A B:Array dZ) (t u:ew),eE w ((w.alloc (γ A t)).alloc (γ B u)):=λA B t u=>(gY _ _).alloc gZ _;by_cases q:c<=1
 ·have hv:iY (a,b,c)=(0,false,0):=by simp[iY,q]
  rw[hv];clear hv
  go_in
  go_wp2
  refine aE (v:=.agg #[ι κ 0,.bool false,ι κ 0]) (by simp[results,results84,go_sem]) rfl ?_;exact⟨rfl,hb _ _ _ _⟩
 ·have hv:iY (a,b,c)=(a,b,c-1):=by simp[iY,q]
  rw[hv];clear hv
  go_in
  go_wp2
  refine aE (v:=.agg #[ι κ a,.bool b,ι κ (c-1)]) (by simp[results,results84,go_sem]) rfl ?_;exact⟨rfl,hb _ _ _ _⟩
theorem UH(a c me:Int)(b:Bool)(w:dY):eZ e7 149 #[.agg #[ι κ a,.bool b,ι κ c],ι κ me] w λe w'=>
 e=ρ (.agg #[ι κ me,ι κ a])/\eE w w':=by
 have hz:=Hn;have hb:∀(A B:Array dZ) (t u:ew),eE w ((w.alloc (γ A t)).alloc (γ B u)):=λA B t u=>(gY _ _).alloc gZ _
 go_in
 go_wp2
 refine aE (v:=.agg #[ι κ me,ι κ a]) (by simp[results,results149,go_sem]) rfl ?_;exact⟨rfl,hb _ _ _ _⟩
open St (u8 pJ)
theorem aaB(W:dY)(a b:Int)(Y:0<=a)(X:a<=255)(b0:0<=b)(b1:b<=255):(convert 140 9 (σ (μ ⟨W.heap.size,0,ν⟩) 2 2)).run e7 (W.alloc (γ #[.int .u8 a,.int .u8 b] 5))=.ok (.string ⟨#[u8 a,u8 b]⟩) (W.alloc (γ #[.int .u8 a,.int .u8 b] 5)):=by
 have h:Row (W.alloc (γ #[.int .u8 a,.int .u8 b] 5)) 1 (σ (μ ⟨W.heap.size,0,ν⟩) 2 2) 2 (iR [u8 a,u8 b]):=by
  refine Row.made W 1 _ _ (0,0) 2 2 _ rfl rfl (Nat.le_refl _) eA (.inl rfl) ?_;intro j u Z;simp only[iR,eN,eO,pJ a Y X,pJ b b0 b1]at Z;simpa using Z
 exact Row.back h 140 9 5 underlying140 underlying5 underlying9
def uu(f s:Int):Bool:=decide (1<=f)&&decide (f<=6)&&decide (0<=s)&&decide (s<=6)
theorem Nt(f s:Int):∀(Q:Prop),(¬1<=f->uu f s=false->Q)->(1<=f->¬f<=6->uu f s=false->Q)->(1<=f->f<=6->¬0<=s->uu f s=false->Q)->(1<=f->f<=6->0<=s->¬s<=6->uu f s=false->Q)->(1<=f->f<=6->0<=s->s<=6->uu f s=true->Q)->Q:=by
 intro Q q1 q2 U T S;by_cases Z:1<=f
 ·by_cases Y:f<=6
  ·by_cases X:0<=s
   ·by_cases V:s<=6
    ·exact S Z Y X V (by simp[uu,Z,Y,X,V])
    ·exact T Z Y X V (by simp[uu,V])
   ·exact U Z Y X (by simp[uu,X])
  ·exact q2 Z Y (by simp[uu,Y])
 ·exact q1 Z (by simp[uu,Z])
theorem xt(f s:Int)(w:dY):eZ e7 196 #[.agg #[ι κ f,ι κ s]] w λe w'=>e=ρ (.bool (uu f s))/\eE w w':=by
 refine Nt f s _ ?_ ?_ ?_ ?_ ?_
 all_goals
  intros
  rename_i hv
  rw[hv];clear hv
  go_in
  go_wp2
  go_ret;exact⟨by first|rfl|(simp;omega),gY _ _⟩
theorem KQ(f s:Int)(w:dY)(h1:1<=f)(h2:f<=6)(h3:0<=s)(h4:s<=6)(h:uu f s=true):eZ e7 148 #[.agg #[ι κ f,ι κ s]] w λe w'=>e=ρ (τ #[.string ⟨#[u8 f,u8 s]⟩,η])/\eE w w':=by
 have Y:=xt f s (w.alloc (γ #[ι κ f,ι κ s] 230));rw[h]at Y;have V:=gY w (γ #[ι κ f,ι κ s] 230);have hA:=iZ.new w #[ι κ f,ι κ s] 230;have wj:=λW=>aaB W f s eh eh eh eh;clear h
 go_in
 go_wp2_with(fail);refine Y.mono ?_;rintro e w1 ⟨rfl,k1⟩;have Z:=hA.below k1;have c0:w1.cell? ⟨w.heap.size,0,ν⟩=μ (ι κ f):=Z.cell 0;have c1:w1.cell? ⟨w.heap.size,1,ν⟩=μ (ι κ s):=Z.cell 1;have l1:w.heap.size<w1.heap.size:=Z.lt;have X:=gu V k1;clear hA Z Y k1
 go_wp2
 go_ret2
 exact⟨rfl,X.alloc X.size _⟩
def kI(l:List UInt8):Int×Int×Nat:=
 if l.length=2/\uu ((l.getD 0 0).toNat:Int) ((l.getD 1 0).toNat:Int)=true then(((l.getD 0 0).toNat:Int),((l.getD 1 0).toNat:Int),0)else(0,0,4)
theorem Nu(s:ByteArray)(w:dY):eZ e7 186 #[.string s] w λe w'=>e=ρ (τ #[.agg #[ι κ (kI s.data.toList).1,ι κ (kI s.data.toList).2.1],jk (kI s.data.toList).2.2])/\eE w w':=by
 have hz:=Hn;have hl:s.data.toList.length=s.size:=gZ;by_cases Y:s.size=2
 ·have b0:0<s.size:=eh;have b1:1<s.size:=eh;have z0:(0:Int)<(s.size:Int):=eh;have z1:(1:Int)<(s.size:Int):=eh;have yB:=s[0].toNat_lt;have kC:=s[1].toNat_lt;have g2:((s.size:Int) !=2)=false:=by rw[Y];rfl
  have E:eE w ((w.alloc (γ #[ι κ 0,ι κ 0] 230)).alloc (γ #[ι κ (s[0].toNat:Int),ι κ (s[1].toNat:Int)] 230)).drew:=jG ((gY _ _).alloc gZ _);have M:=(iZ.new w #[ι κ 0,ι κ 0] 230).below (gY (w.alloc (γ #[ι κ 0,ι κ 0] 230)) (γ #[ι κ (s[0].toNat:Int),ι κ (s[1].toNat:Int)] 230));have J:iZ ((w.alloc (γ #[ι κ 0,ι κ 0] 230)).alloc (γ #[ι κ (s[0].toNat:Int),ι κ (s[1].toNat:Int)] 230)) (w.heap.size+1) #[ι κ (s[0].toNat:Int),ι κ (s[1].toNat:Int)] 230:=iZ.Gk _ _ _ _ gZ;have Z:Hid (kI s.data.toList=if uu (s[0].toNat:Int) (s[1].toNat:Int)=true then((s[0].toNat:Int),(s[1].toNat:Int),0)else(0,0,4)):=by
   show _=_;unfold kI;rw[nX s 0 b0,nX s 1 b1,hl];simp[Y]
  have HS:Hid _:=Y;clear Y hl
  go_in
  go_wp2
  go_region
  go_wp2_with(fail);obtain⟨Q,U⟩:=gq (((w.alloc (γ #[ι κ 0,ι κ 0] 230)).alloc (γ #[ι κ (s[0].toNat:Int),ι κ (s[1].toNat:Int)] 230)).drew);have h:iZ Q w.heap.size #[ι κ 0,ι κ 0] 230:=by rw[<-U];exact M
  have Pa:iZ Q (w.heap.size+1) #[ι κ (s[0].toNat:Int),ι κ (s[1].toNat:Int)] 230:=by rw[<-U];exact J
  rw[U]at E⊢;clear U M J;generalize s[0].toNat=x at*;generalize s[1].toNat=y at*;refine(xt (x:Int) (y:Int) _).mono ?_;rintro e T ⟨rfl,k2⟩;have X:=h.below k2;have A:=Pa.below k2;have D:T.cell? ⟨w.heap.size,0,ν⟩=μ (ι κ 0):=X.cell 0;have r1:T.cell? ⟨w.heap.size,1,ν⟩=μ (ι κ 0):=X.cell 1;have rf:=X.frozen;have rl:=X.lt;have x0:T.cell? ⟨w.heap.size+1,0,ν⟩=μ (ι κ (x:Int)):=A.cell 0;have x1:T.cell? ⟨w.heap.size+1,1,ν⟩=μ (ι κ (y:Int)):=A.cell 1;have H:=gu E k2;cases V:uu (x:Int) (y:Int)
  ·have S:Hid (kI s.data.toList=(0,0,4)):=by show _=_;rw[Z.out,af (by simp[V])]
   clear Z V;go_wp2_with(fail);rw[S.out];refine aE (v:=τ #[.agg #[ι κ 0,ι κ 0],.iface 128 (ι κ 4)]) (by simp[results,results186,go_sem,D,r1]) rfl ?_;exact⟨rfl,(H.setCell (Nat.le_refl _) _).setCell (Nat.le_refl _) _⟩
  ·have S:Hid (kI s.data.toList=((x:Int),(y:Int),0)):=by show _=_;rw[Z.out,ai V]
   clear Z V;go_wp2_with(fail);rw[S.out];refine aE (v:=τ #[.agg #[ι κ (x:Int),ι κ (y:Int)],η]) (by simp[results,results186,go_sem,D,r1]) rfl ?_;exact⟨rfl,(H.setCell (Nat.le_refl _) _).setCell (Nat.le_refl _) _⟩
 ·have g2:((s.size:Int) !=2)=true:=by rw[bne_iff_ne];omega
  have mU:=gY w (γ #[ι κ 0,ι κ 0] 230);have Z:Hid (kI s.data.toList=(0,0,4)):=by show _=_;unfold kI;rw[hl,af eh]
  clear Y hl
  go_in
  go_wp2_with(fail);rw[Z.out];refine aE (v:=τ #[.agg #[ι κ 0,ι κ 0],.iface 128 (ι κ 4)]) (by simp[results,results186,go_sem]) rfl ?_;exact⟨rfl,mU⟩
section
variable {P:Program}
theorem Gq(s:ByteArray):(fM (λb:UInt8=>eB fD (b.toNat:Int)) s.data).extract 0 s.size=fM (λb:UInt8=>eB fD (b.toNat:Int)) s.data:=by
 have hs:s.size=(fM (λb:UInt8=>eB fD (b.toNat:Int)) s.data).size:=by rw[dT];rfl
 rw[hs,Array.extract_size]
theorem wq(g:Nat):∀(vs:List dZ) (o:Nat) (w:dY),(w.setCells g o vs).heap.size=w.heap.size/\(w.setCells g o vs).os=w.os/\(w.setCells g o vs).tape=w.tape/\(w.setCells g o vs).output=w.output/\∀k,k≠g->(w.setCells g o vs).heap[k]? =w.heap[k]?
 |[],o,w=>⟨rfl,rfl,rfl,rfl,λ_ _=>rfl⟩
 |u::r,o,w=>by
  have h:=wq g r (o+1) (w.setCell ⟨g,o,ν⟩ u);have b1:Below 0 w (w.setCell ⟨g,o,ν⟩ u):=(au 0 w).setCell (Nat.zero_le _) _;exact⟨h.1.trans gZ,h.2.1.trans b1.os,h.2.2.1.trans b1.tape,h.2.2.2.1.trans b1.output,λk Z=>(h.2.2.2.2 k Z).trans (ak _ _ _ k Z)⟩
theorem Nv(l:List UInt8):∀u∈iR l,u.oneCell'=true:=by
 intro u Z;obtain⟨b,_,rfl⟩:=bH.1 Z;rfl
theorem Nw(s:ByteArray):(fM (λb:UInt8=>eB fD (b.toNat:Int)) s.data).toList=iR s.data.toList:=by simp[iR]
theorem Row.Yr {xs:List dZ} (h:Row w 1 v n xs):v=σ ν 0 0/\n=0/\xs=[] \/ ∃g cap,v=σ (μ ⟨g,0,ν⟩) n cap/\g<w.heap.size/\n<=cap/\cap<=maxLen/\(∀(j:Nat) (u:dZ),xs[j]? =μ u->w.cell? ⟨g,j,ν⟩=μ u)/\(∀j,j<cap*1->(w.cell? ⟨g,j,ν⟩).isSome=true/\w.frozen? ⟨g,j,ν⟩=false):=by
 rcases h.2 with⟨Z,Y⟩|⟨g,cap,Z,X,V,U,T,S⟩
 ·exact .inl ⟨Z,Y,aH (by rw[h.1,Y])⟩
 ·exact .inr ⟨g,cap,Z,X,V,U,T,S⟩
theorem wu(w:dY)(t u ty e:ew)(i:TypeInfo)(z:dZ)(T:P.underlying t=μ (.slice e))(S:P.underlying u=μ .string)(hi:P.info? e=μ i)(hz:i.zero=μ z)(rU:i.size=1)(vV:i.bytes=1)(MT:z.cells.size=1)
 (v:dZ) (n:Nat) (xs:List dZ) (X:Row w 1 v n xs) (s:ByteArray) (hs:s.size<=1000000) (hn:n<=1000000000):
 ∃v' w',(fN #[t,u] ty #[v,.string s]).run P w=.ok v' w'/\Row w' 1 v' (n+s.size) (xs++iR s.data.toList)/\w.grownBy w' v.ownBlock/\(v'.ownBlock=v.ownBlock \/ ∃k,v'.ownBlock=μ k/\w.heap.size<=k):=by
 have hsl:(iR s.data.toList).length=s.size:=by simp[qV]
 have hex:=Gq s;rcases X.Yr with⟨rfl,rfl,rfl⟩|⟨g,cap,rfl,hg,ui,Gi,hcell,M⟩
 ·by_cases h:s.size=0
  ·have H:s.data.toList=[] :=aH (by simpa using h);refine⟨σ ν 0 0,w,?_,by rw[h,H];exact Row.nil _ _,⟨rfl,rfl,rfl,Nat.le_refl _,λ_ _ _=>rfl⟩,.inl rfl⟩;simp[fN,fO T,fO S,sizeOf,typeInfo,hi,fP,fQ,h]
  ·have U:=run_append_nil_string (P:=P) (w:=w) t u ty e i z T S hi hz s eh eh (by rw[vV];omega);have xZ:=grownCap_ge w s.size 0 e;refine⟨_,_,U,?_,⟨rfl,rfl,rfl,gZ,λk Y _=>aU w.drew _ k Y⟩,.inr ⟨_,rfl,Nat.le_refl _⟩⟩;simp only[Nat.zero_add,fK];refine Row.made w.drew 1 e _ (0,0) s.size _ _ (by rw[hsl,Nat.mul_one]) ?_ xZ (dm _ _ _ _ (by unfold maxLen;omega)) (.inl rfl) (λj x Z=> ?_)
   ·rw[dx,size_zeroCells,MT,dT];have:s.data.size=s.size:=rfl;omega
   ·have V:j<s.size:=by rw[<-hsl];exact(aK.1 Z).1
    rw[cO (by rw[dT];exact V),<-Z,<-Nw s,Array.getElem?_toList]
 ·by_cases U:n+s.size<=cap
  ·have Q:∀j,j<(iR s.data.toList).length->(w.cell? ⟨g,0+n*1+j,ν⟩).isSome=true/\w.frozen? ⟨g,0+n*1+j,ν⟩=false:=λj Z=>M _ eh;have kj:=fH (P:=P) g (0+n*1) (iR s.data.toList) 0 w (λj Z=>by rw[Nat.add_zero];exact(Q j Z).1) (λj Z=>by rw[Nat.add_zero];exact(Q j Z).2) (Nv _);have B:=wq g (iR s.data.toList) (0+n*1) w;refine⟨σ (μ ⟨g,0,ν⟩) (n+s.size) cap,w.setCells g (0+n*1) (iR s.data.toList),?_,⟨by rw[az,X.1,hsl];omega,.inr ⟨g,cap,rfl,by rw[B.1];exact hg,U,Gi,λj x hx=> ?_,λj Z=> ?_⟩⟩,⟨B.2.1,B.2.2.1,B.2.2.2.1,by rw[B.1];exact Nat.le_refl _,λk _ Y=>B.2.2.2.2 k (λe=>Y (by simp[eu,e]))⟩,.inl rfl⟩
   ·simp[fN,fO T,fO S,sizeOf,typeInfo,hi,rU,fP,fQ,U,hex,add_plain];have J:(fG ⟨g,n,ν⟩ (iR s.data.toList)).run P w=.ok () (w.setCells g n (iR s.data.toList)):=by simpa using kj
    have e8:List.map (λb:UInt8=>eB fD (b.toNat:Int)) s.data.toList=iR s.data.toList:=rfl;rw[e8,J];rfl
   ·rcases Nat.lt_or_ge j xs.length with Z|Z
    ·rw[bE Z]at hx;rw[bz g _ _ _ _ (λ_ _=>.inl (by show j<0+n*1;have:=X.1;omega))];exact hcell j x hx
    ·rw[bu Z]at hx;have V:j-xs.length<(iR s.data.toList).length:=(aK.1 hx).1;have:=bJ g (iR s.data.toList) (0+n*1) w (λk Y=>(Q k Y).1) (j-xs.length) V;have y:0+n*1+(j-xs.length)=j:=by have:=X.1;omega
     rw[y]at this;rw[this,<-hx,ay V]
   ·rw[bW];refine⟨?_,(M j Z).2⟩;by_cases hq:n*1<=j/\j<n*1+(iR s.data.toList).length
    ·have:=bJ g (iR s.data.toList) (0+n*1) w (λk Y=>(Q k Y).1) (j-n*1) eh;have y:0+n*1+(j-n*1)=j:=eh;rw[y]at this;rw[this];rfl
    ·rw[bz g _ _ _ _ (λ_ _=>by show j<0+n*1 \/0+n*1+(iR s.data.toList).length<=j;omega)];exact(M j Z).1
  ·have Pp:¬n+s.size<=cap:=U;have E:¬(9223372036854775807<((n:Int)+(s.size:Int))):=eh;have hcc:cap<n+s.size:=eh;have hnx:fR (n+s.size) cap<=281474976710656:=by have:=nextslicecap_le hcc;omega
   have D:¬(281474976710656<fR (n+s.size) cap*i.bytes):=by rw[vV];omega
   have qK:=run_loadCells_list (P:=P) (w:=w.drew) ⟨g,0,ν⟩ xs (λj x Z=>by rw[add_plain];exact hcell j x Z);have A:(loadCells ⟨g,0,ν⟩ (n*i.size)).run P w.drew=.ok xs.toArray w.drew:=by
    rw[rU,<-X.1];exact qK
   have xZ:=grownCap_ge w (n+s.size) cap e;refine⟨σ (μ ⟨w.heap.size,0,ν⟩) (n+s.size) (grownCap w (n+s.size) cap e),w.drew.alloc (γ (xs.toArray++(iR s.data.toList).toArray++Builtin.zeroCells z.cells (grownCap w (n+s.size) cap e-(n+s.size))) e),?_,?_,⟨rfl,rfl,rfl,gZ,λk Y _=>aU w.drew _ k Y⟩,.inr ⟨_,rfl,Nat.le_refl _⟩⟩
   ·simp[fN,fO T,fO S,sizeOf,typeInfo,zeroValue,hi,hz,fP,Pp,E,D,Question.forced,newRow,grownCap,fQ,hex,A];congr 2;apply Array.ext';simp[iR]
   ·refine Row.made w.drew 1 e _ (0,0) (n+s.size) _ _ (by rw[az,X.1,hsl];omega) ?_ xZ (dm _ _ _ _ (by unfold maxLen;omega)) (.inl rfl) (λj x Z=> ?_)
    ·rw[dx,dx,size_zeroCells,MT];have h1:xs.toArray.size=n:=by simpa using X.1
     have h2:(iR s.data.toList).toArray.size=s.size:=by simpa using hsl
     rw[h1,h2];omega
    ·have V:j<(xs++iR s.data.toList).length:=(aK.1 Z).1;rw[cO (by simpa using V),List.append_toArray,List.getElem?_toArray];exact Z
theorem tI(w:dY) {ops:Array Oper} {rest:List Oper} {o:Oper} {a:Act} {Q:Exit->Act->dY->Prop} (Z:o.guard=ν)(sl x:Operand)(t u:ew)
 (M:o.op=.call {callee:=.builtin .append,args:= #[sl,x],argTypes:= #[t,u] })
 (e:ew) (i:TypeInfo) (z:dZ) (H:P.underlying t=μ (.slice e)) (E:P.underlying u=μ .string) (hi:P.info? e=μ i) (D:i.zero=μ z) (y:i.size=1) (vV:i.bytes=1) (Y:z.cells.size=1)
 (v:dZ) (n:Nat) (xs:List dZ) (hs:a.eval sl=v) (A:Row w 1 v n xs) (s:ByteArray) (hx:a.eval x=.string s) (hsl:s.size<=1000000) (S:n<=1000000000)
 (h:∀v' w',Row w' 1 v' (n+s.size) (xs++iR s.data.toList)->w.grownBy w' v.ownBlock->(v'.ownBlock=v.ownBlock \/ ∃k,v'.ownBlock=μ k/\w.heap.size<=k)->wpList P ops Q rest (a.put o.dst v') w'):wpList P ops Q (o::rest) a w:=by
 refine wpList_plain Z λK T=> ?_;obtain⟨v',w',J,X,V,U⟩:=wu (P:=P) w t u o.type e i z H E hi D y vV Y v n xs A s hsl S;unfold Oper.wp execOp;simp only[M,resolve,invoke,builtin,Sem.run_bind,Sem.run_pure,Result.andThen_ok,List.map_toArray,eN,eO,hs,hx,J];exact T _ _ (h v' w' X V U)
end
theorem Pq:∀(ps:List PV) (j:Nat) (p:PV),ps[j]? =μ p->(QF ps)[j*3]? =μ (ι κ p.code)/\(QF ps)[j*3+1]? =μ (ι κ p.id)/\(QF ps)[j*3+2]? =μ p.val
 |[],j,p,h=>by simp at h
 |q::r,0,p,h=>by
  have:q=p:=by simpa using h
  subst this;exact⟨rfl,rfl,rfl⟩
 |q::r,j+1,p,h=>by
  have Z:r[j]? =μ p:=by simpa using h
  obtain⟨a,b,c⟩:=Pq r j p Z;have e:QF (q::r)=ι κ q.code::ι κ q.id::q.val::QF r:=rfl;rw[e,show(j+1)*3=j*3+1+1+1 by omega,show j*3+1+1+1+1=(j*3+1)+1+1+1 by omega,show j*3+1+1+1+2=(j*3+2)+1+1+1 by omega];simp only[List.getElem?_cons_succ];exact⟨a,b,c⟩
structure abX(w:dY)(v:dZ)(ps:List PV):Prop where
 row:Row w 3 v ps.length (QF ps)
 opt:∀p∈ps,jg w p.a p.n p.os/\p.n<=1000
theorem abX.shape {ps:List PV} (h:abX w v ps):∃(a:Option dX) (c:Nat),v=σ a ps.length c/\∀j p,ps[j]? =μ p->∃g,a=μ ⟨g,0,ν⟩/\w.cell? ⟨g,0+j*3,ν⟩=μ (ι κ p.code)/\w.cell? ⟨g,0+j*3+1,ν⟩=μ (ι κ p.id)/\w.cell? ⟨g,0+j*3+2,ν⟩=μ (σ p.a p.n p.cap):=by
 rcases h.row.2 with⟨Z,X⟩|⟨g,c,Z,hg,ui,Gi,hcell,_⟩
 ·refine⟨ν,0,by rw[X,Z],λj p Y=> ?_⟩;have:=(aK.1 Y).1;omega
 ·refine⟨_,c,Z,λj p Y=>⟨g,rfl,?_⟩⟩;obtain⟨a,b,d⟩:=Pq ps j p Y;rw[Nat.zero_add];exact⟨hcell _ _ a,hcell _ _ b,hcell _ _ d⟩
