import Derived.Test.YtieklnlbljejdaaGreatDoorT04
open Go.Value renaming int → ι, slice → σ, pointer → π, tuple → τ, nilIface → η
open Go.IntKind renaming i64 → κ
open Go.Ending renaming returned → ρ
open Go.Obj renaming cells → γ
open Option renaming none → ν, some → μ
open Go renaming World → dN, Calls → eM
open Go.Proofs.Tryz renaming prog → eN
open Go.RowKit renaming intOf → eP
open Go.IntKind renaming i64 → fC
set_option maxRecDepth 100000
set_option maxHeartbeats 8000000
open Go.Proofs.Tryz
namespace Go.Proofs.YtieklnlbljejdaaGreatDoor
open Go.RowKit
variable {C:mK}
def vU(n:Int):Bool:=decide (0<=n)&&decide (n<=255)
theorem kT(n:Int)(w:dN):eM eN 226 #[ι κ n] w λe w'=>e=ρ (.bool (vU n))/\w=w':=by
 by_cases Z:0<=n
 ·by_cases Y:n<=255
  ·have hb:vU n=true:=by simp[vU,Z,Y]
   rw[hb];clear hb
   go_in
   go_wp2
   go_ret;exact⟨by first|rfl|(simp;omega),rfl⟩
  ·have hb:vU n=false:=by simp[vU,Y]
   rw[hb];clear hb
   go_in
   go_wp2
   go_ret;exact⟨by first|rfl|(simp;omega),rfl⟩
 ·have hb:vU n=false:=by simp[vU,Z]
  rw[hb];clear hb
  go_in
  go_wp2
  go_ret;exact⟨by first|rfl|(simp;omega),rfl⟩
theorem zf(k n K:Int)(bo:Nat)(w:dN)(Gx:bo<w.heap.size)(h:w.cell? ⟨bo,0,ν⟩=μ (ι κ K)):
 eM eN 243 #[.agg #[ι κ k,ι κ n],π (μ ⟨bo,0,ν⟩)] w λe w'=>e=ρ (.bool (k==K))/\dV w w':=by
 go_in
 go_wp2
 go_ret;exact⟨rfl,(aq _ _).alloc (Nat.le_refl _) _⟩
theorem MW(a:Option Addr)(n cap:Nat)(os:List jv)(K:Int)(bo:Nat)(w:dN)(hn:n<=1000000)(T:bo<w.heap.size)(h:w.cell? ⟨bo,0,ν⟩=μ (ι κ K))(V:iK w a n os):
 eM eN 254 #[σ a n cap,.func (.func 243) #[] #[π (μ ⟨bo,0,ν⟩)]] w λe w'=>∃r:Int,e=ρ (ι κ r)/\(decide (0<=r)=os.any (λo=>o.1==K))/\dV w w':=by
 go_in
 go_wp2
 go_loopw [8] (λi wr=>∃k:Nat,k<=n/\i=ι κ k/\(os.take k).any (λo=>o.1==K)=false/\dV w wr) (λi _=>n-(eP i).toNat)
 case atStart=>exact⟨0,Nat.zero_le _,rfl,rfl,aq _ _⟩
 case round=>
  obtain⟨k,hk,rfl,M,Z⟩:=hrel;have X:Hid _:=M;clear M;by_cases A:k<n
  ·have E:=V.below Z;rcases E.2 with h0|⟨b,off,rfl,hc⟩
   ·omega
   have G:k<os.length:=by rw[V.1];exact A
   obtain⟨c1,c2⟩:=hc k G;have J:wr.cell? ⟨bo,0,ν⟩=μ (ι κ K):=(Z.cell (p:=⟨bo,0,ν⟩) T).trans h;have Y:bo<wr.heap.size:=Nat.lt_of_lt_of_le T Z.size;have Q:Hid (os.take (k+1)=os.take k++ [os[k]]):=aw G;have S:Hid (os[k] ∈os):=aD _;generalize os[k] =o at c1 c2 Q S;clear hc;have nh:(k:Int)<(n:Int):=dP;cases H:(o.1==K)
   ·go_wp2_with(fail);refine(zf o.1 o.2 K bo wr Y J).mono ?_;rintro e y ⟨rfl,U⟩
    go_wp2
    go_roundw
    case rel=>exact⟨k+1,dP,by go_num,by rw[Q.out,List.any_append,X.out];simp[H],gD Z U⟩
    case measure=>simp[eP];omega
   ·go_wp2_with(fail);refine(zf o.1 o.2 K bo wr Y J).mono ?_;rintro e y ⟨rfl,U⟩
    go_wp2
    go_ret;refine⟨_,rfl,?_,gD Z U⟩;have D:os.any (λo=>o.1==K)=true:=List.any_eq_true.mpr ⟨o,S.out,H⟩;rw[D];simp
  ·have u:os.take k=os:=aC (by rw[V.1];omega);rw[u]at X
   go_wp2
   go_ret;exact⟨-1,rfl,by rw[X.out];rfl,Z⟩
theorem EO(a:Option Addr)(n cap:Nat)(os:List jv)(K:Int)(bo:Nat)(w:dN)(Y:n<=1000000)(Z:bo<w.heap.size)(h:w.cell? ⟨bo,0,ν⟩=μ (ι κ K))(X:iK w a n os):
 eM eN 242 #[σ a n cap,.func (.func 243) #[] #[π (μ ⟨bo,0,ν⟩)]] w λe w'=>e=ρ (.bool (os.any (λo=>o.1==K)))/\dV w w':=by
 go_in
 go_wp2_with(fail);refine(MW a n cap os K bo w Y Z h X).mono ?_;rintro e w1 ⟨r,rfl,V,hb⟩
 go_wp2
 go_ret;exact⟨by rw[<-V];rfl,hb⟩
def oK:List jv->List jv->Nat
 |_,[] =>0
 |seen,o::r=>if(vU o.1&&vU o.2)=false then 1 else if seen.any (λx=>x.1==o.1)=true then 3 else oK (seen++ [o]) r
theorem yq(a:Option Addr)(n cap:Nat)(os:List jv)(w:dN)(hn:n<=1000000)(Gy:n<=cap)(E:iK w a n os):
 eM eN 227 #[σ a n cap] w λe w'=>e=ρ (iP (oK [] os))/\dV w w':=by
 go_in
 go_wp2
 go_loopw [7] (λi wr=>∃k:Nat,k<=n/\i=ι κ k/\oK [] os=oK (os.take k) (os.drop k)/\dV w wr) (λi _=>n-(eP i).toNat)
 case atStart=>exact⟨0,Nat.zero_le _,rfl,rfl,aq _ _⟩
 case round=>
  obtain⟨k,hk,rfl,u,S⟩:=hrel;have hF:Hid _:=u;clear u;by_cases h:k<n
  ·have J:=E.below S;have T:=J.take k dP;rcases J.2 with h0|⟨b,off,rfl,hc⟩
   ·omega
   have A:k<os.length:=by rw[E.1];exact h
   obtain⟨c1,c2⟩:=hc k A;have y:Hid (os.take (k+1)=os.take k++ [os[k]]):=aw A;have U:Hid (os.drop k=os[k] ::os.drop (k+1)):=aO A;generalize os[k] =o at c1 c2 y U;clear hc;have nh:(k:Int)<(n:Int):=dP;have M:dV w (wr.alloc (γ #[ι κ o.1,ι κ o.2] 276)):=S.alloc S.size _;have t:iK (wr.alloc (γ #[ι κ o.1,ι κ o.2] 276)) (μ ⟨b,off,ν⟩) k (os.take k):=T.below ((aq _ _).alloc (Nat.le_refl _) _);have G:(wr.alloc (γ #[ι κ o.1,ι κ o.2] 276)).cell? ⟨wr.heap.size,0,ν⟩=μ (ι κ o.1):=aj wr #[ι κ o.1,ι κ o.2] 276 (0,0) 0;have Q:=EO (μ ⟨b,off,ν⟩) k cap (os.take k) o.1 wr.heap.size (wr.alloc (γ #[ι κ o.1,ι κ o.2] 276)) dP gN G t;clear T t J;cases X:vU o.1
   ·have Z:Hid (oK [] os=1):=by
     show oK [] os=1;rw[hF.out,U.out,oK,ag (by simp[X])]
    go_wp2_with(fail);refine(kT o.1 _).mono ?_;rintro e Y ⟨rfl,rfl⟩;go_wp2_with(fail);rw[Z.out];go_ret;exact⟨rfl,M⟩
   ·cases H:vU o.2
    ·have Z:Hid (oK [] os=1):=by
      show oK [] os=1;rw[hF.out,U.out,oK,ag (by simp[H])]
     go_wp2_with(fail);refine(kT o.1 _).mono ?_;rintro e Y ⟨rfl,rfl⟩;go_wp2_with(fail);refine(kT o.2 _).mono ?_;rintro e Y ⟨rfl,rfl⟩;go_wp2_with(fail);rw[Z.out];go_ret;exact⟨rfl,M⟩
    ·cases V:(os.take k).any (λx=>x.1==o.1)
     ·have Z:Hid (oK [] os=oK (os.take (k+1)) (os.drop (k+1))):=by
       show oK [] os=_;rw[hF.out,U.out,oK,ae (by simp[X,H]),ae (by simp[V]),y.out]
      rw[V]at Q;clear V;go_wp2_with(fail);refine(kT o.1 _).mono ?_;rintro e Y ⟨rfl,rfl⟩;go_wp2_with(fail);refine(kT o.2 _).mono ?_;rintro e Y ⟨rfl,rfl⟩;go_wp2_with(fail);refine Q.mono ?_;rintro e Y ⟨rfl,D⟩
      go_wp2
      go_roundw
      case rel=>exact⟨k+1,dP,by go_num,Z.out,gD M D⟩
      case measure=>simp[eP];omega
     ·have Z:Hid (oK [] os=3):=by
       show oK [] os=3;rw[hF.out,U.out,oK,ae (by simp[X,H]),ag V]
      rw[V]at Q;clear V;go_wp2_with(fail);refine(kT o.1 _).mono ?_;rintro e Y ⟨rfl,rfl⟩;go_wp2_with(fail);refine(kT o.2 _).mono ?_;rintro e Y ⟨rfl,rfl⟩;go_wp2_with(fail);refine Q.mono ?_;rintro e Y ⟨rfl,D⟩;go_wp2_with(fail);rw[Z.out];go_ret;exact⟨rfl,gD M D⟩
  ·have Z:Hid (oK [] os=0):=by
    show oK [] os=0;have j:os.drop k=[] :=aU (by rw[E.1];omega);rw[hF.out,j,oK]
   go_wp2_with(fail);rw[Z.out];go_ret;exact⟨rfl,S⟩
def ju(code id:Int)(os:List jv):Nat:=
 if code<1 \/6<code \/vU id=false then 1
 else if 8<os.length then 2
 else if 5<=code/\0<os.length then 3
 else oK [] os
theorem rQ(code id:Int)(a:Option Addr)(n cap:Nat)(os:List jv)(w:dN)(H:n<=1000000)(Q:n<=cap)(T:iK w a n os):
 eM eN 209 #[.agg #[ι κ code,ι κ id,σ a n cap]] w λe w'=>e=ρ (iP (ju code id os))/\dV w w':=by
 have hl:=T.1;have Y:dV w (w.alloc (γ #[ι κ code,ι κ id,σ a n cap] 37)):=(aq _ _).alloc (Nat.le_refl _) _;have S:=yq a n cap os (w.alloc (γ #[ι κ code,ι κ id,σ a n cap] 37)) H Q (T.below Y);by_cases M:code<1
 ·have Z:Hid (ju code id os=1):=by show ju code id os=1;simp[ju,M]
  go_in
  go_wp2_with(fail);rw[Z.out];go_ret;exact⟨rfl,Y⟩
 ·by_cases J:6<code
  ·have Z:Hid (ju code id os=1):=by show ju code id os=1;simp[ju,J]
   go_in
   go_wp2_with(fail);rw[Z.out];go_ret;exact⟨rfl,Y⟩
  ·cases V:vU id
   ·have Z:Hid (ju code id os=1):=by show ju code id os=1;simp[ju,V]
    go_in
    go_wp2_with(fail);refine(kT id _).mono ?_;rintro e X ⟨rfl,rfl⟩;go_wp2_with(fail);rw[Z.out];go_ret;exact⟨rfl,Y⟩
   ·by_cases h4:(8:Int)<(n:Int)
    ·have Z:Hid (ju code id os=2):=by
      show ju code id os=2;rw[ju,ae (by simp[V];omega),ag dP]
     go_in
     go_wp2_with(fail);refine(kT id _).mono ?_;rintro e X ⟨rfl,rfl⟩;go_wp2_with(fail);rw[Z.out];go_ret;exact⟨rfl,Y⟩
    ·by_cases h5:5<=code
     ·by_cases h6:(0:Int)<(n:Int)
      ·have Z:Hid (ju code id os=3):=by
        show ju code id os=3;rw[ju,ae (by simp[V];omega),ae dP,ag dP]
       go_in
       go_wp2_with(fail);refine(kT id _).mono ?_;rintro e X ⟨rfl,rfl⟩;go_wp2_with(fail);rw[Z.out];go_ret;exact⟨rfl,Y⟩
      ·have Z:Hid (ju code id os=oK [] os):=by
        show ju code id os=_;rw[ju,ae (by simp[V];omega),ae dP,ae dP]
       go_in
       go_wp2_with(fail);refine(kT id _).mono ?_;rintro e X ⟨rfl,rfl⟩;go_wp2_with(fail);refine S.mono ?_;rintro e X ⟨rfl,U⟩;go_wp2_with(fail);rw[Z.out];go_ret;exact⟨rfl,gD Y U⟩
     ·have Z:Hid (ju code id os=oK [] os):=by
       show ju code id os=_;rw[ju,ae (by simp[V];omega),ae dP,ae dP]
      go_in
      go_wp2_with(fail);refine(kT id _).mono ?_;rintro e X ⟨rfl,rfl⟩;go_wp2_with(fail);refine S.mono ?_;rintro e X ⟨rfl,U⟩;go_wp2_with(fail);rw[Z.out];go_ret;exact⟨rfl,gD Y U⟩
theorem Al(x:Int):vU x=true↔0<=x/\x<=255:=by simp[vU]
open St
def zg(C:mK)(r b n:Nat)(H:Nat->HP):Nat->HP:=
 if(H b).far=0 \/C b n=0 \/n=r then H
 else if EM ⟨n,(H b).far+C b n,(H b).tf⟩ (H n)=true then Bc H n ⟨n,(H b).far+C b n,(H b).tf⟩else H
def tT(C:mK)(r b:Nat)(H:Nat->HP):Nat->Nat->HP
 |0=>H
 |n+1=>zg C r b n (tT C r b H n)
def O0(C:mK)(r:Nat)(H:Nat->HP):Nat->Nat->HP
 |0=>H
 |b+1=>tT C r b (O0 C r H b) 7
def qb(H:Nat->HP)(m:Int):Prop:=∀n,0<=(H n).far/\(H n).far<=m
theorem qb.step {r b n:Nat} {H:Nat->HP} {m:Int} (h:qb H m)(hC:∀x y,0<=C x y/\C x y<=20):qb (zg C r b n H) (m+20):=by
 intro x;have hx:=h x;have hb:=h b;have hc:=hC b n;unfold zg;split
 ·omega
 ·split
  ·simp only[Bc];split
   ·simp only;omega
   ·omega
  ·omega
theorem qb.row {C:mK} {r b:Nat} {H:Nat->HP} {m:Int} (h:qb H m)(hC:∀x y,0<=C x y/\C x y<=20):∀n,qb (tT C r b H n) (m+20*n)
 |0=>λx=>by have:=h x;simp only[tT];omega
 |n+1=>λx=>by
  have:=(qb.step (C:=C) (r:=r) (b:=b) (n:=n) (qb.row (r:=r) (b:=b) h hC n) hC) x;simp only[tT];push_cast;omega
theorem qb.go {C:mK} {r:Nat} {H:Nat->HP} {m:Int} (h:qb H m)(hC:∀x y,0<=C x y/\C x y<=20):∀b,qb (O0 C r H b) (m+140*b)
 |0=>λx=>by have:=h x;simp only[O0];omega
 |b+1=>λx=>by
  have:=(qb.row (C:=C) (r:=r) (b:=b) (qb.go (r:=r) h hC b) hC 7) x;simp only[O0];push_cast at this⊢;omega
theorem Jx {a w:dN} {o:Option Nat} (h:a.grownBy w o):a.grownBy w.drew o:=⟨h.os,h.tape,h.output,h.size,h.block⟩
theorem P2(C:mK)(r:Nat)(hr:r<7)(H:Nat->HP)(B:Nat)(m:Int)(w:dN)(hB:iM w B (hC H) 259)(WU:∀x y,0<=C x y/\C x y<=20)(hm:qb H m)(zU:m<=1000000):
 eM eN 165 #[π (μ ⟨B,0,ν⟩),.agg (gC C),ι κ (r:Int)] w λe w'=>e=ρ (τ #[])/\iM w' B (hC (O0 C r H 7)) 259/\w.grownBy w' (μ B):=by
 obtain⟨c,hc⟩:=fP (gC C);rw[hc];have hr7:(r:Int)<7:=dP
 go_in
 go_wp2_with(fail);obtain⟨W0,mL⟩:=fP (w.alloc (γ c 256));have j:dV w W0:=by rw[<-mL];exact gM _ _
 have vT:w.grownBy W0 (μ B):=⟨j.os,j.tape,j.output,j.size,λi hi _=>j.block i hi⟩
 have Ak:iM W0 w.heap.size c 256:=by rw[<-mL];exact iM.new w c _
 have vp:iM W0 B (hC (O0 C r H 0)) 259:=hB.below j;have hBC:B<w.heap.size:=hB.lt;rw[mL];clear mL j hB;obtain⟨Q,Gt⟩:=fP (w.heap.size);have vv:w.heap.size<=Q:=dP;rw[Gt]at Ak hBC;rw[Gt];clear Gt;have HFL:=λb=>hm.go (r:=r) WU b;have HM:Hid _:=HFL;clear HFL hm
 go_loopw [9] (λv wr=>∃b:Nat,b<=7/\v=ι κ b/\iM wr B (hC (O0 C r H b)) 259/\iM wr Q c 256/\w.grownBy wr (μ B)) (λv _=>7-(eP v).toNat)
 case atStart=>exact⟨0,dP,rfl,vp,Ak,vT⟩
 case round=>
  clear Ak vp vT;obtain⟨b,hb,rfl,V,A,E⟩:=hrel;by_cases WO:b<7
  ·have WQ:(b:Int)<7:=dP;have X:Hid _:=V;have S:Hid _:=A;have Z:Hid _:=E;have TC:Hid (O0 C r H (b+1)=tT C r b (O0 C r H b) 7):=rfl;have hmb:=HM.out b;clear V A E;obtain⟨T,hHb⟩:=fP (O0 C r H b);rw[hHb]at X TC hmb;have HMB:Hid (∀n,qb (tT C r b T n) (m+140*b+20*n)):=λn=>hmb.row WU n;clear hmb hHb
   go_wp2
   go_loopw [12] (λv wr=>∃n:Nat,n<=7/\v=ι κ n/\iM wr B (hC (tT C r b T n)) 259/\iM wr Q c 256/\w.grownBy wr (μ B)) (λv _=>7-(eP v).toNat)
   case atStart=>exact⟨0,dP,rfl,X.out,S.out,Z.out⟩
   case round=>
    clear X S Z;obtain⟨n,hn,rfl,V,A,E⟩:=hrel;by_cases TA:n<7
    ·have PU:(n:Int)<7:=dP;have MX:Hid (tT C r b T (n+1)=zg C r b n (tT C r b T n)):=rfl;have Dx:=HMB.out n b;obtain⟨G,hGe⟩:=fP (tT C r b T n);rw[hGe]at V MX Dx;clear hGe;have r1:wr.cell? ⟨Q,b*7+n,ν⟩=μ (ι κ (C b n)):=(A.cell _).trans (by rw[<-hc];exact yj C b n WO TA);obtain⟨p0,p1,p2⟩:=EK G b WO;have b0:=(V.cell (b*3)).trans p0;have b1:=(V.cell (b*3+1)).trans p1;have b2:=(V.cell (b*3+2)).trans p2;clear p0 p1 p2;have X:Hid _:=V;have S:Hid _:=A;have Z:Hid _:=E;clear V A E;by_cases t:(G b).far=0
     ·have vV:((G b).far==0)=true:=by simpa using t
      have U:Hid (tT C r b T (n+1)=G):=by show _=_;rw[MX.out,zg,ag (.inl t)]
      generalize (G b).far=bf at b1 vV;clear t
      go_wp2
      go_roundw
      case rel=>exact⟨n+1,dP,by go_num,by rw[U.out];exact X.out,S.out,Z.out⟩
      case measure=>simp[eP];omega
     have vV:((G b).far==0)=false:=by simpa using t
     by_cases h2:C b n=0
     ·have yo:(C b n==0)=true:=by simpa using h2
      have U:Hid (tT C r b T (n+1)=G):=by show _=_;rw[MX.out,zg,ag (.inr (.inl h2))]
      generalize (G b).far=bf at b1 vV;generalize C b n=J at r1 yo;clear t h2
      go_wp2
      go_roundw
      case rel=>exact⟨n+1,dP,by go_num,by rw[U.out];exact X.out,S.out,Z.out⟩
      case measure=>simp[eP];omega
     have yo:(C b n==0)=false:=by simpa using h2
     by_cases h3:n=r
     ·have rE:((n:Int)==(r:Int))=true:=by simp[h3]
      have U:Hid (tT C r b T (n+1)=G):=by show _=_;rw[MX.out,zg,ag (.inr (.inr h3))]
      generalize (G b).far=bf at b1 vV;generalize C b n=J at r1 yo;clear t h2 h3
      go_wp2
      go_roundw
      case rel=>exact⟨n+1,dP,by go_num,by rw[U.out];exact X.out,S.out,Z.out⟩
      case measure=>simp[eP];omega
     have rE:((n:Int)==(r:Int))=false:=by
      have:¬(n:Int)=(r:Int):=dP;simpa using this
     have U:Hid (tT C r b T (n+1)=if EM ⟨n,(G b).far+C b n,(G b).tf⟩ (G n)=true then Bc G n ⟨n,(G b).far+C b n,(G b).tf⟩else G):=by
      show _=_;rw[MX.out,zg,ae (by simp[t,h2,h3])]
     have vW:=WU b n;have SN:fC.wrap ((G b).far+C b n)=(G b).far+C b n:=aM _ ⟨dP,dP⟩;have M:=Gw ⟨n,(G b).far+C b n,(G b).tf⟩ (G n);obtain⟨p0,p1,p2⟩:=EK G n TA;have HN:Hid (∀W,iM W B (hC G) 259->W.cell? ⟨B,n*3,ν⟩=μ (ι κ (G n).dst)/\W.cell? ⟨B,n*3+1,ν⟩=μ (ι κ (G n).far)/\W.cell? ⟨B,n*3+2,ν⟩=μ (ι κ (G n).tf)):=
      λW hW=>⟨(hW.cell _).trans p0,(hW.cell _).trans p1,(hW.cell _).trans p2⟩
     clear p0 p1 p2 MX t h2 h3 Dx vW;generalize EM ⟨n,(G b).far+C b n,(G b).tf⟩ (G n)=bt at U M;simp only at M;generalize EJ:(G b).far+C b n=ff at U M SN;generalize (G b).far=bf at b1 vV EJ SN;generalize C b n=J at r1 yo EJ SN;generalize (G b).tf=bx at b2 U M;generalize (G n).dst=nd at HN M;generalize (G n).far=nf at HN M;generalize (G n).tf=nx at HN M;have aeN:fC.wrap (bf+J)=ff:=by rw[EJ];exact SN
     have d0:wr.drew.cell? ⟨B,b*3+1,ν⟩=μ (ι κ bf):=b1;have d1:wr.drew.cell? ⟨B,b*3+2,ν⟩=μ (ι κ bx):=b2;have d2:wr.drew.cell? ⟨Q,b*7+n,ν⟩=μ (ι κ J):=r1;have lB:B<wr.heap.size:=iM.lt X.out;have lC:Q<wr.heap.size:=iM.lt S.out;have kz:=gM wr (γ #[ι κ 0,ι κ 0,ι κ 0] 98);have e0:=(kz.cell (p:=⟨B,b*3+1,ν⟩) lB).trans b1;have e1:=(kz.cell (p:=⟨B,b*3+2,ν⟩) lB).trans b2;have e2:=(kz.cell (p:=⟨Q,b*7+n,ν⟩) lC).trans r1;clear EJ SN kz
     go_upto_region 8 with fail
     clear vV yo rE
     go_region
     all_goals
      obtain⟨W3,vj⟩:=fP ((wr.alloc (γ #[ι κ (n:Int),ι κ ff,ι κ bx] 98)).drew);have k3:dV wr W3:=by rw[<-vj];exact below_drewN (gM _ _) 1
      have hY:iM W3 wr.heap.size #[ι κ (n:Int),ι κ ff,ι κ bx] 98:=by rw[<-vj];exact iM.drewN (iM.new wr _ _) 1
      obtain⟨Y,MT⟩:=fP (wr.heap.size);have WN:=iM.below X.out k3;have Hc3:Hid _:=iM.below S.out k3;have I7:Hid (w.grownBy W3 (μ B)):=⟨k3.os.trans Z.out.os,k3.tape.trans Z.out.tape,k3.output.trans Z.out.output,Nat.le_trans Z.out.size k3.size,λi hi D=>(k3.block i (Nat.lt_of_lt_of_le hi Z.out.size)).trans (Z.out.block i hi D)⟩
      have HYB:Hid (B<Y/\Q<Y):=by show _/\_;rw[<-MT];exact⟨lB,lC⟩
      rw[MT]at hY;have HY:Hid _:=hY;have Zq:Hid _:=WN;have HF:Hid (∀W,dV W3 W->(W.cell? ⟨Y,0,ν⟩=μ (ι κ (n:Int))/\W.cell? ⟨Y,1,ν⟩=μ (ι κ ff)/\W.cell? ⟨Y,2,ν⟩=μ (ι κ bx))/\W.cell? ⟨B,n*3,ν⟩=μ (ι κ nd)/\W.cell? ⟨B,n*3+1,ν⟩=μ (ι κ nf)/\W.cell? ⟨B,n*3+2,ν⟩=μ (ι κ nx)):=by
       intro W hW;have q:=iM.below HY.out hW;exact⟨⟨iM.cell q 0,iM.cell q 1,iM.cell q 2⟩,HN.out W (iM.below Zq.out hW)⟩
      have KD:dV W3 W3.drew:=below_drewN (aq _ _) 1;have F0:=HF.out _ KD;rw[vj,MT];clear vj k3 MT WN hY d0 d1 d2 e0 e1 e2 b0 b1 b2 r1 lB lC aeN
      go_wp2
      go_region_held3(λx=>(x.cell? ⟨Y,0,ν⟩=μ (ι κ (n:Int))/\x.cell? ⟨Y,1,ν⟩=μ (ι κ ff)/\x.cell? ⟨Y,2,ν⟩=μ (ι κ bx))/\x.cell? ⟨B,n*3,ν⟩=μ (ι κ nd)/\x.cell? ⟨B,n*3+1,ν⟩=μ (ι κ nf)/\x.cell? ⟨B,n*3+2,ν⟩=μ (ι κ nx))
       (first|assumption|exact F0|exact F1)
       ((go_at_call 205;refine(M _).mono ?_;rintro e w5 ⟨rfl,k5⟩;have F1:=HF.out _ (gD KD k5)))
      all_goals
       have u:=gD KD k5;have Zu:=iM.below Zq.out u;have HG5:Hid _:=Zu;have Hc5:Hid _:=iM.below Hc3.out u;have h:Hid (w.grownBy w5 (μ B)):=⟨u.os.trans I7.out.os,u.tape.trans I7.out.tape,u.output.trans I7.out.output,Nat.le_trans I7.out.size u.size,λi hi D=>(u.block i (Nat.lt_of_lt_of_le hi I7.out.size)).trans (I7.out.block i hi D)⟩
       obtain⟨⟨y0,y1,y2⟩,g0,g1,g2⟩:=F1;have f0:=Zu.frozen (n*3);have f1:=Zu.frozen (n*3+1);have f2:=Zu.frozen (n*3+2);have lB:=Zu.lt;clear HF HN M F0 k5 KD u Zu;cases bt
       ·have Zv:Hid (tT C r b T (n+1)=G):=by show _=_;rw[U.out];simp
        go_wp2
        go_roundw
        case rel=>exact⟨n+1,dP,by go_num,by rw[Zv.out];exact HG5.out,Hc5.out,h.out⟩
        case measure=>simp[eP];omega
       ·have Zv:Hid (tT C r b T (n+1)=Bc G n ⟨n,ff,bx⟩):=by show _=_;rw[U.out];simp
        go_wp2
        go_region
        all_goals
         go_wp2
         go_roundw
         case rel=>
          have D:Q≠B:=by have:=h.out.size;omega
          refine⟨n+1,dP,by go_num,?_,iM.other (iM.other (iM.other Hc5.out D _) D _) D _,Jx (nJ (nJ (nJ h.out _ _) _ _) _ _)⟩;rw[Zv.out,<-PJ _ n _ TA];exact iM.set (iM.set (iM.set HG5.out _ _) _ _) _ _
         case measure=>simp[eP];omega
    ·have PU:¬(n:Int)<7:=dP;have D:n=7:=dP;have X:Hid _:=V;have S:Hid _:=A;have Z:Hid _:=E;clear V A E
     go_wp2
     go_roundw
     case rel=>exact⟨b+1,dP,by go_num,by rw[TC.out,<-D];exact X.out,S.out,Z.out⟩
     case measure=>simp[eP];omega
  ·have WQ:¬(b:Int)<7:=dP;have Vw:b=7:=dP;have X:Hid (iM wr B (hC (O0 C r H 7)) 259):=by rw[<-Vw];exact V
   have Z:Hid _:=E;clear V A E Vw
   go_wp2
   first|go_end0|refine iq rfl rfl ?_
   exact⟨rfl,X.out,Z.out⟩
def pF(C:mK)(r:Nat):Nat->Nat->HP
 |0=>m7 C r 7
 |k+1=>O0 C r (pF C r k) 7
def xd(C:mK)(r:Nat):List HP:=tQ (pF C r 6) 7
theorem zh {C:mK} (r:Nat)(hC:∀x y,0<=C x y/\C x y<=20):∀k,qb (pF C r k) (20+980*k)
 |0=>λn=>by
  simp only[pF,m7];have:=hC r n;split
  ·simp only;omega
  ·simp[HP.zero]
 |k+1=>λn=>by
  have:=(zh r hC k).go (r:=r) hC 7 n;simp only[pF];push_cast at this⊢;omega
theorem Gz(hC:∀x y,0<=C x y/\C x y<=20):∀x y,0<=nY C x y/\nY C x y<=20:=by
 intro x y;have:=hC x y;simp only[nY];split<;>omega
theorem P4(a:Option Addr)(n cap:Nat)(S:Nat->SV)(E:Nat->List jv)(r:Nat)(w:dN)(h:vm w a n S E)(hn:n<=1000)(iC:∀j,j<n->ox (S j).own (S j).seq (E j)=0)(kD:1<=r)(hr6:r<=6):
 eM eN 116 #[σ a n cap,ι κ (r:Int)] w λe w'=>∃b c,e=ρ (σ b (xd (nY (kZ S E n)) r).length c)/\Zm w w' b (xd (nY (kZ S E n)) r).length (xd (nY (kZ S E n)) r)/\dV w w':=by
 have Zw:=MS a n cap S E w h hn iC;have hz:=yk;have mZ:=Gr;have Gv:=Gz (ze S E n iC);have D:Hid _:=Gv;have r1:¬(r:Int)<1:=dP;have r2:¬6<(r:Int):=dP;obtain⟨Z,hZ⟩:=fP (gC (λ_ _=>0));obtain⟨T,Zo⟩:=fP (hC (λ_=>HP.zero));have zs:Z.size=49:=by rw[<-hZ];exact oJ _
 have zs2:T.size=21:=by rw[<-Zo];exact rh _
 rw[hZ]at hz;rw[Zo]at mZ;clear hZ Zo Gv iC
 go_in
 go_wp2_with(fail);refine Zw.mono ?_;rintro e w1 ⟨rfl,k1⟩;have wQ:=PT (kZ S E n) w1;obtain⟨C,u⟩:=fP (nY (kZ S E n));rw[u]at wQ D;have HCe:Hid _:=u;clear Zw u;go_wp2_with(fail);refine wQ.mono ?_;rintro e U ⟨rfl,k2⟩;have lR:=gD k1 k2;clear wQ k1 k2;have gs:(gC C).size=49:=oJ _;have g1:(gC C).all (·.oneCell')=true:=Jt _;have tO:(eN.info? 256).map (·.size)=μ (gC C).size:=by rw[gs];exact uR
 have pY:Z.size=(gC C).size:=by rw[gs,zs]
 have y:iM (U.alloc (γ Z 256)) U.heap.size Z 256:=iM.new _ _ _;have CK:iM ((U.alloc (γ Z 256)).setRow U.heap.size (gC C)) U.heap.size (gC C) 256:=y.setRow;have Hb3:Hid (dV w ((U.alloc (γ Z 256)).setRow U.heap.size (gC C))):=nK (lR.alloc lR.size _) lR.size _;have Ll:=MV C r dP ((U.alloc (γ Z 256)).setRow U.heap.size (gC C));have I5:Hid _:=CK;have Hs2:Hid _:=lR.size;clear lR;go_wp2_with(first
  |refine mV _ rfl (.tmp 5) 256 rfl U.heap.size (gC C) _ _ rfl CK underlying256 tO ?_
  |refine lp _ rfl (.tmp 5) (.tmp 15) 256 rfl U.heap.size Z (gC C) rfl rfl y pY tO g1 ?_)
 refine Ll.mono ?_;rintro e V ⟨rfl,k3⟩;have ya:=iM.below I5.out k3;have rO:=gD Hb3.out k3;obtain⟨X,I6⟩:=fP (U.heap.size);have HsX:Hid (w.heap.size<=X):=by show _<=_;rw[<-I6];exact Hs2.out
 rw[I6]at ya;rw[I6];have G:Hid (X<V.heap.size):=ya.lt;clear Ll y CK I5 Hb3 k3 Hs2 I6 tO pY;obtain⟨F,hF⟩:=fP (hC (m7 C r 7));have fs:F.size=21:=by rw[<-hF];exact rh _
 have f1:F.all (·.oneCell')=true:=by rw[<-hF];exact PI _
 have hi2:(eN.info? 259).map (·.size)=μ F.size:=by rw[fs];exact EL
 have aaA:T.size=F.size:=by rw[fs,zs2]
 rw[hF];have y:iM (V.alloc (γ T 259)) V.heap.size T 259:=iM.new _ _ _;have hY4:iM ((V.alloc (γ T 259)).setRow V.heap.size F) V.heap.size F 259:=y.setRow;have hX4:iM ((V.alloc (γ T 259)).setRow V.heap.size F) X (gC C) 256:=(ya.below (gM _ _)).PG (by have:=G.out;omega);have H:Hid (dV w ((V.alloc (γ T 259)).setRow V.heap.size F)):=nK (rO.alloc rO.size _) rO.size _;have J:Hid (iM ((V.alloc (γ T 259)).setRow V.heap.size F) V.heap.size (hC (pF C r 0)) 259):=by show iM _ _ (hC (m7 C r 7)) _;rw[hF];exact hY4
 have M:Hid _:=hX4;have Zv:Hid _:=rO.size;clear rO hF ya;go_wp2_with(first
  |refine lp _ rfl (.tmp 6) (.tmp 18) 259 rfl V.heap.size T F rfl rfl y aaA hi2 f1 ?_)
 obtain⟨Y,MT⟩:=fP (V.heap.size);rw[MT]at J M H G Zv;rw[MT];clear MT y hY4 hX4 hi2 aaA fs f1;obtain⟨W4,sK⟩:=fP ((V.alloc (γ T 259)).setRow Y F);rw[sK]at J M H;rw[sK];clear sK;have HRF:=zh r D.out;have aeR:Hid _:=HRF;clear HRF
 go_loopw [19] (λv wr=>∃k:Nat,k<=6/\v=ι κ k/\iM wr X (gC C) 256/\iM wr Y (hC (pF C r k)) 259/\dV w wr) (λv _=>6-(eP v).toNat)
 case atStart=>exact⟨0,dP,rfl,M.out,J.out,H.out⟩
 case round=>
  clear M J H;obtain⟨k,hk,rfl,hX,hY,iA⟩:=hrel;by_cases hk6:k<6
  ·have aaB:(k:Int)<6:=dP;have tO:(eN.info? 256).map (·.size)=μ (gC C).size:=by rw[gs];exact uR
   have hgo:=P2 C r dP (pF C r k) Y (20+980*k) wr hY D.out (aeR.out k) dP;have HX:Hid _:=hX;have Q:Hid _:=iA;clear hY iA;go_wp2_with(first
    |refine mV _ rfl (.tmp 5) 256 rfl X (gC C) _ _ rfl hX underlying256 tO ?_)
   refine hgo.mono ?_;rintro e w5 ⟨rfl,hY5,A⟩;have hXl:=iM.lt HX.out;have HX5:Hid (iM w5 X (gC C) 256):=iM.keep HX.out (A.block X hXl (λe=>by have:=G.out;simp at e;omega));have HY5:Hid _:=hY5;have HB5:Hid (dV w w5):=⟨A.os.trans Q.out.os,A.tape.trans Q.out.tape,A.output.trans Q.out.output,Nat.le_trans Q.out.size A.size,λi hi=>(A.block i (Nat.lt_of_lt_of_le hi Q.out.size) (λe=>by have:=Zv.out;simp at e;omega)).trans (Q.out.block i hi)⟩
   clear hgo hY5 A hX tO
   go_wp2
   go_roundw
   case rel=>exact⟨k+1,dP,by go_num,HX5.out,HY5.out,HB5.out⟩
   case measure=>simp[eP];omega
  ·have aaB:¬(k:Int)<6:=dP;have hke:k=6:=dP;have t:=PY (pF C r k) Y wr hY;have HL:Hid (tQ (pF C r k) 7=xd (nY (kZ S E n)) r):=by show _=_;rw[HCe.out,hke];rfl
   rw[HL.out]at t;clear hX hY hke HL;go_wp2_with(fail);refine t.mono ?_;rintro e w5 ⟨ra,rc,rfl,hR,k5⟩;have HR:Hid (Zm w w5 ra (xd (nY (kZ S E n)) r).length (xd (nY (kZ S E n)) r)):=⟨hR.r,λx e=>Nat.le_trans iA.size (hR.nw x e)⟩
   have Q:Hid _:=gD iA k5;clear t hR k5 iA
   go_wp2
   go_ret
   first|exact⟨_,_,rfl,HR.out,Q.out⟩|exact⟨_,⟨_,rfl⟩,HR.out,Q.out⟩
theorem iM.drew {w:dN} {B:Nat} {C:Array Value} {t:TypeId} (h:iM w B C t):iM w.drew B C t:=h
abbrev WW:=Int×Bool×Int
def xe(me f s:Int):WW:=if f=me then(0,false,0)else(f,s==me,4)
def iV(p:WW):WW:=if p.2.2<=1 then(0,false,0)else(p.1,p.2.1,p.2.2-1)
theorem xf(w:dN):(zeroValue 116).run eN w=.ok (.agg #[ι κ 0,.bool false,ι κ 0]) w:=gJ
theorem Dy(w:dN):(zeroValue 230).run eN w=.ok (.agg #[ι κ 0,ι κ 0]) w:=gJ
theorem P5(a c me f s:Int)(b:Bool)(w:dN):eM eN 187 #[.agg #[ι κ a,.bool b,ι κ c],ι κ me,.agg #[ι κ f,ι κ s]] w λe w'=>
 e=ρ (.agg #[ι κ (xe me f s).1,.bool (xe me f s).2.1,ι κ (xe me f s).2.2])/\dV w w':=by
 have hz:=xf;have hb:∀(A B C:Array Value) (t u v:TypeId),dV w (((w.alloc (γ A t)).alloc (γ B u)).alloc (γ C v)):=λA B C t u v=>((gM _ _).alloc gN _).alloc (by simp;omega) _;cases q:(f==me)
 ·have hv:xe me f s=(f,s==me,4):=by simp at q;simp[xe,q]
  rw[hv];clear hv
  go_in
  go_wp2
  refine aA (v:=.agg #[ι κ f,.bool (s==me),ι κ 4]) (by simp[results,results187,go_sem]) rfl ?_;exact⟨rfl,hb _ _ _ _ _ _⟩
 ·have hv:xe me f s=(0,false,0):=by simp at q;simp[xe,q]
  rw[hv];clear hv
  go_in
  go_wp2
  refine aA (v:=.agg #[ι κ 0,.bool false,ι κ 0]) (by simp[results,results187,go_sem]) rfl ?_;exact⟨rfl,hb _ _ _ _ _ _⟩
theorem P6(a c:Int)(b:Bool)(w:dN)(hc:0<=c)(FP:c<=100):eM eN 84 #[.agg #[ι κ a,.bool b,ι κ c]] w λe w'=>
 e=ρ (.agg #[ι κ (iV (a,b,c)).1,.bool (iV (a,b,c)).2.1,ι κ (iV (a,b,c)).2.2])/\dV w w':=by
 have hz:=xf;have hb:∀(A B:Array Value) (t u:TypeId),dV w ((w.alloc (γ A t)).alloc (γ B u)):=λA B t u=>(gM _ _).alloc gN _;by_cases q:c<=1
 ·have hv:iV (a,b,c)=(0,false,0):=by simp[iV,q]
  rw[hv];clear hv
  go_in
  go_wp2
  refine aA (v:=.agg #[ι κ 0,.bool false,ι κ 0]) (by simp[results,results84,go_sem]) rfl ?_;exact⟨rfl,hb _ _ _ _⟩
 ·have hv:iV (a,b,c)=(a,b,c-1):=by simp[iV,q]
  rw[hv];clear hv
  go_in
  go_wp2
  refine aA (v:=.agg #[ι κ a,.bool b,ι κ (c-1)]) (by simp[results,results84,go_sem]) rfl ?_;exact⟨rfl,hb _ _ _ _⟩
theorem P7(a c me:Int)(b:Bool)(w:dN):eM eN 149 #[.agg #[ι κ a,.bool b,ι κ c],ι κ me] w λe w'=>
 e=ρ (.agg #[ι κ me,ι κ a])/\dV w w':=by
 have hz:=Dy;have hb:∀(A B:Array Value) (t u:TypeId),dV w ((w.alloc (γ A t)).alloc (γ B u)):=λA B t u=>(gM _ _).alloc gN _
 go_in
 go_wp2
 refine aA (v:=.agg #[ι κ me,ι κ a]) (by simp[results,results149,go_sem]) rfl ?_;exact⟨rfl,hb _ _ _ _⟩
open St (u8 oe)
theorem VA(W:dN)(a b:Int)(Y:0<=a)(X:a<=255)(b0:0<=b)(b1:b<=255):(convert 140 9 (σ (μ ⟨W.heap.size,0,ν⟩) 2 2)).run eN (W.alloc (γ #[.int .u8 a,.int .u8 b] 5))=.ok (.string ⟨#[u8 a,u8 b]⟩) (W.alloc (γ #[.int .u8 a,.int .u8 b] 5)):=by
 have h:Row (W.alloc (γ #[.int .u8 a,.int .u8 b] 5)) 1 (σ (μ ⟨W.heap.size,0,ν⟩) 2 2) 2 (iz [u8 a,u8 b]):=by
  refine Row.made W 1 _ _ (0,0) 2 2 _ rfl rfl (Nat.le_refl _) dS (.inl rfl) ?_;intro j u Z;simp only[iz,List.map_cons,List.map_nil,oe a Y X,oe b b0 b1]at Z;simpa using Z
 exact Row.back h 140 9 5 underlying140 underlying5 underlying9
def tE(f s:Int):Bool:=decide (1<=f)&&decide (f<=6)&&decide (0<=s)&&decide (s<=6)
theorem Jy(f s:Int):∀(Q:Prop),(¬1<=f->tE f s=false->Q)->(1<=f->¬f<=6->tE f s=false->Q)->(1<=f->f<=6->¬0<=s->tE f s=false->Q)->(1<=f->f<=6->0<=s->¬s<=6->tE f s=false->Q)->(1<=f->f<=6->0<=s->s<=6->tE f s=true->Q)->Q:=by
 intro Q q1 q2 U T S;by_cases Z:1<=f
 ·by_cases Y:f<=6
  ·by_cases X:0<=s
   ·by_cases V:s<=6
    ·exact S Z Y X V (by simp[tE,Z,Y,X,V])
    ·exact T Z Y X V (by simp[tE,V])
   ·exact U Z Y X (by simp[tE,X])
  ·exact q2 Z Y (by simp[tE,Y])
 ·exact q1 Z (by simp[tE,Z])
theorem uS(f s:Int)(w:dN):eM eN 196 #[.agg #[ι κ f,ι κ s]] w λe w'=>e=ρ (.bool (tE f s))/\dV w w':=by
 refine Jy f s _ ?_ ?_ ?_ ?_ ?_
 all_goals
  intros
  rename_i hv
  rw[hv];clear hv
  go_in
  go_wp2
  go_ret;exact⟨by first|rfl|(simp;omega),gM _ _⟩
theorem GD(f s:Int)(w:dN)(h1:1<=f)(h2:f<=6)(h3:0<=s)(h4:s<=6)(h:tE f s=true):eM eN 148 #[.agg #[ι κ f,ι κ s]] w λe w'=>e=ρ (τ #[.string ⟨#[u8 f,u8 s]⟩,η])/\dV w w':=by
 have Y:=uS f s (w.alloc (γ #[ι κ f,ι κ s] 230));rw[h]at Y;have U:=gM w (γ #[ι κ f,ι κ s] 230);have hA:=iM.new w #[ι κ f,ι κ s] 230;have tU:=λW=>VA W f s dP dP dP dP;clear h
 go_in
 go_wp2_with(fail);refine Y.mono ?_;rintro e X ⟨rfl,k1⟩;have Z:=hA.below k1;have c0:X.cell? ⟨w.heap.size,0,ν⟩=μ (ι κ f):=Z.cell 0;have c1:X.cell? ⟨w.heap.size,1,ν⟩=μ (ι κ s):=Z.cell 1;have l1:w.heap.size<X.heap.size:=Z.lt;have V:=gD U k1;clear hA Z Y k1
 go_wp2
 go_ret2
 exact⟨rfl,V.alloc V.size _⟩
def lL(l:List UInt8):Int×Int×Nat:=
 if l.length=2/\tE ((l.getD 0 0).toNat:Int) ((l.getD 1 0).toNat:Int)=true then(((l.getD 0 0).toNat:Int),((l.getD 1 0).toNat:Int),0)else(0,0,4)
theorem Jz(s:ByteArray)(w:dN):eM eN 186 #[.string s] w λe w'=>e=ρ (τ #[.agg #[ι κ (lL s.data.toList).1,ι κ (lL s.data.toList).2.1],iP (lL s.data.toList).2.2])/\dV w w':=by
 have hz:=Dy;have hl:s.data.toList.length=s.size:=gN;by_cases Y:s.size=2
 ·have b0:0<s.size:=dP;have b1:1<s.size:=dP;have z0:(0:Int)<(s.size:Int):=dP;have z1:(1:Int)<(s.size:Int):=dP;have vT:=s[0].toNat_lt;have jV:=s[1].toNat_lt;have t:((s.size:Int) !=2)=false:=by rw[Y];rfl
  have G:dV w ((w.alloc (γ #[ι κ 0,ι κ 0] 230)).alloc (γ #[ι κ (s[0].toNat:Int),ι κ (s[1].toNat:Int)] 230)).drew:=iZ ((gM _ _).alloc gN _);have M:=(iM.new w #[ι κ 0,ι κ 0] 230).below (gM (w.alloc (γ #[ι κ 0,ι κ 0] 230)) (γ #[ι κ (s[0].toNat:Int),ι κ (s[1].toNat:Int)] 230));have J:iM ((w.alloc (γ #[ι κ 0,ι κ 0] 230)).alloc (γ #[ι κ (s[0].toNat:Int),ι κ (s[1].toNat:Int)] 230)) (w.heap.size+1) #[ι κ (s[0].toNat:Int),ι κ (s[1].toNat:Int)] 230:=iM.F8 _ _ _ _ gN;have Z:Hid (lL s.data.toList=if tE (s[0].toNat:Int) (s[1].toNat:Int)=true then((s[0].toNat:Int),(s[1].toNat:Int),0)else(0,0,4)):=by
   show _=_;unfold lL;rw[mU s 0 b0,mU s 1 b1,hl];simp[Y]
  have HS:Hid _:=Y;clear Y hl
  go_in
  go_wp2
  go_region
  go_wp2_with(fail);obtain⟨Q,U⟩:=fP (((w.alloc (γ #[ι κ 0,ι κ 0] 230)).alloc (γ #[ι κ (s[0].toNat:Int),ι κ (s[1].toNat:Int)] 230)).drew);have u:iM Q w.heap.size #[ι κ 0,ι κ 0] 230:=by rw[<-U];exact M
  have A:iM Q (w.heap.size+1) #[ι κ (s[0].toNat:Int),ι κ (s[1].toNat:Int)] 230:=by rw[<-U];exact J
  rw[U]at G⊢;clear U M J;generalize s[0].toNat=x at*;generalize s[1].toNat=y at*;refine(uS (x:Int) (y:Int) _).mono ?_;rintro e T ⟨rfl,k2⟩;have X:=u.below k2;have E:=A.below k2;have D:T.cell? ⟨w.heap.size,0,ν⟩=μ (ι κ 0):=X.cell 0;have r1:T.cell? ⟨w.heap.size,1,ν⟩=μ (ι κ 0):=X.cell 1;have rf:=X.frozen;have rl:=X.lt;have x0:T.cell? ⟨w.heap.size+1,0,ν⟩=μ (ι κ (x:Int)):=E.cell 0;have x1:T.cell? ⟨w.heap.size+1,1,ν⟩=μ (ι κ (y:Int)):=E.cell 1;have H:=gD G k2;cases V:tE (x:Int) (y:Int)
  ·have S:Hid (lL s.data.toList=(0,0,4)):=by show _=_;rw[Z.out,ae (by simp[V])]
   clear Z V;go_wp2_with(fail);rw[S.out];refine aA (v:=τ #[.agg #[ι κ 0,ι κ 0],.iface 128 (ι κ 4)]) (by simp[results,results186,go_sem,D,r1]) rfl ?_;exact⟨rfl,(H.setCell (Nat.le_refl _) _).setCell (Nat.le_refl _) _⟩
  ·have S:Hid (lL s.data.toList=((x:Int),(y:Int),0)):=by show _=_;rw[Z.out,ag V]
   clear Z V;go_wp2_with(fail);rw[S.out];refine aA (v:=τ #[.agg #[ι κ (x:Int),ι κ (y:Int)],η]) (by simp[results,results186,go_sem,D,r1]) rfl ?_;exact⟨rfl,(H.setCell (Nat.le_refl _) _).setCell (Nat.le_refl _) _⟩
 ·have t:((s.size:Int) !=2)=true:=by rw[bne_iff_ne];omega
  have j:=gM w (γ #[ι κ 0,ι κ 0] 230);have Z:Hid (lL s.data.toList=(0,0,4)):=by show _=_;unfold lL;rw[hl,ae dP]
  clear Y hl
  go_in
  go_wp2_with(fail);rw[Z.out];refine aA (v:=τ #[.agg #[ι κ 0,ι κ 0],.iface 128 (ι κ 4)]) (by simp[results,results186,go_sem]) rfl ?_;exact⟨rfl,j⟩
theorem EP(a b:Option Addr)(n ca S:Nat)(L:List HP)(w:dN)(U:PL w a n L)(M:PL w b n L)(hn:n<=1000):
 eM eN 46 #[σ a n ca,σ b n S] w λe w'=>e=ρ (.bool true)/\dV w w':=by
 have hl:=U.len
 go_in
 go_wp2
 go_loopw [5] (λi wr=>∃k:Nat,k<=n/\i=ι κ k/\dV w wr) (λi _=>n-(eP i).toNat)
 case atStart=>exact⟨0,Nat.zero_le _,rfl,aq _ _⟩
 case round=>
  obtain⟨k,hk,rfl,Z⟩:=hrel;by_cases kc:k<n
  ·have nh:(k:Int)<(n:Int):=dP;have r1:=(U.below Z).row;have J:=(M.below Z).row;rcases r1 with Q|⟨b1,o1,rfl,V⟩
   ·omega
   rcases J with Q|⟨b2,o2,rfl,X⟩
   ·omega
   have Y:L[k]? =μ (L[k]'(by omega)):=av dP;obtain⟨c0,c1,c2⟩:=V k _ Y;obtain⟨d0,d1,d2⟩:=X k _ Y;generalize L[k]'(by omega)=p at c0 c1 c2 d0 d1 d2 Y;obtain⟨pd,pf,px⟩:=p;simp only at c0 c1 c2 d0 d1 d2;clear V X Y;have T:Hid _:=Z;clear Z
   go_wp2
   go_quiet(fail)
   go_wp2
   go_roundw
   case rel=>exact⟨k+1,dP,by go_num,below_drewN T.out _⟩
   case measure=>simp[eP];omega
  ·have zN:¬(k:Int)<(n:Int):=dP
   go_wp2
   go_ret;exact⟨rfl,Z⟩
