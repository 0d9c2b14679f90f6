import Derived.Test.YtieklnlbljejdaaGreatDoorT05
open Go.Value renaming int → ι, slice → σ, tuple → τ, nilIface → η
open Go.IntKind renaming i64 → κ
open Go.Ending renaming returned → ρ
open Go.Obj renaming cells → γ
open Option renaming none → ν, some → μ
open Go.Proofs.Tryz renaming prog → eN
open Go renaming World → dN, Calls → eM
open Go.Obj renaming cells → fE
open Go.Value renaming int → dT, ownBlock → dQ
open Go.IntKind renaming u8 → fF, i64 → fC
open Go.RowKit renaming intOf → eP
open List renaming length_cons → eE, map_cons → eu, map_nil → ew
open ByteArray renaming empty → fa
set_option maxRecDepth 100000
set_option maxHeartbeats 4000000
open Go.Proofs.Tryz
namespace Go.Proofs.YtieklnlbljejdaaGreatDoor
open Go.RowKit Plain
variable {ao:Option Addr} {cp j k lo:Nat} {o:Obj} {ok:List jv} {u v:Value} {w w1 wr x1:World}
theorem VE:(eN.info? 5).map (λi=>(i.zero,i.size,i.bytes))=μ (μ (.int .u8 0),1,1):=gJ
theorem GR(s:ByteArray)(w:dN)(hs:s.size<=60):
 eM eN 197 #[.string s] w λe w'=>e=ρ (τ #[.string ⟨(mD s.data.toList).toArray⟩,η])/\dV w w':=by
 obtain⟨t,hi,nH,l8,mZ⟩:=aT VE;have hle:¬(60:Int)<(s.size:Int):=dP;have hsl:=Plain.Jj s.data.toList;obtain⟨cap,C,fr,aaL,iJ⟩:=CO (P:=eN) (w.alloc (γ #[.int .u8 126] 5)) 9 140 5 s underlying9 underlying140 underlying5 (by unfold maxLen;omega);have pY:(w.alloc (γ #[.int .u8 126] 5)).heap.size=w.heap.size+1:=gN;rw[pY]at iJ;obtain⟨L,hL⟩:∃L,L=la s.data.toList:=⟨_,rfl⟩
 have hLl:L.length=s.size+2:=by rw[hL,oI];rfl
 go_in
 go_wp2_with(first
  |(go_at_call 210;refine(K8 _ _ ?hx).mono ?_;(case hx=>unfold maxLen;omega);rintro e w' ⟨rfl,rfl⟩)
  |(at_builtin;go_must(refine iu _ rfl (.tmp 16) (.tmp 22) 140 rfl 5 t (.int .u8 0) 1 1 underlying140 hi nH l8 mZ rfl dS (.slice (some ⟨w.heap.size+1,0,none⟩) s.size cap) s.size (iz s.data.toList) rfl ?r1 _ 2 2 (iz [Ga s.data.toList,Gb s.data.toList]) rfl rfl dS ?c1 ?c2 ?c3 ?c4 ?_)))
 case r1=>exact(iJ.alloc _).drew
 case c1=>
  intro j u hu;rw[add_plain,World.cell?_drew];have y:=aj ((w.alloc (fE #[dT fF 126] 5)).alloc (fE C 5 fr)) #[dT fF (↑(sum s.data.toList) %256),dT fF (↑(sum s.data.toList)/256)] 5 (0,0) j;have h3:((w.alloc (fE #[dT fF 126] 5)).alloc (fE C 5 fr)).heap.size=w.heap.size+1+1:=gN;rw[h3]at y;rw[y,<-Dj,<-Dk];simpa[iz]using hu
 case c2=>intro u hu;simp[iz]at hu;rcases hu with rfl|rfl<;>rfl
 case c3=>unfold maxLen;omega
 case c4=>omega
 intro g1 zQ w1 zj jZ jj;have vT:dV w w1:=by
  refine Below.grown ?_ jZ ?_ ?_
  ·exact((((aq _ _).alloc (Nat.le_refl _) _).alloc gN _).alloc (by simp;omega) _).drew
  ·simp;omega
  ·intro k hk;simp[dQ]at hk;omega
 have I8:w.heap.size<g1:=by
  rcases jj with h|h
  ·simp[dQ]at h;omega
  ·omega
 have tg:Row w1 1 (σ (μ ⟨w.heap.size,0,ν⟩) 1 1) 1 (iz [126]):=by
  refine Row.kept (row:=μ (w.heap.size+1)) ?q1 jZ ?q2
  case q1=>exact(((Row.made w 1 5 #[.int .u8 126] (0,0) 1 1 (iz [126]) rfl rfl (Nat.le_refl _) dS (.inl rfl) (by simp[iz])).alloc _).alloc _).drew
  case q2=>
   intro k hk;have sL:w.heap.size=k:=by simpa[dQ]using hk
   intro e;have e':w.heap.size+1=k:=by simpa using e
   omega
 have hS:Row w1 1 (σ (μ ⟨g1,0,ν⟩) (s.size+2) zQ) (s.size+2) (iz L):=by
  rw[hL,la,kJ];exact zj
 clear zj jZ jj iJ aaL
 go_wp2
 go_loopw [5,25] (λv i wr=>∃(k g cp:Nat) (E:List UInt8),E=126::qD (L.take k)/\k<=L.length/\i=ι κ k/\v=σ (μ ⟨g,0,ν⟩) E.length cp/\Row wr 1 v E.length (iz E)/\
  Row wr 1 (σ (μ ⟨g1,0,ν⟩) (s.size+2) zQ) (s.size+2) (iz L)/\w.heap.size<=g/\g≠g1/\dV w wr)
  (λ_ i _=>L.length-(eP i).toNat)
 case atStart=>exact⟨0,w.heap.size,1,[126],rfl,Nat.zero_le _,rfl,rfl,tg,hS,Nat.le_refl _,dP,vT⟩
 case round=>
  obtain⟨k,g,cp,E,Qd,hk,rfl,rfl,J,M,FV,Qf,H⟩:=hrel;have Lt:E.length<=1+2*62:=by
   have h1:=EC (L.take k);have y:(L.take k).length<=62:=by simp;omega
   rw[Qd];simp only[eE];omega
  have HE:Hid _:=Qd;clear Qd;clear tg hS vT;have m1:E.length+1<=maxLen:=by unfold maxLen;omega
  have m2:E.length+2<=maxLen:=by unfold maxLen;omega
  have b1:(E.length+1)*1<=140737488355328:=dP;have b2:(E.length+2)*1<=140737488355328:=dP;by_cases kc:k<L.length
  ·have hcell:=M.cell k _ (vM L k kc);have hx:=Vo L[k];have HN:Hid (126::qD (L.take (k+1))=E++zP L[k]):=by
    have:L.take (k+1)=L.take k++ [L[k]] :=aw kc;rw[HE.out,this,MB];rfl
   have HC:Hid (pZ L[k] =true↔_):=MC L[k];obtain⟨c,hc⟩:∃c,c=L[k] :=⟨_,rfl⟩
   rw[<-hc]at hcell hx HN HC;clear hc;have hT:∀(T:pZ c=true) (G D:Nat) (Z:dN),Row Z 1 (σ (μ ⟨G,0,ν⟩) (E.length+2) D) (E.length+2) (iz E++ [.int .u8 125,.int .u8 ((c^^^32).toNat:Int)])->
    Row Z 1 (σ (μ ⟨G,0,ν⟩) (126::qD (L.take (k+1))).length D) (126::qD (L.take (k+1))).length (iz (126::qD (L.take (k+1))))/\(126::qD (L.take (k+1))).length=E.length+2:=by
    intro T G D Z hr;rw[HN.out];have e1:zP c=[125,c^^^32] :=by simp[zP,T]
    rw[e1];refine⟨?_,gN⟩;rw[kJ,ay];exact hr
   have hO:∀(T:¬pZ c=true) (G D:Nat) (Z:dN),Row Z 1 (σ (μ ⟨G,0,ν⟩) (E.length+1) D) (E.length+1) (iz E++ [.int .u8 (c.toNat:Int)])->
    Row Z 1 (σ (μ ⟨G,0,ν⟩) (126::qD (L.take (k+1))).length D) (126::qD (L.take (k+1))).length (iz (126::qD (L.take (k+1))))/\(126::qD (L.take (k+1))).length=E.length+1:=by
    intro T G D Z hr;rw[HN.out];have e1:zP c=[c] :=by simp[zP,T]
    rw[e1];refine⟨?_,gN⟩;rw[kJ,ay];exact hr
   by_cases h1:((c.toNat:Int)==126)=true
   ·have T:pZ c=true:=HC.out.mpr (.inl (by simpa using h1));go_wp2_with(at_builtin;go_must(refine iu _ rfl (.tmp 39) (.tmp 42) 140 rfl 5 t (.int .u8 0) 1 1 underlying140 hi nH l8 mZ rfl dS _ E.length (iz E) rfl (J.alloc _) _ 2 2 [.int .u8 125,.int .u8 ((c^^^32).toNat:Int)] rfl rfl dS (oq _ _ _ _) (kX _ _ _ _) m2 b2 ?_));intro U cap2 Z V X Y;obtain⟨A,Q⟩:=hT T U cap2 Z V;have R:=tJ X Y M FV Qf H;have S:Hid _:=Q;clear Q X Y V J M H hcell hx
    go_wp2
    go_roundw
    case rel=>exact⟨k+1,U,cap2,_,rfl,dP,by go_num,by rw[S.out],by rw[<-S.out];exact A,R.1,R.2.1,R.2.2.1,R.2.2.2⟩
    case measure=>simp[eP];omega
   ·have vV:((c.toNat:Int)==126)=false:=by simpa using h1
    by_cases y:((c.toNat:Int)==125)=true
    ·have T:pZ c=true:=HC.out.mpr (.inr (.inl (by simpa using y)));go_wp2_with(at_builtin;go_must(refine iu _ rfl (.tmp 39) (.tmp 42) 140 rfl 5 t (.int .u8 0) 1 1 underlying140 hi nH l8 mZ rfl dS _ E.length (iz E) rfl (J.alloc _) _ 2 2 [.int .u8 125,.int .u8 ((c^^^32).toNat:Int)] rfl rfl dS (oq _ _ _ _) (kX _ _ _ _) m2 b2 ?_));intro U cap2 Z V X Y;obtain⟨A,Q⟩:=hT T U cap2 Z V;have R:=tJ X Y M FV Qf H;have S:Hid _:=Q;clear Q X Y V J M H hcell hx
     go_wp2
     go_roundw
     case rel=>exact⟨k+1,U,cap2,_,rfl,dP,by go_num,by rw[S.out],by rw[<-S.out];exact A,R.1,R.2.1,R.2.2.1,R.2.2.2⟩
     case measure=>simp[eP];omega
    ·have yo:((c.toNat:Int)==125)=false:=by simpa using y
     by_cases h3:(c.toNat:Int)<32
     ·have T:pZ c=true:=HC.out.mpr (.inr (.inr h3));go_wp2_with(at_builtin;go_must(refine iu _ rfl (.tmp 39) (.tmp 42) 140 rfl 5 t (.int .u8 0) 1 1 underlying140 hi nH l8 mZ rfl dS _ E.length (iz E) rfl (J.alloc _) _ 2 2 [.int .u8 125,.int .u8 ((c^^^32).toNat:Int)] rfl rfl dS (oq _ _ _ _) (kX _ _ _ _) m2 b2 ?_));intro U cap2 Z V X Y;obtain⟨A,Q⟩:=hT T U cap2 Z V;have R:=tJ X Y M FV Qf H;have S:Hid _:=Q;clear Q X Y V J M H hcell hx
      go_wp2
      go_roundw
      case rel=>exact⟨k+1,U,cap2,_,rfl,dP,by go_num,by rw[S.out],by rw[<-S.out];exact A,R.1,R.2.1,R.2.2.1,R.2.2.2⟩
      case measure=>simp[eP];omega
     ·have T:¬pZ c=true:=by
       rw[HC.out];simp at vV yo;omega
      go_wp2_with(at_builtin;go_must(refine iu _ rfl (.tmp 44) (.tmp 46) 140 rfl 5 t (.int .u8 0) 1 1 underlying140 hi nH l8 mZ rfl dS _ E.length (iz E) rfl (J.alloc _) _ 1 1 [.int .u8 (c.toNat:Int)] rfl rfl dS (pg _ _ _) (uP _ _) m1 b1 ?_));intro U cap2 Z V X Y;obtain⟨A,Q⟩:=hO T U cap2 Z V;have R:=tJ X Y M FV Qf H;have S:Hid _:=Q;clear Q X Y V J M H hcell hx
      go_wp2
      go_roundw
      case rel=>exact⟨k+1,U,cap2,_,rfl,dP,by go_num,by rw[S.out],by rw[<-S.out];exact A,R.1,R.2.1,R.2.2.1,R.2.2.2⟩
      case measure=>simp[eP];omega
  ·go_wp2_with(at_builtin;go_must(refine iu _ rfl (.tmp 49) (.tmp 50) 140 rfl 5 t (.int .u8 0) 1 1 underlying140 hi nH l8 mZ rfl dS _ E.length (iz E) rfl (J.alloc _) _ 1 1 [.int .u8 126] rfl rfl dS (pg _ _ _) (uP _ _) m1 b1 ?_));intro U cap2 Z V X Y;have R:=tJ X Y M FV Qf H;have JF:k=L.length:=dP;have hF:mD s.data.toList=E++ [126] :=by
    rw[HE.out,JF,aC (Nat.le_refl _),hL];rfl
   have VF:(convert 140 9 (σ (μ ⟨U,0,ν⟩) (E.length+1) cap2)).run eN Z=.ok (.string ⟨(E++ [126]).toArray⟩) Z:=by
    refine Row.back (n:=E.length+1) ?_ 140 9 5 underlying140 underlying5 underlying9;rw[kJ];exact V
   clear V X Y J M H;have HF:Hid _:=hF;clear hF JF
   go_wp2
   go_ret2
   exact⟨by rw[HF.out];rfl,R.2.2.2⟩
theorem Lu(s:ByteArray)(w:dN)(hs:60<s.size)(Z:s.size<=maxLen):
 eM eN 197 #[.string s] w λe w'=>e=ρ (τ #[.string fa,.iface 128 (ι κ 2)])/\w=w':=by
 unfold maxLen at Z;have hle:(60:Int)<(s.size:Int):=dP
 go_in
 go_wp2
 go_ret2
 exact⟨rfl,rfl⟩
def jQ(x:Int):UInt8:=UInt8.ofNat x.toNat
theorem np(x:Int)(h0:0<=x)(h1:x<=255):((jQ x).toNat:Int)=x:=by
 unfold jQ;rw[UInt8.toNat_ofNat_of_lt' (by show x.toNat<256;omega)];omega
def zk(os:List jv):List UInt8:=os.flatMap λo=>[jQ o.1,jQ o.2]
def lA(code id:Int)(os:List jv):List UInt8:=jQ code::jQ id::jQ os.length::zk os
theorem JG(os:List jv)(o:jv):zk (os++ [o])=zk os++ [jQ o.1,jQ o.2] :=by simp[zk]
theorem qe(os:List jv):(zk os).length=2*os.length:=by
 induction os with
 |nil=>rfl
 |cons o r ih=>simp only[zk,List.flatMap_cons,List.length_append,eE,List.length_nil]at ih⊢;omega
theorem Bi:∀(r seen:List jv),oK seen r=0->∀o∈r,vU o.1=true/\vU o.2=true
 |[],_,_,o,Z=>by simp at Z
 |x::r,seen,h,o,Z=>by
  unfold oK at h;split at h
  ·simp at h
  ·rename_i Y
   split at h
   ·simp at h
   ·rcases a7.mp Z with rfl|Z
    ·simpa using Y
    ·exact Bi r _ h o Z
theorem JH {code id:Int} {os:List jv} (h:ju code id os=0):1<=code/\code<=6/\(0<=id/\id<=255)/\os.length<=8/\(5<=code->os.length=0)/\oK [] os=0:=by
 unfold ju at h;split at h
 ·simp at h
 ·rename_i h1
  split at h
  ·simp at h
  ·split at h
   ·simp at h
   ·have Z:vU id=true:=by cases hq:vU id<;>simp_all
    exact⟨dP,dP,(Al id).mp Z,dP,dP,h⟩
theorem GU(code id:Int)(a:Option Addr)(n cap:Nat)(os:List jv)(w:dN)(U:n<=1000000)(V:n<=cap)(T:iK w a n os)(hf:ju code id os≠0):
 eM eN 175 #[.agg #[ι κ code,ι κ id,σ a n cap]] w λe w'=>e=ρ (τ #[.string fa,iP (ju code id os)])/\dV w w':=by
 have X:dV w (w.alloc (γ #[ι κ code,ι κ id,σ a n cap] 37)):=(aq _ _).alloc (Nat.le_refl _) _;have Z:=rQ code id a n cap os (w.alloc (γ #[ι κ code,ι κ id,σ a n cap] 37)) U V (T.below X);generalize ju code id os=f at hf Z;have Y:iP f=.iface 128 (ι κ (f:Int)):=by simp[iP,hf]
 rw[Y]at Z⊢;clear Y
 go_in
 go_wp2_with(fail);refine Z.mono ?_;rintro e w1 ⟨rfl,S⟩
 go_wp2
 go_ret2
 exact⟨rfl,gD X S⟩
theorem ET(code id:Int)(a:Option Addr)(n cap:Nat)(os:List jv)(w:dN)(Gy:n<=cap)(H:iK w a n os)(hf:ju code id os=0):
 eM eN 175 #[.agg #[ι κ code,ι κ id,σ a n cap]] w λe w'=>e=ρ (τ #[.string ⟨(lA code id os).toArray⟩,η])/\dV w w':=by
 obtain⟨i0,hi,nH,l8,mZ⟩:=aT VE;obtain⟨p1,p2,⟨p3,p4⟩,p5,p6,p7⟩:=JH hf;have nS:=Bi os [] p7;have hl:=H.1;have D:dV w (w.alloc (γ #[ι κ code,ι κ id,σ a n cap] 37)):=(aq _ _).alloc (Nat.le_refl _) _;have G:=rQ code id a n cap os (w.alloc (γ #[ι κ code,ι κ id,σ a n cap] 37)) dP Gy (H.below D);have e0:iP 0=η:=rfl;rw[hf,e0]at G;clear e0 p6 p7 hf;have Qg:∀w1:dN,Below (w.alloc (γ #[ι κ code,ι κ id,σ a n cap] 37)).heap.size (w.alloc (γ #[ι κ code,ι κ id,σ a n cap] 37)) w1->
  w1.cell? ⟨w.heap.size,0,ν⟩=μ (ι κ code)/\w1.cell? ⟨w.heap.size,1,ν⟩=μ (ι κ id)/\w1.cell? ⟨w.heap.size,2,ν⟩=μ (σ a n cap):=by
  intro w1 hb;have U:w.heap.size<(w.alloc (γ #[ι κ code,ι κ id,σ a n cap] 37)).heap.size:=gN;have hA:=λj=>aj w #[ι κ code,ι κ id,σ a n cap] 37 (0,0) j;exact⟨(hb.cell (p:=⟨w.heap.size,0,ν⟩) U).trans (hA 0),(hb.cell (p:=⟨w.heap.size,1,ν⟩) U).trans (hA 1),(hb.cell (p:=⟨w.heap.size,2,ν⟩) U).trans (hA 2)⟩
 go_in
 go_wp2_with(fail);refine G.mono ?_;rintro e w1 ⟨rfl,T⟩;obtain⟨q0,q1,q2⟩:=Qg w1 T;have uT:=gD D T;have U:w.heap.size<w1.heap.size:=by
  have:=T.size;simp at this;omega
 clear Qg T G D;go_wp2_with(fail);have tg:Row (w1.alloc (γ #[.int .u8 code,.int .u8 id,.int .u8 (n:Int)] 5)) 1 (σ (μ ⟨w1.heap.size,0,ν⟩) 3 3) 3 (iz [jQ code,jQ id,jQ os.length]):=by
  refine Row.made w1 1 5 _ (0,0) 3 3 _ rfl rfl (Nat.le_refl _) dS (.inl rfl) ?_;intro j u hu;simp only[iz,eu,ew,np code dP dP,np id p3 p4,hl,np (n:Int) dP dP]at hu;simpa using hu
 have vT:dV w (w1.alloc (γ #[.int .u8 code,.int .u8 id,.int .u8 (n:Int)] 5)):=uT.alloc uT.size _
 go_loopw [5,27] (λv i wr=>∃(k g cp:Nat) (E:List UInt8),E=jQ code::jQ id::jQ os.length::zk (os.take k)/\k<=n/\i=ι κ k/\v=σ (μ ⟨g,0,ν⟩) E.length cp/\Row wr 1 v E.length (iz E)/\
  w.heap.size<=g/\dV w wr)
  (λ_ i _=>n-(eP i).toNat)
 case atStart=>exact⟨0,w1.heap.size,3,_,rfl,Nat.zero_le _,rfl,rfl,tg,uT.size,vT⟩
 case round=>
  obtain⟨k,g,cp,E,Q,hk,rfl,rfl,V,FV,Y⟩:=hrel;have Lt:E.length<=19:=by
   have h1:=qe (os.take k);have h2:(os.take k).length<=8:=by simp;omega
   rw[Q];simp only[eE];omega
  have HE:Hid _:=Q;have HL:Hid _:=hl;clear Q tg vT hl;have m2:E.length+2<=maxLen:=by unfold maxLen;omega
  have b2:(E.length+2)*1<=140737488355328:=dP;by_cases kc:k<n
  ·have CJ:=H.below Y;rcases CJ.2 with h0|⟨b,off,rfl,hc⟩
   ·omega
   have ph:k<os.length:=by rw[HL.out];exact kc
   obtain⟨c1,c2⟩:=hc k ph;obtain⟨M,J⟩:=nS os[k] (aD _);have HT:Hid (os.take (k+1)=os.take k++ [os[k]]):=aw ph;generalize os[k] =o at c1 c2 HT M J;obtain⟨A,y⟩:=(Al o.1).mp M;obtain⟨t,o2b⟩:=(Al o.2).mp J;clear hc M J CJ;have nh:(k:Int)<(n:Int):=dP;have VG:dV w (wr.alloc (γ #[ι κ o.1,ι κ o.2] 276)):=Y.alloc Y.size _;have Z:Row (wr.alloc (γ #[ι κ o.1,ι κ o.2] 276)) 1 (σ (μ ⟨g,0,ν⟩) E.length cp) E.length (iz E):=V.alloc _;go_wp2_with(at_builtin;go_must(refine iu _ rfl (.tmp 31) (.tmp 38) 140 rfl 5 i0 (.int .u8 0) 1 1 underlying140 hi nH l8 mZ rfl dS _ E.length (iz E) rfl (Z.alloc _) _ 2 2 [.int .u8 o.1,.int .u8 o.2] rfl rfl dS ?hcc (kX _ _ _ _) m2 b2 ?_))
   case hcc=>
    have:=oq (wr.alloc (γ #[ι κ o.1,ι κ o.2] 276)) (.int .u8 o.1) (.int .u8 o.2) 5;simpa using this
   intro X cap2 w2 sv qI kj;have ti:μ g=μ X \/(wr.alloc (γ #[ι κ o.1,ι κ o.2] 276)).heap.size+1<=X:=by
    rcases kj with h|h
    ·exact .inl h
    ·exact .inr (by simp;omega)
   have R:=Dh qI ti FV VG;have rP:Row w2 1 (σ (μ ⟨X,0,ν⟩) (E.length+2) cap2) (E++ [jQ o.1,jQ o.2]).length (iz (E++ [jQ o.1,jQ o.2])):=by
    rw[kJ,ay];simp only[iz,eu,ew,np o.1 A y,np o.2 t o2b];exact sv
   have HN:Hid (E++ [jQ o.1,jQ o.2] =jQ code::jQ id::jQ os.length::zk (os.take (k+1))):=by
    show E++ [jQ o.1,jQ o.2] =_;rw[HE.out,HT.out,JG];rfl
   have S:Hid ((E++ [jQ o.1,jQ o.2]).length=E.length+2):=by show(E++ [jQ o.1,jQ o.2]).length=E.length+2;simp
   clear sv qI kj ti V Y VG Z
   go_wp2
   go_roundw
   case rel=>exact⟨k+1,X,cap2,_,HN.out,dP,by go_num,by rw[S.out],rP,R.1,R.2⟩
   case measure=>simp[eP];omega
  ·have VF:(convert 140 9 (σ (μ ⟨g,0,ν⟩) E.length cp)).run eN wr=.ok (.string ⟨E.toArray⟩) wr:=Row.back V 140 9 5 underlying140 underlying5 underlying9;have HF:Hid (lA code id os=E):=by
    show lA code id os=E;have wX:os.take k=os:=aC (by rw[HL.out];omega);rw[HE.out,wX];rfl
   clear V;go_wp2_with(fail);rw[HF.out]
   go_ret2
   exact⟨rfl,Y⟩
theorem Qh:(eN.info? 276).map (λi=>(i.zero,i.size,i.bytes))=μ (μ (.agg #[ι κ 0,ι κ 0]),2,16):=gJ
theorem Qi(w:dN):(zeroValue 37).run eN w=.ok (.agg #[ι κ 0,ι κ 0,σ ν 0 0]) w:=gJ
theorem yv(w:dN)(x y:Value)(t:TypeId):∀(j:Nat) (u:Value),[x,y][j]? =μ u->(w.alloc (γ #[x,y] t)).drew.cell? ((⟨w.heap.size,0,ν⟩:Addr).add j)=μ u:=λj u Z=>oq w x y t j u Z
theorem qf {b:Nat} (Y:∀k,v.ownBlock=μ k->lo+2<=k)(Z:(wr.alloc o).drew.grownBy x1 v.ownBlock)(hb:b<lo+2)(X:b<wr.heap.size):x1.heap[b]? =wr.heap[b]? :=by
 rw[Z.block b (by show b<(wr.alloc o).heap.size;simp;omega) (λe=>by have:=Y b e.symm;omega)];exact aQ wr o b X
theorem GV(Y:∀k,v.ownBlock=μ k->lo+2<=k)(Z:(wr.alloc o).drew.grownBy x1 v.ownBlock)(hc:wr.cell? ⟨lo+1,j,ν⟩=μ u):x1.cell? ⟨lo+1,j,ν⟩=μ u:=by
 have X:lo+1<wr.heap.size:=af wr _ hc;rw[ai (w:=wr) (a:=⟨lo+1,j,ν⟩) (qf (b:=lo+1) Y Z dP X)];exact hc
theorem CX(Y:∀k,v.ownBlock=μ k->lo+2<=k)(Z:(wr.alloc o).drew.grownBy x1 v.ownBlock)(hc:wr.cell? ⟨lo+1,j,ν⟩=μ u)(hf:wr.frozen? ⟨lo+1,j,ν⟩=false):x1.frozen? ⟨lo+1,j,ν⟩=false:=by
 have X:lo+1<wr.heap.size:=af wr _ hc;rw[aH (w:=wr) (a:=⟨lo+1,j,ν⟩) (qf (b:=lo+1) Y Z dP X)];exact hf
def lJ:List UInt8->List jv
 |k::n::r=>((k.toNat:Int),(n.toNat:Int))::lJ r
 |_=>[]
theorem zm(s:ByteArray)(k:Nat)(h:k<s.size):s.data.toList.drop k=s[k] ::s.data.toList.drop (k+1):=by
 rw[aO (by simpa using h)];rfl
theorem tW(Y:wr.heap[w.heap.size]? =μ (γ #[ι κ 0,ι κ 0,σ ν 0 0] 37 (0,0)))(hb:dV wr w1):
 w1.cell? ⟨w.heap.size,0,ν⟩=μ (ι κ 0)/\w1.cell? ⟨w.heap.size,1,ν⟩=μ (ι κ 0)/\w1.cell? ⟨w.heap.size,2,ν⟩=μ (σ ν 0 0)/\∀j,w1.frozen? ⟨w.heap.size,j,ν⟩=false:=by
 have X:w.heap.size<wr.heap.size:=(au.1 Y).1;have Z:w1.heap[w.heap.size]? =μ (γ #[ι κ 0,ι κ 0,σ ν 0 0] 37 (0,0)):=by rw[hb.block _ X];exact Y
 exact⟨ar w1 _ 0 _ 37 (0,0) Z,ar w1 _ 1 _ 37 (0,0) Z,ar w1 _ 2 _ 37 (0,0) Z,λj=>bh w1 _ j _ 37 Z⟩
def iF(l:List UInt8):Int×Int×List jv×Nat:=
 if l.length<3 \/(l.length:Int)≠(3:Int)+(2:Int)*((l.getD 2 0).toNat:Int)then(0,0,[],4)
 else if ju ((l.getD 0 0).toNat:Int) ((l.getD 1 0).toNat:Int) (lJ (l.drop 3))=0 then(((l.getD 0 0).toNat:Int),((l.getD 1 0).toNat:Int),lJ (l.drop 3),0)
 else(0,0,[],4)
def Bj(l:List UInt8)(w:dN)(e:Ending)(w':dN):Prop:=
 ∃(a:Option Addr) (n cap f:Nat) (code id:Int) (os:List jv),e=ρ (τ #[.agg #[ι κ code,ι κ id,σ a n cap],iP f])/\iK w' a n os/\n<=cap/\iF l=(code,id,os,f)/\dV w w'/\(∀j,dQ (σ a n cap)=μ j->w.heap.size<=j/\j<w'.heap.size)/\kd a cap
theorem vy(s:ByteArray)(h3:3<=s.size)(heq:(s.size:Int)=(3:Int)+(2:Int)*(s[2].toNat:Int)):
 iF s.data.toList=if ju (s[0].toNat:Int) (s[1].toNat:Int) (lJ (s.data.toList.drop 3))=0 then((s[0].toNat:Int),(s[1].toNat:Int),lJ (s.data.toList.drop 3),0)else(0,0,[],4):=by
 have hl:s.data.toList.length=s.size:=gN;unfold iF;rw[mU s 0 dP,mU s 1 dP,mU s 2 dP,hl,ae dP]
theorem zn {x y z:Value} (Y:Row w1 2 (σ ao k cp) k (iG ok))(X:∀j,dQ (σ ao k cp)=μ j->w.heap.size+2<=j)(hb:dV w w1):
 iK (((w1.setCell ⟨w.heap.size,0,ν⟩ x).setCell ⟨w.heap.size,1,ν⟩ y).setCell ⟨w.heap.size,2,ν⟩ z) ao k ok/\dV w (((w1.setCell ⟨w.heap.size,0,ν⟩ x).setCell ⟨w.heap.size,1,ν⟩ y).setCell ⟨w.heap.size,2,ν⟩ z):=by
 refine⟨Row.opts (Y.keep gN (λj Z=> ?_)),((hb.setCell (Nat.le_refl _) _).setCell (Nat.le_refl _) _).setCell (Nat.le_refl _) _⟩;have:=X j Z;rw[ak _ _ _ _ (by show j≠w.heap.size;omega),ak _ _ _ _ (by show j≠w.heap.size;omega),ak _ _ _ _ (by show j≠w.heap.size;omega)]
theorem zV(w:dN)(a b:Obj):((w.alloc a).alloc b).drew.heap[w.heap.size+1]? =μ b:=by
 have h:=aS (w.alloc a) b;have e:(w.alloc a).heap.size=w.heap.size+1:=gN;rw[e]at h;exact h
theorem yx(w:dN)(a b:Obj):((w.alloc a).alloc b).drew.heap[w.heap.size]? =μ a:=by
 show((w.alloc a).alloc b).heap[w.heap.size]? =μ a;rw[aQ (w.alloc a) b w.heap.size gN];exact aS w a
theorem EU {ob:Obj} {g' jd:Nat} {c d:Int} {x y:Nat}
 (U:wr.heap[w.heap.size+1]? =μ (γ #[ι κ c,ι κ d,σ ao k cp] 37 (0,0)))
 (Q:wr.heap[w.heap.size]? =μ (γ #[ι κ 0,ι κ 0,σ ν 0 0] 37 (0,0)))
 (_hrow:Row wr 2 (σ ao k cp) k (iG ok)) (Y:∀j,dQ (σ ao k cp)=μ j->w.heap.size+2<=j) (S:dV w wr)
 (T:Row x1 2 (σ (μ ⟨g',0,ν⟩) (k+1) jd) (k+1) (iG ok++ [ι κ (fC.wrap (x:Int)),ι κ (fC.wrap (y:Int))]))
 (X:(wr.alloc ob).drew.grownBy x1 (dQ (σ ao k cp))) (J:dQ (σ ao k cp)=μ g' \/(wr.alloc ob).drew.heap.size<=g') (hx:x<2^8) (hy:y<2^8):
 Row (x1.setCell ⟨w.heap.size+1,2,ν⟩ (σ (μ ⟨g',0,ν⟩) (k+1) jd)) 2 (σ (μ ⟨g',0,ν⟩) (k+1) jd) (k+1) (iG (ok++ [((x:Int),(y:Int))]))/\
 (x1.setCell ⟨w.heap.size+1,2,ν⟩ (σ (μ ⟨g',0,ν⟩) (k+1) jd)).heap[w.heap.size+1]? =μ (γ #[ι κ c,ι κ d,σ (μ ⟨g',0,ν⟩) (k+1) jd] 37 (0,0))/\
 (x1.setCell ⟨w.heap.size+1,2,ν⟩ (σ (μ ⟨g',0,ν⟩) (k+1) jd)).heap[w.heap.size]? =μ (γ #[ι κ 0,ι κ 0,σ ν 0 0] 37 (0,0))/\
 (∀j,dQ (σ (μ ⟨g',0,ν⟩) (k+1) jd)=μ j->w.heap.size+2<=j)/\dV w (x1.setCell ⟨w.heap.size+1,2,ν⟩ (σ (μ ⟨g',0,ν⟩) (k+1) jd)):=by
 have H:w.heap.size+1<wr.heap.size:=(au.1 U).1;have k1:=qf (b:=w.heap.size+1) Y X dP H;have k0:=qf (b:=w.heap.size) Y X dP dP;have VH:(wr.alloc ob).drew.heap.size=wr.heap.size+1:=by show(wr.alloc ob).heap.size=_;simp
 have I8:w.heap.size+2<=g':=by
  rcases J with h|h
  ·exact Y g' h
  ·omega
 have V:x1.heap[w.heap.size+1]? =μ (γ #[ι κ c,ι κ d,σ ao k cp] 37 (0,0)):=by rw[k1];exact U
 refine⟨?_,?_,?_,?_,?_⟩
 ·have ex:fC.wrap (x:Int)=(x:Int):=aM _ ⟨dP,dP⟩;have M:fC.wrap (y:Int)=(y:Int):=aM _ ⟨dP,dP⟩;rw[ex,M,<-lZ ok ((x:Int),(y:Int))]at T;refine T.keep gN (λj Z=> ?_);have:g'=j:=by simpa[dQ]using Z
  exact ak _ _ _ _ (by show j≠w.heap.size+1;omega)
 ·rw[bB x1 (w.heap.size+1) 2 _ 37 (0,0) _ V];exact ch x1 _ _ _ 37 (0,0) V
 ·rw[ak _ _ _ _ (by show w.heap.size≠w.heap.size+1;omega),k0];exact Q
 ·intro j Z;have:g'=j:=by simpa[dQ]using Z
  omega
 ·have G:dV w (wr.alloc ob).drew:=(S.alloc S.size _).drew;refine a8 ?_ (by show w.heap.size<=w.heap.size+1;omega) _;refine G.grown X dP (λj Z=> ?_);have:=Y j Z;omega
theorem EV(s:ByteArray)(w:dN)(hs:s.size<=1000)(h3:3<=s.size)(heq:(s.size:Int)=(3:Int)+(2:Int)*(s[2].toNat:Int)):
 eM eN 184 #[.string s] w λe w'=>Bj s.data.toList w e w':=by
 obtain⟨i0,hi,nH,l8,mZ⟩:=aT Qh;have hz:=Qi;have g1:¬(s.size:Int)<3:=dP;have lR:=s[2].toNat_lt;have g2:((s.size:Int) !=(3:Int)+(2:Int)*(s[2].toNat:Int))=false:=by rw[heq];simp
 have A:Hid _:=heq;clear heq;have b0:0<s.size:=dP;have b1:1<s.size:=dP;have b2:2<s.size:=dP;have vT:=s[0].toNat_lt;have Z:=s[1].toNat_lt;have z0:(0:Int)<(s.size:Int):=dP;have z1:(1:Int)<(s.size:Int):=dP
 go_in
 go_wp2
 go_region
 go_wp2
 go_loopw [5] (λi wr=>∃(k cp:Nat) (ao:Option Addr) (ok:List jv),3+2*k<=s.size/\i=ι κ ((3+2*k:Nat):Int)/\ok.length=k/\lJ (s.data.toList.drop 3)=ok++lJ (s.data.toList.drop (3+2*k))/\Row wr 2 (σ ao k cp) k (iG ok)/\
  wr.heap[w.heap.size+1]? =μ (γ #[ι κ (s[0].toNat:Int),ι κ (s[1].toNat:Int),σ ao k cp] 37 (0,0))/\wr.heap[w.heap.size]? =μ (γ #[ι κ 0,ι κ 0,σ ν 0 0] 37 (0,0))/\
  (∀j,dQ (σ ao k cp)=μ j->w.heap.size+2<=j)/\dV w wr)
  (λi _=>s.size-(eP i).toNat)
 case atStart=>
  refine⟨0,0,ν,[],dP,rfl,rfl,rfl,Row.nil _ _,?_,?_,λj Y=>by simp[dQ]at Y,(((aq _ _).alloc (Nat.le_refl _) _).alloc gN _).drew⟩
  ·exact zV w _ _
  ·exact yx w _ _
 case round=>
  obtain⟨k,cp,ao,ok,hk,rfl,iC,M,X,H,JI,J,iA⟩:=hrel;have hP:Hid _:=M;clear M;have cv:wr.cell? ⟨w.heap.size+1,2,ν⟩=μ (σ ao k cp):=ar wr _ 2 _ 37 (0,0) H;have fv:wr.frozen? ⟨w.heap.size+1,2,ν⟩=false:=bh wr _ 2 _ 37 H;have TK:w.heap.size+1<wr.heap.size:=af wr _ cv;have Xe:Hid _:=H;have Xf:Hid _:=JI;clear H JI;by_cases kc:3+2*k<s.size
  ·have CY:3+2*k+1<s.size:=by have:=A.out;omega
   obtain⟨q,E⟩:∃q,q=3+2*k:=⟨_,rfl⟩
   rw[<-E]at kc CY;have G:Hid _:=E;have y0:(0:Int)<=(q:Int):=dP;have y1:(q:Int)<(s.size:Int):=dP;have y2:(q:Int)+1<(s.size:Int):=dP;have y3:(0:Int)<=(q:Int)+1:=dP;have yw:fC.wrap ((q:Int)+1)=(q:Int)+1:=aM _ ⟨dP,dP⟩;have hbq:=s[q].toNat_lt;have ae6:=s[q+1].toNat_lt;have m1:k+1<=maxLen:=by unfold maxLen;omega
   have bb1:(k+1)*16<=140737488355328:=dP;rw[<-E];clear E;have h:Hid (lJ (s.data.toList.drop 3)=(ok++ [((s[q].toNat:Int),(s[q+1].toNat:Int))])++lJ (s.data.toList.drop (3+2*(k+1)))):=by
    show lJ (s.data.toList.drop 3)=_;rw[hP.out,<-G.out,zm s q kc,zm s (q+1) CY];have U:q+1+1=3+2*(k+1):=by have:=G.out;omega
    rw[U];simp[lJ]
   go_wp2
   go_region_law ((refine kQ (by rfl) (.tmp 35) (.tmp 46) 35 (by rfl) 276 i0 (.agg #[ι κ 0,ι κ 0]) 2 16 underlying35 hi nH l8 mZ (by rfl) dS (σ ao k cp) k (iG ok) (by rfl) ((X.alloc _).drew) _ 1 1 [ι κ (fC.wrap (s[q].toNat:Int)),ι κ (fC.wrap (s[q+1].toNat:Int))] (by rfl) (by rfl) dS (yv _ _ _ _) (kX _ _ _ _) m1 bb1 ?_;intro g' jd x1 kD D jj;have c1:=GV J D cv;have f1:=CX J D cv fv))
   all_goals have hS:=EU (c:=(s[0].toNat:Int)) (d:=(s[1].toNat:Int)) Xe.out Xf.out X J iA kD D jj s[q].toNat_lt s[q+1].toNat_lt
   all_goals clear kD D jj c1 f1
   all_goals go_wp2_with(fail)
   all_goals go_roundw
   all_goals first
    |exact⟨k+1,jd,some ⟨g',0,none⟩,_,by have:=G.out;omega,by have:=G.out;go_num,by simp[iC],h.out,hS⟩
    |(simp[eP];omega)
  ·have Zh:3+2*k=s.size:=dP;have Qj:lJ (s.data.toList.drop 3)=ok:=by
    rw[hP.out,Zh,aU (by show s.size<=s.size;omega)];simp[lJ]
   have vQ:=X.opts;have Aj:=X.Pc;have c0:wr.cell? ⟨w.heap.size+1,0,ν⟩=μ (ι κ (s[0].toNat:Int)):=ar wr _ 0 _ 37 (0,0) Xe.out;have c1:wr.cell? ⟨w.heap.size+1,1,ν⟩=μ (ι κ (s[1].toNat:Int)):=ar wr _ 1 _ 37 (0,0) Xe.out;have T:=rQ (s[0].toNat:Int) (s[1].toNat:Int) ao k cp ok wr dP Aj vQ;have HK:Hid _:=Qj;clear hP Qj Zh;by_cases hf:ju (s[0].toNat:Int) (s[1].toNat:Int) ok=0
   ·have S:iP 0=η:=rfl;rw[hf,S]at T;clear S;have t:Hid _:=hf;clear hf;go_wp2_with(fail);refine T.mono ?_;rintro e w1 ⟨rfl,Z⟩;have d0:=(Z.cell (p:=⟨w.heap.size+1,0,ν⟩) TK).trans c0;have d1:=(Z.cell (p:=⟨w.heap.size+1,1,ν⟩) TK).trans c1;have d2:=(Z.cell (p:=⟨w.heap.size+1,2,ν⟩) TK).trans cv;obtain⟨r0,r1,r2,r3⟩:=tW Xf.out Z;have uT:=gD iA Z;have V:Hid ((∀j,dQ (σ ao k cp)=μ j->w.heap.size<=j/\j<w1.heap.size)/\kd ao cp):=⟨λj Y=>⟨by have:=J j Y;omega,(X.below Z).lt j Y⟩,λe=>by
     rcases X.2 with⟨U,_⟩|⟨g9,c9,U,_⟩
     ·simp at U;exact U.2.2
     ·rw[e]at U;simp at U⟩
    have Q:=zn (x:=ι κ (s[0].toNat:Int)) (y:=ι κ (s[1].toNat:Int)) (z:=σ ao k cp) (X.below Z) J uT;have HV:Hid (iF s.data.toList=((s[0].toNat:Int),(s[1].toNat:Int),ok,0)):=by
     show iF s.data.toList=_;rw[vy s h3 A.out,HK.out,ag t.out]
    clear T Z c0 c1 cv X;go_wp2_with(fail);refine aA (v:=τ #[.agg #[ι κ (s[0].toNat:Int),ι κ (s[1].toNat:Int),σ ao k cp],η]) (by simp[results,results184,go_sem,r0,r1,r2]) rfl ?_;exact⟨ao,k,cp,0,_,_,ok,rfl,Q.1,Aj,HV.out,Q.2,λj Y=>⟨(V.out.1 j Y).1,by simpa using(V.out.1 j Y).2⟩,V.out.2⟩
   ·have S:iP (ju (s[0].toNat:Int) (s[1].toNat:Int) ok)=.iface 128 (ι κ (ju (s[0].toNat:Int) (s[1].toNat:Int) ok:Int)):=by simp[iP,hf]
    rw[S]at T;clear S;have t:Hid _:=hf;clear hf;have HV:Hid (iF s.data.toList=(0,0,[],4)):=by
     show iF s.data.toList=_;rw[vy s h3 A.out,HK.out,ae t.out]
    generalize ju (s[0].toNat:Int) (s[1].toNat:Int) ok=ff at T;go_wp2_with(fail);refine T.mono ?_;rintro e w1 ⟨rfl,Z⟩;obtain⟨r0,r1,r2,r3⟩:=tW Xf.out Z;have uT:=gD iA Z;have Q:=zn (ok:=[]) (ao:=ν) (k:=0) (cp:=0) (x:=ι κ 0) (y:=ι κ 0) (z:=σ ν 0 0) (Row.nil w1 2) (λj Y=>by simp[dQ]at Y) uT;clear T Z c0 c1 cv X vQ;go_wp2_with(fail);refine aA (v:=τ #[.agg #[ι κ 0,ι κ 0,σ ν 0 0],.iface 128 (ι κ 4)]) (by simp[results,results184,go_sem,r0,r1,r2]) rfl ?_;exact⟨ν,0,0,4,0,0,[],rfl,Q.1,Nat.le_refl _,HV.out,Q.2,λj Y=>by simp[dQ]at Y,λ_=>rfl⟩
theorem zo(s:ByteArray)(w:dN)(hs:s.size<=1000)(h:iF s.data.toList=(0,0,[],4))(hb:s.size<3 \/ ∃T:3<=s.size,(s.size:Int)≠(3:Int)+(2:Int)*(s[2].toNat:Int)):
 eM eN 184 #[.string s] w λe w'=>Bj s.data.toList w e w':=by
 have hz:=Qi;have Y:Hid _:=h;clear h;have U:dV w (w.alloc (γ #[ι κ 0,ι κ 0,σ ν 0 0] 37)):=(aq _ _).alloc (Nat.le_refl _) _;have V:iK (w.alloc (γ #[ι κ 0,ι κ 0,σ ν 0 0] 37)) ν 0 [] :=⟨rfl,.inl rfl⟩
 rcases hb with h1|⟨T,X⟩
 ·have g1:(s.size:Int)<3:=dP
  go_in
  go_wp2_with(fail);refine aA (v:=τ #[.agg #[ι κ 0,ι κ 0,σ ν 0 0],.iface 128 (ι κ 4)]) (by simp[results,results184,go_sem]) rfl ?_;exact⟨ν,0,0,4,0,0,[],rfl,V,Nat.le_refl _,Y.out,U,λj Z=>by simp[dQ]at Z,λ_=>rfl⟩
 ·have g1:¬(s.size:Int)<3:=dP;have lR:=s[2].toNat_lt;have b2:2<s.size:=dP;have g2:((s.size:Int) !=(3:Int)+(2:Int)*(s[2].toNat:Int))=true:=by rw[bne_iff_ne];exact X
  clear X
  go_in
  go_wp2_with(fail);refine aA (v:=τ #[.agg #[ι κ 0,ι κ 0,σ ν 0 0],.iface 128 (ι κ 4)]) (by simp[results,results184,go_sem]) rfl ?_;exact⟨ν,0,0,4,0,0,[],rfl,V,Nat.le_refl _,Y.out,U,λj Z=>by simp[dQ]at Z,λ_=>rfl⟩
theorem GY(s:ByteArray)(w:dN)(hs:s.size<=1000):eM eN 184 #[.string s] w λe w'=>Bj s.data.toList w e w':=by
 have hl:s.data.toList.length=s.size:=gN;by_cases Z:3<=s.size
 ·by_cases heq:(s.size:Int)=(3:Int)+(2:Int)*(s[2].toNat:Int)
  ·exact EV s w hs Z heq
  ·refine zo s w hs ?_ (.inr ⟨Z,heq⟩);unfold iF;rw[mU s 2 dP,hl,ag (.inr heq)]
 ·refine zo s w hs ?_ (.inl dP);unfold iF;rw[hl,ag (.inl dP)]
