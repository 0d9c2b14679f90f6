import Derived.Test.YtieklnlbljejdaaGreatDoorG07
open Go.Value renaming int → ι, slice → σ, tuple → τ, nilIface → η
open Go.IntKind renaming i64 → κ
open Go.Ending renaming returned → ρ
open Go.Obj renaming cells → γ
open Option renaming none → ν, some → μ
open Go.Proofs.Tryz renaming prog → fk, results184 → gb
open Go renaming World → eB, Calls → fj
open Go.Obj renaming cells → fZ
open Go.Value renaming int → eI, ownBlock → eF
open Go.IntKind renaming u8 → ga, i64 → fY
open Go.RowKit renaming intOf → ft
open List renaming length_cons → eZ, map_cons → eU, map_nil → eV
open ByteArray renaming empty → fM
set_option maxRecDepth 100000
set_option maxHeartbeats 4000000
namespace Go.Proofs.YtieklnlbljejdaaGreatDoor
open Go.RowKit Plain
variable {ao:Option Addr} {cp j k lo:Nat} {o:Obj} {ok:List j2} {u v:Value} {w w1 wr x1:World}
theorem WK:(fk.info? 5).map (λi=>(i.zero,i.size,i.bytes))=μ (μ (.int .u8 0),1,1):=gT
theorem Ii(s:ByteArray)(w:eB)(hs:s.size<=60):
 fj fk 197 #[.string s] w λe w'=>e=ρ (τ #[.string ⟨(mT s.data.toList).toArray⟩,η])/\eN w w':=by
 obtain⟨i0,hi,oz,mW,nT⟩:=aW WK;have hle:¬(60:Int)<(s.size:Int):=eE;have hsl:=Plain.J8 s.data.toList;obtain⟨cap,C,fr,abx,ji⟩:=DH (P:=fk) (w.alloc (γ #[.int .u8 126] 5)) 9 140 5 s a8 aQ bK (by unfold maxLen;omega);have qI:(w.alloc (γ #[.int .u8 126] 5)).heap.size=w.heap.size+1:=iC;rw[qI]at ji;obtain⟨L,hL⟩:∃L,L=lU s.data.toList:=⟨_,rfl⟩
 have hLl:L.length=s.size+2:=by rw[hL,py];rfl
 go_in
 go_wp2_with(first
  |(go_at_call 210;refine(Mf _ _ ?hx).mono ?_;(case hx=>unfold maxLen;omega);rintro e w' ⟨rfl,rfl⟩)
  |(at_builtin;go_must(refine iX _ rfl (.tmp 16) (.tmp 22) 140 rfl 5 i0 (.int .u8 0) 1 1 aQ hi oz mW nT rfl eH (.slice (some ⟨w.heap.size+1,0,none⟩) s.size cap) s.size (iZ s.data.toList) rfl ?r1 _ 2 2 (iZ [Hh s.data.toList,Hj s.data.toList]) rfl rfl eH ?c1 ?c2 ?c3 ?c4 ?_)))
 case r1=>exact(ji.alloc _).drew
 case c1=>
  intro j u hu;rw[add_plain,World.cell?_drew];have h2:=aq ((w.alloc (fZ #[eI ga 126] 5)).alloc (fZ C 5 fr)) #[eI ga (↑(sum s.data.toList) %256),eI ga (↑(sum s.data.toList)/256)] 5 (0,0) j;have h3:((w.alloc (fZ #[eI ga 126] 5)).alloc (fZ C 5 fr)).heap.size=w.heap.size+1+1:=iC;rw[h3]at h2;rw[h2,<-Ee,<-Ef];simpa[iZ]using hu
 case c2=>intro u hu;simp[iZ]at hu;rcases hu with rfl|rfl<;>rfl
 case c3=>unfold maxLen;omega
 case c4=>omega
 intro g1 AB w1 zV ki jD;have wT:eN w w1:=by
  refine Below.grown ?_ ki ?_ ?_
  ·exact((((au _ _).alloc (Nat.le_refl _) _).alloc iC _).alloc (by simp;omega) _).drew
  ·simp;omega
  ·intro k hk;simp[eF]at hk;omega
 have MA:w.heap.size<g1:=by
  rcases jD with h|h
  ·simp[eF]at h;omega
  ·omega
 have ug:Row w1 1 (σ (μ ⟨w.heap.size,0,ν⟩) 1 1) 1 (iZ [126]):=by
  refine Row.kept (row:=μ (w.heap.size+1)) ?q1 ki ?q2
  case q1=>exact(((Row.made w 1 5 #[.int .u8 126] (0,0) 1 1 (iZ [126]) rfl rfl (Nat.le_refl _) eH (.inl rfl) (by simp[iZ])).alloc _).alloc _).drew
  case q2=>
   intro k hk;have si:w.heap.size=k:=by simpa[eF]using hk
   intro e;have e':w.heap.size+1=k:=by simpa using e
   omega
 have hS:Row w1 1 (σ (μ ⟨g1,0,ν⟩) (s.size+2) AB) (s.size+2) (iZ L):=by
  rw[hL,lU,lr];exact zV
 clear zV ki jD ji abx
 go_wp2
 go_loopw [5,25] (λv i wr=>∃(k g cp:Nat) (E:List UInt8),E=126::rk (L.take k)/\k<=L.length/\i=ι κ k/\v=σ (μ ⟨g,0,ν⟩) E.length cp/\Row wr 1 v E.length (iZ E)/\
  Row wr 1 (σ (μ ⟨g1,0,ν⟩) (s.size+2) AB) (s.size+2) (iZ L)/\w.heap.size<=g/\g≠g1/\eN w wr)
  (λ_ i _=>L.length-(ft i).toNat)
 case atStart=>exact⟨0,w.heap.size,1,[126],rfl,Nat.zero_le _,rfl,rfl,ug,hS,Nat.le_refl _,eE,wT⟩
 case round=>
  obtain⟨k,g,cp,E,QY,hk,rfl,rfl,hE,QZ,Ha,Q5,ja⟩:=hrel;have MB:E.length<=1+2*62:=by
   have h1:=FA (L.take k);have h2:(L.take k).length<=62:=by simp;omega
   rw[QY];simp only[eZ];omega
  have HE:Hid _:=QY;clear QY;clear ug hS wT;have m1:E.length+1<=maxLen:=by unfold maxLen;omega
  have m2:E.length+2<=maxLen:=by unfold maxLen;omega
  have b1:(E.length+1)*1<=140737488355328:=eE;have b2:(E.length+2)*1<=140737488355328:=eE;by_cases kH:k<L.length
  ·have hcell:=QZ.cell k _ (wL L k kH);have hx:=WB L[k];have HN:Hid (126::rk (L.take (k+1))=E++AA L[k]):=by
    have:L.take (k+1)=L.take k++ [L[k]] :=ax kH;rw[HE.out,this,NA];rfl
   have HC:Hid (qJ L[k] =true↔_):=NB L[k];obtain⟨c,hc⟩:∃c,c=L[k] :=⟨_,rfl⟩
   rw[<-hc]at hcell hx HN HC;clear hc;have hT:∀(he:qJ c=true) (g' jL:Nat) (w2:eB),Row w2 1 (σ (μ ⟨g',0,ν⟩) (E.length+2) jL) (E.length+2) (iZ E++ [.int .u8 125,.int .u8 ((c^^^32).toNat:Int)])->
    Row w2 1 (σ (μ ⟨g',0,ν⟩) (126::rk (L.take (k+1))).length jL) (126::rk (L.take (k+1))).length (iZ (126::rk (L.take (k+1))))/\(126::rk (L.take (k+1))).length=E.length+2:=by
    intro he g' jL w2 hr;rw[HN.out];have e1:AA c=[125,c^^^32] :=by simp[AA,he]
    rw[e1];refine⟨?_,iC⟩;rw[lr,aA];exact hr
   have hO:∀(he:¬qJ c=true) (g' jL:Nat) (w2:eB),Row w2 1 (σ (μ ⟨g',0,ν⟩) (E.length+1) jL) (E.length+1) (iZ E++ [.int .u8 (c.toNat:Int)])->
    Row w2 1 (σ (μ ⟨g',0,ν⟩) (126::rk (L.take (k+1))).length jL) (126::rk (L.take (k+1))).length (iZ (126::rk (L.take (k+1))))/\(126::rk (L.take (k+1))).length=E.length+1:=by
    intro he g' jL w2 hr;rw[HN.out];have e1:AA c=[c] :=by simp[AA,he]
    rw[e1];refine⟨?_,iC⟩;rw[lr,aA];exact hr
   by_cases h1:((c.toNat:Int)==126)=true
   ·have he:qJ c=true:=HC.out.mpr (.inl (by simpa using h1));go_wp2_with(at_builtin;go_must(refine iX _ rfl (.tmp 39) (.tmp 42) 140 rfl 5 i0 (.int .u8 0) 1 1 aQ hi oz mW nT rfl eH _ E.length (iZ E) rfl (hE.alloc _) _ 2 2 [.int .u8 125,.int .u8 ((c^^^32).toNat:Int)] rfl rfl eH (oS _ _ _ _) (lM _ _ _ _) m2 b2 ?_));intro g2 cap2 w2 sE rz kV;obtain⟨sM,Mh⟩:=hT he g2 cap2 w2 sE;have R:=uy rz kV QZ Ha Q5 ja;have HL:Hid _:=Mh;clear Mh rz kV sE hE QZ ja hcell hx
    go_wp2
    go_roundw
    case rel=>exact⟨k+1,g2,cap2,_,rfl,eE,by go_num,by rw[HL.out],by rw[<-HL.out];exact sM,R.1,R.2.1,R.2.2.1,R.2.2.2⟩
    case measure=>simp[ft];omega
   ·have wU:((c.toNat:Int)==126)=false:=by simpa using h1
    by_cases h2:((c.toNat:Int)==125)=true
    ·have he:qJ c=true:=HC.out.mpr (.inr (.inl (by simpa using h2)));go_wp2_with(at_builtin;go_must(refine iX _ rfl (.tmp 39) (.tmp 42) 140 rfl 5 i0 (.int .u8 0) 1 1 aQ hi oz mW nT rfl eH _ E.length (iZ E) rfl (hE.alloc _) _ 2 2 [.int .u8 125,.int .u8 ((c^^^32).toNat:Int)] rfl rfl eH (oS _ _ _ _) (lM _ _ _ _) m2 b2 ?_));intro g2 cap2 w2 sE rz kV;obtain⟨sM,Mh⟩:=hT he g2 cap2 w2 sE;have R:=uy rz kV QZ Ha Q5 ja;have HL:Hid _:=Mh;clear Mh rz kV sE hE QZ ja hcell hx
     go_wp2
     go_roundw
     case rel=>exact⟨k+1,g2,cap2,_,rfl,eE,by go_num,by rw[HL.out],by rw[<-HL.out];exact sM,R.1,R.2.1,R.2.2.1,R.2.2.2⟩
     case measure=>simp[ft];omega
    ·have yU:((c.toNat:Int)==125)=false:=by simpa using h2
     by_cases h3:(c.toNat:Int)<32
     ·have he:qJ c=true:=HC.out.mpr (.inr (.inr h3));go_wp2_with(at_builtin;go_must(refine iX _ rfl (.tmp 39) (.tmp 42) 140 rfl 5 i0 (.int .u8 0) 1 1 aQ hi oz mW nT rfl eH _ E.length (iZ E) rfl (hE.alloc _) _ 2 2 [.int .u8 125,.int .u8 ((c^^^32).toNat:Int)] rfl rfl eH (oS _ _ _ _) (lM _ _ _ _) m2 b2 ?_));intro g2 cap2 w2 sE rz kV;obtain⟨sM,Mh⟩:=hT he g2 cap2 w2 sE;have R:=uy rz kV QZ Ha Q5 ja;have HL:Hid _:=Mh;clear Mh rz kV sE hE QZ ja hcell hx
      go_wp2
      go_roundw
      case rel=>exact⟨k+1,g2,cap2,_,rfl,eE,by go_num,by rw[HL.out],by rw[<-HL.out];exact sM,R.1,R.2.1,R.2.2.1,R.2.2.2⟩
      case measure=>simp[ft];omega
     ·have he:¬qJ c=true:=by
       rw[HC.out];simp at wU yU;omega
      go_wp2_with(at_builtin;go_must(refine iX _ rfl (.tmp 44) (.tmp 46) 140 rfl 5 i0 (.int .u8 0) 1 1 aQ hi oz mW nT rfl eH _ E.length (iZ E) rfl (hE.alloc _) _ 1 1 [.int .u8 (c.toNat:Int)] rfl rfl eH (pT _ _ _) (vH _ _) m1 b1 ?_));intro g2 cap2 w2 sE rz kV;obtain⟨sM,Mh⟩:=hO he g2 cap2 w2 sE;have R:=uy rz kV QZ Ha Q5 ja;have HL:Hid _:=Mh;clear Mh rz kV sE hE QZ ja hcell hx
      go_wp2
      go_roundw
      case rel=>exact⟨k+1,g2,cap2,_,rfl,eE,by go_num,by rw[HL.out],by rw[<-HL.out];exact sM,R.1,R.2.1,R.2.2.1,R.2.2.2⟩
      case measure=>simp[ft];omega
  ·go_wp2_with(at_builtin;go_must(refine iX _ rfl (.tmp 49) (.tmp 50) 140 rfl 5 i0 (.int .u8 0) 1 1 aQ hi oz mW nT rfl eH _ E.length (iZ E) rfl (hE.alloc _) _ 1 1 [.int .u8 126] rfl rfl eH (pT _ _ _) (vH _ _) m1 b1 ?_));intro g2 cap2 w2 sE rz kV;have R:=uy rz kV QZ Ha Q5 ja;have Uf:k=L.length:=eE;have hF:mT s.data.toList=E++ [126] :=by
    rw[HE.out,Uf,aK (Nat.le_refl _),hL];rfl
   have WL:(convert 140 9 (σ (μ ⟨g2,0,ν⟩) (E.length+1) cap2)).run fk w2=.ok (.string ⟨(E++ [126]).toArray⟩) w2:=by
    refine Row.back (n:=E.length+1) ?_ 140 9 5 aQ bK a8;rw[lr];exact sE
   clear sE rz kV hE QZ ja;have HF:Hid _:=hF;clear hF Uf
   go_wp2
   go_ret2
   exact⟨by rw[HF.out];rfl,R.2.2.2⟩
theorem MC(s:ByteArray)(w:eB)(hs:60<s.size)(hm:s.size<=maxLen):
 fj fk 197 #[.string s] w λe w'=>e=ρ (τ #[.string fM,.iface 128 (ι κ 2)])/\w=w':=by
 unfold maxLen at hm;have hle:(60:Int)<(s.size:Int):=eE
 go_in
 go_wp2
 go_ret2
 exact⟨rfl,rfl⟩
def j8(x:Int):UInt8:=UInt8.ofNat x.toNat
theorem nK(x:Int)(h0:0<=x)(h1:x<=255):((j8 x).toNat:Int)=x:=by
 unfold j8;rw[UInt8.toNat_ofNat_of_lt' (by show x.toNat<256;omega)];omega
def zW(os:List j2):List UInt8:=os.flatMap λo=>[j8 o.1,j8 o.2]
def lQ(code id:Int)(os:List j2):List UInt8:=j8 code::j8 id::j8 os.length::zW os
theorem Kq(os:List j2)(o:j2):zW (os++ [o])=zW os++ [j8 o.1,j8 o.2] :=by simp[zW]
theorem qO(os:List j2):(zW os).length=2*os.length:=by
 induction os with
 |nil=>rfl
 |cons o r ih=>simp only[zW,List.flatMap_cons,List.length_append,eZ,List.length_nil]at ih⊢;omega
theorem B1:∀(r seen:List j2),pA seen r=0->∀o∈r,wV o.1=true/\wV o.2=true
 |[],_,_,o,ho=>by simp at ho
 |x::r,seen,h,o,ho=>by
  unfold pA at h;split at h
  ·simp at h
  ·rename_i h1
   split at h
   ·simp at h
   ·rcases bn.mp ho with rfl|ho
    ·simpa using h1
    ·exact B1 r _ h o ho
theorem Kr {code id:Int} {os:List j2} (h:jW code id os=0):1<=code/\code<=6/\(0<=id/\id<=255)/\os.length<=8/\(5<=code->os.length=0)/\pA [] os=0:=by
 unfold jW at h;split at h
 ·simp at h
 ·rename_i h1
  split at h
  ·simp at h
  ·split at h
   ·simp at h
   ·have h2:wV id=true:=by cases hq:wV id<;>simp_all
    exact⟨eE,eE,(Ba id).mp h2,eE,eE,h⟩
theorem Ij(code id:Int)(a:Option Addr)(n cap:Nat)(os:List j2)(w:eB)(hn:n<=1000000)(Ib:n<=cap)(ho:jm w a n os)(hf:jW code id os≠0):
 fj fk 175 #[.agg #[ι κ code,ι κ id,σ a n cap]] w λe w'=>e=ρ (τ #[.string fM,jy (jW code id os)])/\eN w w':=by
 have l7:eN w (w.alloc (γ #[ι κ code,ι κ id,σ a n cap] 37)):=(au _ _).alloc (Nat.le_refl _) _;have kP:=sN code id a n cap os (w.alloc (γ #[ι κ code,ι κ id,σ a n cap] 37)) hn Ib (ho.below l7);generalize jW code id os=f at hf kP;have e0:jy f=.iface 128 (ι κ (f:Int)):=by simp[jy,hf]
 rw[e0]at kP⊢;clear e0
 go_in
 go_wp2_with(fail);refine kP.mono ?_;rintro e w1 ⟨rfl,kt⟩
 go_wp2
 go_ret2
 exact⟨rfl,iA l7 kt⟩
theorem FV(code id:Int)(a:Option Addr)(n cap:Nat)(os:List j2)(w:eB)(Ib:n<=cap)(ho:jm w a n os)(hf:jW code id os=0):
 fj fk 175 #[.agg #[ι κ code,ι κ id,σ a n cap]] w λe w'=>e=ρ (τ #[.string ⟨(lQ code id os).toArray⟩,η])/\eN w w':=by
 obtain⟨i0,hi,oz,mW,nT⟩:=aW WK;obtain⟨p1,p2,⟨p3,p4⟩,p5,p6,p7⟩:=Kr hf;have oA:=B1 os [] p7;have hl:=ho.1;have l7:eN w (w.alloc (γ #[ι κ code,ι κ id,σ a n cap] 37)):=(au _ _).alloc (Nat.le_refl _) _;have kP:=sN code id a n cap os (w.alloc (γ #[ι κ code,ι κ id,σ a n cap] 37)) eE Ib (ho.below l7);have e0:jy 0=η:=rfl;rw[hf,e0]at kP;clear e0 p6 p7 hf;have Q6:∀w1:eB,Below (w.alloc (γ #[ι κ code,ι κ id,σ a n cap] 37)).heap.size (w.alloc (γ #[ι κ code,ι κ id,σ a n cap] 37)) w1->
  w1.cell? ⟨w.heap.size,0,ν⟩=μ (ι κ code)/\w1.cell? ⟨w.heap.size,1,ν⟩=μ (ι κ id)/\w1.cell? ⟨w.heap.size,2,ν⟩=μ (σ a n cap):=by
  intro w1 hb;have hz:w.heap.size<(w.alloc (γ #[ι κ code,ι κ id,σ a n cap] 37)).heap.size:=iC;have hA:=λj=>aq w #[ι κ code,ι κ id,σ a n cap] 37 (0,0) j;exact⟨(hb.cell (p:=⟨w.heap.size,0,ν⟩) hz).trans (hA 0),(hb.cell (p:=⟨w.heap.size,1,ν⟩) hz).trans (hA 1),(hb.cell (p:=⟨w.heap.size,2,ν⟩) hz).trans (hA 2)⟩
 go_in
 go_wp2_with(fail);refine kP.mono ?_;rintro e w1 ⟨rfl,kt⟩;obtain⟨q0,q1,q2⟩:=Q6 w1 kt;have sT:=iA l7 kt;have hz:w.heap.size<w1.heap.size:=by
  have:=kt.size;simp at this;omega
 clear Q6 kt kP l7;go_wp2_with(fail);have ug:Row (w1.alloc (γ #[.int .u8 code,.int .u8 id,.int .u8 (n:Int)] 5)) 1 (σ (μ ⟨w1.heap.size,0,ν⟩) 3 3) 3 (iZ [j8 code,j8 id,j8 os.length]):=by
  refine Row.made w1 1 5 _ (0,0) 3 3 _ rfl rfl (Nat.le_refl _) eH (.inl rfl) ?_;intro j u hu;simp only[iZ,eU,eV,nK code eE eE,nK id p3 p4,hl,nK (n:Int) eE eE]at hu;simpa using hu
 have wT:eN w (w1.alloc (γ #[.int .u8 code,.int .u8 id,.int .u8 (n:Int)] 5)):=sT.alloc sT.size _
 go_loopw [5,27] (λv i wr=>∃(k g cp:Nat) (E:List UInt8),E=j8 code::j8 id::j8 os.length::zW (os.take k)/\k<=n/\i=ι κ k/\v=σ (μ ⟨g,0,ν⟩) E.length cp/\Row wr 1 v E.length (iZ E)/\
  w.heap.size<=g/\eN w wr)
  (λ_ i _=>n-(ft i).toNat)
 case atStart=>exact⟨0,w1.heap.size,3,_,rfl,Nat.zero_le _,rfl,rfl,ug,sT.size,wT⟩
 case round=>
  obtain⟨k,g,cp,E,QY,hk,rfl,rfl,hE,Ha,ja⟩:=hrel;have MB:E.length<=19:=by
   have h1:=qO (os.take k);have h2:(os.take k).length<=8:=by simp;omega
   rw[QY];simp only[eZ];omega
  have HE:Hid _:=QY;have HL:Hid _:=hl;clear QY ug wT hl;have m2:E.length+2<=maxLen:=by unfold maxLen;omega
  have b2:(E.length+2)*1<=140737488355328:=eE;by_cases kH:k<n
  ·have Dz:=ho.below ja;rcases Dz.2 with h0|⟨b,off,rfl,hc⟩
   ·omega
   have pK:k<os.length:=by rw[HL.out];exact kH
   obtain⟨c1,c2⟩:=hc k pK;obtain⟨a1,a2⟩:=oA os[k] (aE _);have HT:Hid (os.take (k+1)=os.take k++ [os[k]]):=ax pK;generalize os[k] =o at c1 c2 HT a1 a2;obtain⟨o1a,o1b⟩:=(Ba o.1).mp a1;obtain⟨o2a,o2b⟩:=(Ba o.2).mp a2;clear hc a1 a2 Dz;have nG:(k:Int)<(n:Int):=eE;have WM:eN w (wr.alloc (γ #[ι κ o.1,ι κ o.2] 276)):=ja.alloc ja.size _;have hE3:Row (wr.alloc (γ #[ι κ o.1,ι κ o.2] 276)) 1 (σ (μ ⟨g,0,ν⟩) E.length cp) E.length (iZ E):=hE.alloc _;go_wp2_with(at_builtin;go_must(refine iX _ rfl (.tmp 31) (.tmp 38) 140 rfl 5 i0 (.int .u8 0) 1 1 aQ hi oz mW nT rfl eH _ E.length (iZ E) rfl (hE3.alloc _) _ 2 2 [.int .u8 o.1,.int .u8 o.2] rfl rfl eH ?hcc (lM _ _ _ _) m2 b2 ?_))
   case hcc=>
    have:=oS (wr.alloc (γ #[ι κ o.1,ι κ o.2] 276)) (.int .u8 o.1) (.int .u8 o.2) 5;simpa using this
   intro g2 cap2 w2 sE rz kV;have uh:μ g=μ g2 \/(wr.alloc (γ #[ι κ o.1,ι κ o.2] 276)).heap.size+1<=g2:=by
    rcases kV with h|h
    ·exact .inl h
    ·exact .inr (by simp;omega)
   have R:=Eb rz uh Ha WM;have sM:Row w2 1 (σ (μ ⟨g2,0,ν⟩) (E.length+2) cap2) (E++ [j8 o.1,j8 o.2]).length (iZ (E++ [j8 o.1,j8 o.2])):=by
    rw[lr,aA];simp only[iZ,eU,eV,nK o.1 o1a o1b,nK o.2 o2a o2b];exact sE
   have HN:Hid (E++ [j8 o.1,j8 o.2] =j8 code::j8 id::j8 os.length::zW (os.take (k+1))):=by
    show E++ [j8 o.1,j8 o.2] =_;rw[HE.out,HT.out,Kq];rfl
   have HLL:Hid ((E++ [j8 o.1,j8 o.2]).length=E.length+2):=by show(E++ [j8 o.1,j8 o.2]).length=E.length+2;simp
   clear sE rz kV uh hE ja WM hE3
   go_wp2
   go_roundw
   case rel=>exact⟨k+1,g2,cap2,_,HN.out,eE,by go_num,by rw[HLL.out],sM,R.1,R.2⟩
   case measure=>simp[ft];omega
  ·have WL:(convert 140 9 (σ (μ ⟨g,0,ν⟩) E.length cp)).run fk wr=.ok (.string ⟨E.toArray⟩) wr:=Row.back hE 140 9 5 aQ bK a8;have HF:Hid (lQ code id os=E):=by
    show lQ code id os=E;have wa:os.take k=os:=aK (by rw[HL.out];omega);rw[HE.out,wa];rfl
   clear hE;go_wp2_with(fail);rw[HF.out]
   go_ret2
   exact⟨rfl,ja⟩
theorem Q7:(fk.info? 276).map (λi=>(i.zero,i.size,i.bytes))=μ (μ (.agg #[ι κ 0,ι κ 0]),2,16):=gT
theorem Q8(w:eB):(zeroValue 37).run fk w=.ok (.agg #[ι κ 0,ι κ 0,σ ν 0 0]) w:=gT
theorem yY(w:eB)(x y:Value)(t:TypeId):∀(j:Nat) (u:Value),[x,y][j]? =μ u->(w.alloc (γ #[x,y] t)).drew.cell? ((⟨w.heap.size,0,ν⟩:Addr).add j)=μ u:=λj u hu=>oS w x y t j u hu
theorem qP {b:Nat} (jw:∀k,v.ownBlock=μ k->lo+2<=k)(hg:(wr.alloc o).drew.grownBy x1 v.ownBlock)(hb:b<lo+2)(kH:b<wr.heap.size):x1.heap[b]? =wr.heap[b]? :=by
 rw[hg.block b (by show b<(wr.alloc o).heap.size;simp;omega) (λe=>by have:=jw b e.symm;omega)];exact aT wr o b kH
theorem Ik(jw:∀k,v.ownBlock=μ k->lo+2<=k)(hg:(wr.alloc o).drew.grownBy x1 v.ownBlock)(hc:wr.cell? ⟨lo+1,j,ν⟩=μ u):x1.cell? ⟨lo+1,j,ν⟩=μ u:=by
 have kH:lo+1<wr.heap.size:=af wr _ hc;rw[ai (w:=wr) (a:=⟨lo+1,j,ν⟩) (qP (b:=lo+1) jw hg eE kH)];exact hc
theorem DQ(jw:∀k,v.ownBlock=μ k->lo+2<=k)(hg:(wr.alloc o).drew.grownBy x1 v.ownBlock)(hc:wr.cell? ⟨lo+1,j,ν⟩=μ u)(hf:wr.frozen? ⟨lo+1,j,ν⟩=false):x1.frozen? ⟨lo+1,j,ν⟩=false:=by
 have kH:lo+1<wr.heap.size:=af wr _ hc;rw[aN (w:=wr) (a:=⟨lo+1,j,ν⟩) (qP (b:=lo+1) jw hg eE kH)];exact hf
def mF:List UInt8->List j2
 |k::n::r=>((k.toNat:Int),(n.toNat:Int))::mF r
 |_=>[]
theorem zX(s:ByteArray)(k:Nat)(h:k<s.size):s.data.toList.drop k=s[k] ::s.data.toList.drop (k+1):=by
 rw[aR (by simpa using h)];rfl
theorem uK(Ks:wr.heap[w.heap.size]? =μ (γ #[ι κ 0,ι κ 0,σ ν 0 0] 37 (0,0)))(hb:eN wr w1):
 w1.cell? ⟨w.heap.size,0,ν⟩=μ (ι κ 0)/\w1.cell? ⟨w.heap.size,1,ν⟩=μ (ι κ 0)/\w1.cell? ⟨w.heap.size,2,ν⟩=μ (σ ν 0 0)/\∀j,w1.frozen? ⟨w.heap.size,j,ν⟩=false:=by
 have kH:w.heap.size<wr.heap.size:=(aw.1 Ks).1;have h1:w1.heap[w.heap.size]? =μ (γ #[ι κ 0,ι κ 0,σ ν 0 0] 37 (0,0)):=by rw[hb.block _ kH];exact Ks
 exact⟨av w1 _ 0 _ 37 (0,0) h1,av w1 _ 1 _ 37 (0,0) h1,av w1 _ 2 _ 37 (0,0) h1,λj=>bw w1 _ j _ 37 h1⟩
def jf(l:List UInt8):Int×Int×List j2×Nat:=
 if l.length<3 \/(l.length:Int)≠(3:Int)+(2:Int)*((l.getD 2 0).toNat:Int)then(0,0,[],4)
 else if jW ((l.getD 0 0).toNat:Int) ((l.getD 1 0).toNat:Int) (mF (l.drop 3))=0 then(((l.getD 0 0).toNat:Int),((l.getD 1 0).toNat:Int),mF (l.drop 3),0)
 else(0,0,[],4)
def B3(l:List UInt8)(w:eB)(e:Ending)(w':eB):Prop:=
 ∃(a:Option Addr) (n cap f:Nat) (code id:Int) (os:List j2),e=ρ (τ #[.agg #[ι κ code,ι κ id,σ a n cap],jy f])/\jm w' a n os/\n<=cap/\jf l=(code,id,os,f)/\eN w w'/\(∀j,eF (σ a n cap)=μ j->w.heap.size<=j/\j<w'.heap.size)/\kM a cap
theorem wA(s:ByteArray)(h3:3<=s.size)(heq:(s.size:Int)=(3:Int)+(2:Int)*(s[2].toNat:Int)):
 jf s.data.toList=if jW (s[0].toNat:Int) (s[1].toNat:Int) (mF (s.data.toList.drop 3))=0 then((s[0].toNat:Int),(s[1].toNat:Int),mF (s.data.toList.drop 3),0)else(0,0,[],4):=by
 have hl:s.data.toList.length=s.size:=iC;unfold jf;rw[nF s 0 eE,nF s 1 eE,nF s 2 eE,hl,ae eE]
theorem zY {x y z:Value} (ji:Row w1 2 (σ ao k cp) k (jh ok))(jw:∀j,eF (σ ao k cp)=μ j->w.heap.size+2<=j)(hb:eN w w1):
 jm (((w1.setCell ⟨w.heap.size,0,ν⟩ x).setCell ⟨w.heap.size,1,ν⟩ y).setCell ⟨w.heap.size,2,ν⟩ z) ao k ok/\eN w (((w1.setCell ⟨w.heap.size,0,ν⟩ x).setCell ⟨w.heap.size,1,ν⟩ y).setCell ⟨w.heap.size,2,ν⟩ z):=by
 refine⟨Row.opts (ji.keep iC (λj hj=> ?_)),((hb.setCell (Nat.le_refl _) _).setCell (Nat.le_refl _) _).setCell (Nat.le_refl _) _⟩;have:=jw j hj;rw[ak _ _ _ _ (by show j≠w.heap.size;omega),ak _ _ _ _ (by show j≠w.heap.size;omega),ak _ _ _ _ (by show j≠w.heap.size;omega)]
theorem AH(w:eB)(a b:Obj):((w.alloc a).alloc b).drew.heap[w.heap.size+1]? =μ b:=by
 have h:=aV (w.alloc a) b;have e:(w.alloc a).heap.size=w.heap.size+1:=iC;rw[e]at h;exact h
theorem yZ(w:eB)(a b:Obj):((w.alloc a).alloc b).drew.heap[w.heap.size]? =μ a:=by
 show((w.alloc a).alloc b).heap[w.heap.size]? =μ a;rw[aT (w.alloc a) b w.heap.size iC];exact aV w a
theorem FX {ob:Obj} {g' jL:Nat} {c d:Int} {x y:Nat}
 (Il:wr.heap[w.heap.size+1]? =μ (γ #[ι κ c,ι κ d,σ ao k cp] 37 (0,0)))
 (Ks:wr.heap[w.heap.size]? =μ (γ #[ι κ 0,ι κ 0,σ ν 0 0] 37 (0,0)))
 (_hrow:Row wr 2 (σ ao k cp) k (jh ok)) (jw:∀j,eF (σ ao k cp)=μ j->w.heap.size+2<=j) (ja:eN w wr)
 (hr:Row x1 2 (σ (μ ⟨g',0,ν⟩) (k+1) jL) (k+1) (jh ok++ [ι κ (fY.wrap (x:Int)),ι κ (fY.wrap (y:Int))]))
 (hg:(wr.alloc ob).drew.grownBy x1 (eF (σ ao k cp))) (jC:eF (σ ao k cp)=μ g' \/(wr.alloc ob).drew.heap.size<=g') (hx:x<2^8) (hy:y<2^8):
 Row (x1.setCell ⟨w.heap.size+1,2,ν⟩ (σ (μ ⟨g',0,ν⟩) (k+1) jL)) 2 (σ (μ ⟨g',0,ν⟩) (k+1) jL) (k+1) (jh (ok++ [((x:Int),(y:Int))]))/\
 (x1.setCell ⟨w.heap.size+1,2,ν⟩ (σ (μ ⟨g',0,ν⟩) (k+1) jL)).heap[w.heap.size+1]? =μ (γ #[ι κ c,ι κ d,σ (μ ⟨g',0,ν⟩) (k+1) jL] 37 (0,0))/\
 (x1.setCell ⟨w.heap.size+1,2,ν⟩ (σ (μ ⟨g',0,ν⟩) (k+1) jL)).heap[w.heap.size]? =μ (γ #[ι κ 0,ι κ 0,σ ν 0 0] 37 (0,0))/\
 (∀j,eF (σ (μ ⟨g',0,ν⟩) (k+1) jL)=μ j->w.heap.size+2<=j)/\eN w (x1.setCell ⟨w.heap.size+1,2,ν⟩ (σ (μ ⟨g',0,ν⟩) (k+1) jL)):=by
 have kH:w.heap.size+1<wr.heap.size:=(aw.1 Il).1;have k1:=qP (b:=w.heap.size+1) jw hg eE kH;have k0:=qP (b:=w.heap.size) jw hg eE eE;have WN:(wr.alloc ob).drew.heap.size=wr.heap.size+1:=by show(wr.alloc ob).heap.size=_;simp
 have MA:w.heap.size+2<=g':=by
  rcases jC with h|h
  ·exact jw g' h
  ·omega
 have DK:x1.heap[w.heap.size+1]? =μ (γ #[ι κ c,ι κ d,σ ao k cp] 37 (0,0)):=by rw[k1];exact Il
 refine⟨?_,?_,?_,?_,?_⟩
 ·have ex:fY.wrap (x:Int)=(x:Int):=aS _ ⟨eE,eE⟩;have ey:fY.wrap (y:Int)=(y:Int):=aS _ ⟨eE,eE⟩;rw[ex,ey,<-mS ok ((x:Int),(y:Int))]at hr;refine hr.keep iC (λj hj=> ?_);have:g'=j:=by simpa[eF]using hj
  exact ak _ _ _ _ (by show j≠w.heap.size+1;omega)
 ·rw[bF x1 (w.heap.size+1) 2 _ 37 (0,0) _ DK];exact cD x1 _ _ _ 37 (0,0) DK
 ·rw[ak _ _ _ _ (by show w.heap.size≠w.heap.size+1;omega),k0];exact Ks
 ·intro j hj;have:g'=j:=by simpa[eF]using hj
  omega
 ·have mf:eN w (wr.alloc ob).drew:=(ja.alloc ja.size _).drew;refine bq ?_ (by show w.heap.size<=w.heap.size+1;omega) _;refine mf.grown hg eE (λj hj=> ?_);have:=jw j hj;omega
theorem FY(s:ByteArray)(w:eB)(hs:s.size<=1000)(h3:3<=s.size)(heq:(s.size:Int)=(3:Int)+(2:Int)*(s[2].toNat:Int)):
 fj fk 184 #[.string s] w λe w'=>B3 s.data.toList w e w':=by
 obtain⟨i0,hi,oz,mW,nT⟩:=aW Q7;have hz:=Q8;have g1:¬(s.size:Int)<3:=eE;have mf:=s[2].toNat_lt;have g2:((s.size:Int) !=(3:Int)+(2:Int)*(s[2].toNat:Int))=false:=by rw[heq];simp
 have HE:Hid _:=heq;clear heq;have b0:0<s.size:=eE;have b1:1<s.size:=eE;have b2:2<s.size:=eE;have wT:=s[0].toNat_lt;have kt:=s[1].toNat_lt;have z0:(0:Int)<(s.size:Int):=eE;have z1:(1:Int)<(s.size:Int):=eE
 go_in
 go_wp2
 go_region
 go_wp2
 go_loopw [5] (λi wr=>∃(k cp:Nat) (ao:Option Addr) (ok:List j2),3+2*k<=s.size/\i=ι κ ((3+2*k:Nat):Int)/\ok.length=k/\mF (s.data.toList.drop 3)=ok++mF (s.data.toList.drop (3+2*k))/\Row wr 2 (σ ao k cp) k (jh ok)/\
  wr.heap[w.heap.size+1]? =μ (γ #[ι κ (s[0].toNat:Int),ι κ (s[1].toNat:Int),σ ao k cp] 37 (0,0))/\wr.heap[w.heap.size]? =μ (γ #[ι κ 0,ι κ 0,σ ν 0 0] 37 (0,0))/\
  (∀j,eF (σ ao k cp)=μ j->w.heap.size+2<=j)/\eN w wr)
  (λi _=>s.size-(ft i).toNat)
 case atStart=>
  refine⟨0,0,ν,[],eE,rfl,rfl,rfl,Row.nil _ _,?_,?_,λj hj=>by simp[eF]at hj,(((au _ _).alloc (Nat.le_refl _) _).alloc iC _).drew⟩
  ·exact AH w _ _
  ·exact yZ w _ _
 case round=>
  obtain⟨k,cp,ao,ok,hk,rfl,jb,hP0,ji,Il,Ks,jw,ja⟩:=hrel;have hP:Hid _:=hP0;clear hP0;have cv:wr.cell? ⟨w.heap.size+1,2,ν⟩=μ (σ ao k cp):=av wr _ 2 _ 37 (0,0) Il;have fv:wr.frozen? ⟨w.heap.size+1,2,ν⟩=false:=bw wr _ 2 _ 37 Il;have UZ:w.heap.size+1<wr.heap.size:=af wr _ cv;have Yr:Hid _:=Il;have Ys:Hid _:=Ks;clear Il Ks;by_cases kH:3+2*k<s.size
  ·have DR:3+2*k+1<s.size:=by have:=HE.out;omega
   obtain⟨q,hq⟩:∃q,q=3+2*k:=⟨_,rfl⟩
   rw[<-hq]at kH DR;have HQ:Hid _:=hq;have y0:(0:Int)<=(q:Int):=eE;have y1:(q:Int)<(s.size:Int):=eE;have y2:(q:Int)+1<(s.size:Int):=eE;have y3:(0:Int)<=(q:Int)+1:=eE;have yw:fY.wrap ((q:Int)+1)=(q:Int)+1:=aS _ ⟨eE,eE⟩;have hbq:=s[q].toNat_lt;have afI:=s[q+1].toNat_lt;have m1:k+1<=maxLen:=by unfold maxLen;omega
   have bb1:(k+1)*16<=140737488355328:=eE;rw[<-hq];clear hq;have HP2:Hid (mF (s.data.toList.drop 3)=(ok++ [((s[q].toNat:Int),(s[q+1].toNat:Int))])++mF (s.data.toList.drop (3+2*(k+1)))):=by
    show mF (s.data.toList.drop 3)=_;rw[hP.out,<-HQ.out,zX s q kH,zX s (q+1) DR];have e1:q+1+1=3+2*(k+1):=by have:=HQ.out;omega
    rw[e1];simp[mF]
   go_wp2
   go_region_law ((refine kL (by rfl) (.tmp 35) (.tmp 46) 35 (by rfl) 276 i0 (.agg #[ι κ 0,ι κ 0]) 2 16 a9 hi oz mW nT (by rfl) eH (σ ao k cp) k (jh ok) (by rfl) ((ji.alloc _).drew) _ 1 1 [ι κ (fY.wrap (s[q].toNat:Int)),ι κ (fY.wrap (s[q+1].toNat:Int))] (by rfl) (by rfl) eH (yY _ _ _ _) (lM _ _ _ _) m1 bb1 ?_;intro g' jL x1 kU ki jD;have c1:=Ik jw ki cv;have f1:=DQ jw ki cv fv))
   all_goals have hS:=FX (c:=(s[0].toNat:Int)) (d:=(s[1].toNat:Int)) Yr.out Ys.out ji jw ja kU ki jD s[q].toNat_lt s[q+1].toNat_lt
   all_goals clear kU ki jD c1 f1
   all_goals go_wp2_with(fail)
   all_goals go_roundw
   all_goals first
    |exact⟨k+1,jL,some ⟨g',0,none⟩,_,by have:=HQ.out;omega,by have:=HQ.out;go_num,by simp[jb],HP2.out,hS⟩
    |(simp[ft];omega)
  ·have hkm:3+2*k=s.size:=eE;have Q9:mF (s.data.toList.drop 3)=ok:=by
    rw[hP.out,hkm,aX (by show s.size<=s.size;omega)];simp[mF]
   have AG:=ji.opts;have A6:=ji.Qj;have c0:wr.cell? ⟨w.heap.size+1,0,ν⟩=μ (ι κ (s[0].toNat:Int)):=av wr _ 0 _ 37 (0,0) Yr.out;have c1:wr.cell? ⟨w.heap.size+1,1,ν⟩=μ (ι κ (s[1].toNat:Int)):=av wr _ 1 _ 37 (0,0) Yr.out;have kP:=sN (s[0].toNat:Int) (s[1].toNat:Int) ao k cp ok wr eE A6 AG;have HK:Hid _:=Q9;clear hP Q9 hkm;by_cases hf:jW (s[0].toNat:Int) (s[1].toNat:Int) ok=0
   ·have e0:jy 0=η:=rfl;rw[hf,e0]at kP;clear e0;have HF:Hid _:=hf;clear hf;go_wp2_with(fail);refine kP.mono ?_;rintro e w1 ⟨rfl,kt⟩;have d0:=(kt.cell (p:=⟨w.heap.size+1,0,ν⟩) UZ).trans c0;have d1:=(kt.cell (p:=⟨w.heap.size+1,1,ν⟩) UZ).trans c1;have d2:=(kt.cell (p:=⟨w.heap.size+1,2,ν⟩) UZ).trans cv;obtain⟨r0,r1,r2,r3⟩:=uK Ys.out kt;have sT:=iA ja kt;have HNW:Hid ((∀j,eF (σ ao k cp)=μ j->w.heap.size<=j/\j<w1.heap.size)/\kM ao cp):=⟨λj hj=>⟨by have:=jw j hj;omega,(ji.below kt).lt j hj⟩,λe=>by
     rcases ji.2 with⟨e1,_⟩|⟨g9,c9,e1,_⟩
     ·simp at e1;exact e1.2.2
     ·rw[e]at e1;simp at e1⟩
    have hE:=zY (x:=ι κ (s[0].toNat:Int)) (y:=ι κ (s[1].toNat:Int)) (z:=σ ao k cp) (ji.below kt) jw sT;have HV:Hid (jf s.data.toList=((s[0].toNat:Int),(s[1].toNat:Int),ok,0)):=by
     show jf s.data.toList=_;rw[wA s h3 HE.out,HK.out,ag HF.out]
    clear kP kt c0 c1 cv ji;go_wp2_with(fail);refine aj (v:=τ #[.agg #[ι κ (s[0].toNat:Int),ι κ (s[1].toNat:Int),σ ao k cp],η]) (by simp[results,gb,go_sem,r0,r1,r2]) rfl ?_;exact⟨ao,k,cp,0,_,_,ok,rfl,hE.1,A6,HV.out,hE.2,λj hj=>⟨(HNW.out.1 j hj).1,by simpa using(HNW.out.1 j hj).2⟩,HNW.out.2⟩
   ·have e0:jy (jW (s[0].toNat:Int) (s[1].toNat:Int) ok)=.iface 128 (ι κ (jW (s[0].toNat:Int) (s[1].toNat:Int) ok:Int)):=by simp[jy,hf]
    rw[e0]at kP;clear e0;have HF:Hid _:=hf;clear hf;have HV:Hid (jf s.data.toList=(0,0,[],4)):=by
     show jf s.data.toList=_;rw[wA s h3 HE.out,HK.out,ae HF.out]
    generalize jW (s[0].toNat:Int) (s[1].toNat:Int) ok=ff at kP;go_wp2_with(fail);refine kP.mono ?_;rintro e w1 ⟨rfl,kt⟩;obtain⟨r0,r1,r2,r3⟩:=uK Ys.out kt;have sT:=iA ja kt;have hE:=zY (ok:=[]) (ao:=ν) (k:=0) (cp:=0) (x:=ι κ 0) (y:=ι κ 0) (z:=σ ν 0 0) (Row.nil w1 2) (λj hj=>by simp[eF]at hj) sT;clear kP kt c0 c1 cv ji AG;go_wp2_with(fail);refine aj (v:=τ #[.agg #[ι κ 0,ι κ 0,σ ν 0 0],.iface 128 (ι κ 4)]) (by simp[results,gb,go_sem,r0,r1,r2]) rfl ?_;exact⟨ν,0,0,4,0,0,[],rfl,hE.1,Nat.le_refl _,HV.out,hE.2,λj hj=>by simp[eF]at hj,λ_=>rfl⟩
theorem zZ(s:ByteArray)(w:eB)(hs:s.size<=1000)(h:jf s.data.toList=(0,0,[],4))(hb:s.size<3 \/ ∃h3:3<=s.size,(s.size:Int)≠(3:Int)+(2:Int)*(s[2].toNat:Int)):
 fj fk 184 #[.string s] w λe w'=>B3 s.data.toList w e w':=by
 have hz:=Q8;have HV:Hid _:=h;clear h;have l7:eN w (w.alloc (γ #[ι κ 0,ι κ 0,σ ν 0 0] 37)):=(au _ _).alloc (Nat.le_refl _) _;have kj:jm (w.alloc (γ #[ι κ 0,ι κ 0,σ ν 0 0] 37)) ν 0 [] :=⟨rfl,.inl rfl⟩
 rcases hb with h1|⟨h3,h2⟩
 ·have g1:(s.size:Int)<3:=eE
  go_in
  go_wp2_with(fail);refine aj (v:=τ #[.agg #[ι κ 0,ι κ 0,σ ν 0 0],.iface 128 (ι κ 4)]) (by simp[results,gb,go_sem]) rfl ?_;exact⟨ν,0,0,4,0,0,[],rfl,kj,Nat.le_refl _,HV.out,l7,λj hj=>by simp[eF]at hj,λ_=>rfl⟩
 ·have g1:¬(s.size:Int)<3:=eE;have mf:=s[2].toNat_lt;have b2:2<s.size:=eE;have g2:((s.size:Int) !=(3:Int)+(2:Int)*(s[2].toNat:Int))=true:=by rw[bne_iff_ne];exact h2
  clear h2
  go_in
  go_wp2_with(fail);refine aj (v:=τ #[.agg #[ι κ 0,ι κ 0,σ ν 0 0],.iface 128 (ι κ 4)]) (by simp[results,gb,go_sem]) rfl ?_;exact⟨ν,0,0,4,0,0,[],rfl,kj,Nat.le_refl _,HV.out,l7,λj hj=>by simp[eF]at hj,λ_=>rfl⟩
theorem Io(s:ByteArray)(w:eB)(hs:s.size<=1000):fj fk 184 #[.string s] w λe w'=>B3 s.data.toList w e w':=by
 have hl:s.data.toList.length=s.size:=iC;by_cases h3:3<=s.size
 ·by_cases heq:(s.size:Int)=(3:Int)+(2:Int)*(s[2].toNat:Int)
  ·exact FY s w hs h3 heq
  ·refine zZ s w hs ?_ (.inr ⟨h3,heq⟩);unfold jf;rw[nF s 2 eE,hl,ag (.inr heq)]
 ·refine zZ s w hs ?_ (.inl eE);unfold jf;rw[hl,ag (.inl eE)]
end Go.Proofs.YtieklnlbljejdaaGreatDoor
