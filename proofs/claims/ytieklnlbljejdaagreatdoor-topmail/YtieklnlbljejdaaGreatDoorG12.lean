import Derived.Test.YtieklnlbljejdaaGreatDoorG07
open Go.Value renaming int → ι, slice → σ, pointer → π, tuple → τ, nilIface → η
open Go.IntKind renaming i64 → κ
open Go.Ending renaming returned → ρ
open Go.Obj renaming cells → γ
open Option renaming none → ν, some → μ
open Go renaming World → eB, Calls → fj, Value → eD, TypeId → eG
open Go.Proofs.Tryz renaming prog → fk, results187 → gp, results84 → gq, results186 → gw, results188 → gE
open Go.RowKit renaming intOf → ft
open List renaming map_cons → eU, map_nil → eV
open BitVec renaming ofInt → fq, ofInt_natCast → gA, toNat_ofNat → gD
open Go.IntKind renaming i64 → fY
open Go.Value renaming ownBlock → eF
set_option maxRecDepth 100000
set_option maxHeartbeats 4000000
namespace Go.Proofs.YtieklnlbljejdaaGreatDoor
open Go.RowKit St
variable {ao:Option Addr} {cp j k lo:Nat} {o:Obj} {ok:List j2} {u v:Value} {w w1 wr x1:World}
theorem AJ(c i:Int)(a:Option Addr)(n cap:Nat)(w:eB):
 fj fk 65 #[.agg #[ι κ c,ι κ i,σ a n cap]] w λe w'=>e=ρ (.bool (decide ((n:Int)<=12)))/\eN w w':=by
 go_in
 go_wp2
 go_ret;exact⟨rfl,(au _ _).alloc (Nat.le_refl _) _⟩
theorem DT(a:Option Addr)(n cap:Nat)(V:Nat->AV)(E:Nat->List j2)(most:Int)(w:eB)(h:BU w a n V E)(hm:most<=1000):
 fj fk 16 #[σ a n cap,ι κ most] w λe w'=>(∃b:Bool,e=ρ (.bool b)/\(b=true->(n:Int)<=most/\∀j,j<n->(V j).x.n<=9/\(V j).pn<=12/\(V j).s.size<=200))/\eN w w':=by
 by_cases h0:most<(n:Int)
 ·go_in
  go_wp2
  go_ret;exact⟨⟨false,rfl,λh=>by cases h⟩,au _ _⟩
 go_in
 go_wp2
 go_loopw [5] (λi wr=>∃k:Nat,k<=n/\i=ι κ k/\(∀j,j<k->(V j).x.n<=9/\(V j).pn<=12/\(V j).s.size<=200)/\eN w wr) (λi _=>n-(ft i).toNat)
 case atStart=>exact⟨0,Nat.zero_le _,rfl,λj hj=>eE,au _ _⟩
 case round=>
  obtain⟨k,hk,rfl,hA,ja⟩:=hrel;have HA:Hid _:=hA;clear hA;by_cases kH:k<n
  ·have nG:(k:Int)<(n:Int):=eE;obtain⟨_,_,hxn,hpn⟩:=h.opt k kH;rcases h.row with h1|⟨b,off,rfl,hcs⟩
   ·omega
   have HAT:Hid (∀W,eN w W->(V k).at_ W b (off+k*12)):=λW hW=>(hcs k kH).below hW;obtain⟨v,hv⟩:=gH (V k);rw[hv]at HAT hxn hpn;have HVk:Hid _:=hv;obtain⟨vk,va,vb,vc,vd,vs,WX,WY,WZ,Uh,z9,vx⟩:=v;obtain⟨xo,xq,xa,xn,xc⟩:=vx;simp only at hxn hpn;obtain⟨c0,c1,c2,c3,c4,c5,c6,c7,c8,c9,Qx,UF⟩:=HAT.out wr ja;simp only at c5 c6 c7 c8 UF;have hlp:=AJ WX WY WZ Uh z9 wr;unfold maxLen at hxn hpn;have HB:Hid _:=ja;clear hcs hv ja c0 c1 c2 c3 c4 c9 Qx;by_cases hs:200<(vs.size:Int)
   ·go_wp2
    go_ret;exact⟨⟨false,rfl,λh=>by cases h⟩,HB.out⟩
   ·by_cases hp:(Uh:Int)<=12
    ·rw[du hp]at hlp;go_wp2_with(fail);refine hlp.mono ?_;rintro e w1 ⟨rfl,k1⟩;have kt:=iA HB.out k1;obtain⟨_,_,_,_,_,_,_,_,_,_,_,d11⟩:=HAT.out w1 kt;simp only at d11;have Bf:Hid _:=kt;clear hlp k1 kt c5 c6 c7 c8 UF;by_cases h9:9<(xn:Int)
     ·go_wp2
      go_ret;exact⟨⟨false,rfl,λh=>by cases h⟩,Bf.out⟩
     ·go_wp2
      go_roundw
      case rel=>
       refine⟨k+1,eE,by go_num,λj hj=> ?_,Bf.out⟩;by_cases WW:j=k
       ·rw[WW,HVk.out];show xn<=9/\Uh<=12/\vs.size<=200;omega
       ·exact HA.out j eE
      case measure=>simp[ft];omega
    ·rw[bG hp]at hlp;go_wp2_with(fail);refine hlp.mono ?_;rintro e w1 ⟨rfl,k1⟩;have Bf:Hid _:=iA HB.out k1;clear hlp k1
     go_wp2
     go_ret;exact⟨⟨false,rfl,λh=>by cases h⟩,Bf.out⟩
  ·have yG:¬(k:Int)<(n:Int):=eE
   go_wp2
   go_ret
   first|exact⟨.inr ⟨rfl,λj hj=>HA.out j eE⟩,ja⟩|exact⟨⟨true,rfl,λ_=>⟨eE,λj hj=>HA.out j eE⟩⟩,ja⟩|exact⟨.inr ⟨rfl,eE,λj hj=>HA.out j eE⟩,ja⟩
theorem jr.drew {w:eB} {B:Nat} {C:Array eD} {t:eG} (h:jr w B C t):jr w.drew B C t:=h
abbrev YC:=Int×Bool×Int
def xV(me f s:Int):YC:=if f=me then(0,false,0)else(f,s==me,4)
def jx(p:YC):YC:=if p.2.2<=1 then(0,false,0)else(p.1,p.2.1,p.2.2-1)
theorem Ce(w:eB):(zeroValue 116).run fk w=.ok (.agg #[ι κ 0,.bool false,ι κ 0]) w:=gT
theorem Ex(w:eB):(zeroValue 230).run fk w=.ok (.agg #[ι κ 0,ι κ 0]) w:=gT
theorem RE(a c me f s:Int)(b:Bool)(w:eB):fj fk 187 #[.agg #[ι κ a,.bool b,ι κ c],ι κ me,.agg #[ι κ f,ι κ s]] w λe w'=>
 e=ρ (.agg #[ι κ (xV me f s).1,.bool (xV me f s).2.1,ι κ (xV me f s).2.2])/\eN w w':=by
 have hz:=Ce;have hb:∀(A B C:Array eD) (t u v:eG),eN w (((w.alloc (γ A t)).alloc (γ B u)).alloc (γ C v)):=λA B C t u v=>((iB _ _).alloc iC _).alloc (by simp;omega) _;cases q:(f==me)
 ·have hv:xV me f s=(f,s==me,4):=by simp at q;simp[xV,q]
  rw[hv];clear hv
  go_in
  go_wp2
  refine aj (v:=.agg #[ι κ f,.bool (s==me),ι κ 4]) (by simp[results,gp,go_sem]) rfl ?_;exact⟨rfl,hb _ _ _ _ _ _⟩
 ·have hv:xV me f s=(0,false,0):=by simp at q;simp[xV,q]
  rw[hv];clear hv
  go_in
  go_wp2
  refine aj (v:=.agg #[ι κ 0,.bool false,ι κ 0]) (by simp[results,gp,go_sem]) rfl ?_;exact⟨rfl,hb _ _ _ _ _ _⟩
theorem RF(a c:Int)(b:Bool)(w:eB)(hc:0<=c)(P6:c<=100):fj fk 84 #[.agg #[ι κ a,.bool b,ι κ c]] w λe w'=>
 e=ρ (.agg #[ι κ (jx (a,b,c)).1,.bool (jx (a,b,c)).2.1,ι κ (jx (a,b,c)).2.2])/\eN w w':=by
 have hz:=Ce;have hb:∀(A B:Array eD) (t u:eG),eN w ((w.alloc (γ A t)).alloc (γ B u)):=λA B t u=>(iB _ _).alloc iC _;by_cases q:c<=1
 ·have hv:jx (a,b,c)=(0,false,0):=by simp[jx,q]
  rw[hv];clear hv
  go_in
  go_wp2
  refine aj (v:=.agg #[ι κ 0,.bool false,ι κ 0]) (by simp[results,gq,go_sem]) rfl ?_;exact⟨rfl,hb _ _ _ _⟩
 ·have hv:jx (a,b,c)=(a,b,c-1):=by simp[jx,q]
  rw[hv];clear hv
  go_in
  go_wp2
  refine aj (v:=.agg #[ι κ a,.bool b,ι κ (c-1)]) (by simp[results,gq,go_sem]) rfl ?_;exact⟨rfl,hb _ _ _ _⟩
theorem RG(a c me:Int)(b:Bool)(w:eB):fj fk 149 #[.agg #[ι κ a,.bool b,ι κ c],ι κ me] w λe w'=>
 e=ρ (.agg #[ι κ me,ι κ a])/\eN w w':=by
 have hz:=Ex;have hb:∀(A B:Array eD) (t u:eG),eN w ((w.alloc (γ A t)).alloc (γ B u)):=λA B t u=>(iB _ _).alloc iC _
 go_in
 go_wp2
 refine aj (v:=.agg #[ι κ me,ι κ a]) (by simp[results,Tryz.results149,go_sem]) rfl ?_;exact⟨rfl,hb _ _ _ _⟩
open St (u8 oN)
theorem W6(W:eB)(a b:Int)(a0:0<=a)(a1:a<=255)(b0:0<=b)(b1:b<=255):(convert 140 9 (σ (μ ⟨W.heap.size,0,ν⟩) 2 2)).run fk (W.alloc (γ #[.int .u8 a,.int .u8 b] 5))=.ok (.string ⟨#[u8 a,u8 b]⟩) (W.alloc (γ #[.int .u8 a,.int .u8 b] 5)):=by
 have h:Row (W.alloc (γ #[.int .u8 a,.int .u8 b] 5)) 1 (σ (μ ⟨W.heap.size,0,ν⟩) 2 2) 2 (iZ [u8 a,u8 b]):=by
  refine Row.made W 1 _ _ (0,0) 2 2 _ rfl rfl (Nat.le_refl _) eH (.inl rfl) ?_;intro j u hu;simp only[iZ,eU,eV,oN a a0 a1,oN b b0 b1]at hu;simpa using hu
 exact Row.back h 140 9 5 aQ bK a8
def ur(f s:Int):Bool:=decide (1<=f)&&decide (f<=6)&&decide (0<=s)&&decide (s<=6)
theorem KI(f s:Int):∀(Q:Prop),(¬1<=f->ur f s=false->Q)->(1<=f->¬f<=6->ur f s=false->Q)->(1<=f->f<=6->¬0<=s->ur f s=false->Q)->(1<=f->f<=6->0<=s->¬s<=6->ur f s=false->Q)->(1<=f->f<=6->0<=s->s<=6->ur f s=true->Q)->Q:=by
 intro Q q1 q2 q3 q4 q5;by_cases h1:1<=f
 ·by_cases h2:f<=6
  ·by_cases h3:0<=s
   ·by_cases h4:s<=6
    ·exact q5 h1 h2 h3 h4 (by simp[ur,h1,h2,h3,h4])
    ·exact q4 h1 h2 h3 h4 (by simp[ur,h4])
   ·exact q3 h1 h2 h3 (by simp[ur,h3])
  ·exact q2 h1 h2 (by simp[ur,h2])
 ·exact q1 h1 (by simp[ur,h1])
theorem vL(f s:Int)(w:eB):fj fk 196 #[.agg #[ι κ f,ι κ s]] w λe w'=>e=ρ (.bool (ur f s))/\eN w w':=by
 refine KI f s _ ?_ ?_ ?_ ?_ ?_
 all_goals
  intros
  rename_i hv
  rw[hv];clear hv
  go_in
  go_wp2
  go_ret;exact⟨by first|rfl|(simp;omega),iB _ _⟩
theorem Ix(f s:Int)(w:eB)(h1:1<=f)(h2:f<=6)(h3:0<=s)(h4:s<=6)(h:ur f s=true):fj fk 148 #[.agg #[ι κ f,ι κ s]] w λe w'=>e=ρ (τ #[.string ⟨#[u8 f,u8 s]⟩,η])/\eN w w':=by
 have hm:=vL f s (w.alloc (γ #[ι κ f,ι κ s] 230));rw[h]at hm;have pN:=iB w (γ #[ι κ f,ι κ s] 230);have hA:=jr.new w #[ι κ f,ι κ s] 230;have uM:=λW=>W6 W f s eE eE eE eE;clear h
 go_in
 go_wp2_with(fail);refine hm.mono ?_;rintro e w1 ⟨rfl,k1⟩;have hB:=hA.below k1;have c0:w1.cell? ⟨w.heap.size,0,ν⟩=μ (ι κ f):=hB.cell 0;have c1:w1.cell? ⟨w.heap.size,1,ν⟩=μ (ι κ s):=hB.cell 1;have l1:w.heap.size<w1.heap.size:=hB.lt;have hk:=iA pN k1;clear hA hB hm k1
 go_wp2
 go_ret2
 exact⟨rfl,hk.alloc hk.size _⟩
def mG(l:List UInt8):Int×Int×Nat:=
 if l.length=2/\ur ((l.getD 0 0).toNat:Int) ((l.getD 1 0).toNat:Int)=true then(((l.getD 0 0).toNat:Int),((l.getD 1 0).toNat:Int),0)else(0,0,4)
theorem KJ(s:ByteArray)(w:eB):fj fk 186 #[.string s] w λe w'=>e=ρ (τ #[.agg #[ι κ (mG s.data.toList).1,ι κ (mG s.data.toList).2.1],jy (mG s.data.toList).2.2])/\eN w w':=by
 have hz:=Ex;have hl:s.data.toList.length=s.size:=iC;by_cases h2:s.size=2
 ·have b0:0<s.size:=eE;have b1:1<s.size:=eE;have z0:(0:Int)<(s.size:Int):=eE;have z1:(1:Int)<(s.size:Int):=eE;have wT:=s[0].toNat_lt;have kt:=s[1].toNat_lt;have g2:((s.size:Int) !=2)=false:=by rw[h2];rfl
  have pN:eN w ((w.alloc (γ #[ι κ 0,ι κ 0] 230)).alloc (γ #[ι κ (s[0].toNat:Int),ι κ (s[1].toNat:Int)] 230)).drew:=jO ((iB _ _).alloc iC _);have hR:=(jr.new w #[ι κ 0,ι κ 0] 230).below (iB (w.alloc (γ #[ι κ 0,ι κ 0] 230)) (γ #[ι κ (s[0].toNat:Int),ι κ (s[1].toNat:Int)] 230));have hX:jr ((w.alloc (γ #[ι κ 0,ι κ 0] 230)).alloc (γ #[ι κ (s[0].toNat:Int),ι κ (s[1].toNat:Int)] 230)) (w.heap.size+1) #[ι κ (s[0].toNat:Int),ι κ (s[1].toNat:Int)] 230:=jr.Hf _ _ _ _ iC;have HV:Hid (mG s.data.toList=if ur (s[0].toNat:Int) (s[1].toNat:Int)=true then((s[0].toNat:Int),(s[1].toNat:Int),0)else(0,0,4)):=by
   show _=_;unfold mG;rw[nF s 0 b0,nF s 1 b1,hl];simp[h2]
  have HS:Hid _:=h2;clear h2 hl
  go_in
  go_wp2
  go_region
  go_wp2_with(fail);obtain⟨W1,ke⟩:=gH (((w.alloc (γ #[ι κ 0,ι κ 0] 230)).alloc (γ #[ι κ (s[0].toNat:Int),ι κ (s[1].toNat:Int)] 230)).drew);have WR:jr W1 w.heap.size #[ι κ 0,ι κ 0] 230:=by rw[<-ke];exact hR
  have Ms:jr W1 (w.heap.size+1) #[ι κ (s[0].toNat:Int),ι κ (s[1].toNat:Int)] 230:=by rw[<-ke];exact hX
  rw[ke]at pN⊢;clear ke hR hX;generalize s[0].toNat=x at*;generalize s[1].toNat=y at*;refine(vL (x:Int) (y:Int) _).mono ?_;rintro e w2 ⟨rfl,k2⟩;have Hs:=WR.below k2;have qE:=Ms.below k2;have r0:w2.cell? ⟨w.heap.size,0,ν⟩=μ (ι κ 0):=Hs.cell 0;have r1:w2.cell? ⟨w.heap.size,1,ν⟩=μ (ι κ 0):=Hs.cell 1;have rf:=Hs.frozen;have rl:=Hs.lt;have x0:w2.cell? ⟨w.heap.size+1,0,ν⟩=μ (ι κ (x:Int)):=qE.cell 0;have x1:w2.cell? ⟨w.heap.size+1,1,ν⟩=μ (ι κ (y:Int)):=qE.cell 1;have hk:=iA pN k2;cases hq:ur (x:Int) (y:Int)
  ·have QQ:Hid (mG s.data.toList=(0,0,4)):=by show _=_;rw[HV.out,ae (by simp[hq])]
   clear HV hq;go_wp2_with(fail);rw[QQ.out];refine aj (v:=τ #[.agg #[ι κ 0,ι κ 0],.iface 128 (ι κ 4)]) (by simp[results,gw,go_sem,r0,r1]) rfl ?_;exact⟨rfl,(hk.setCell (Nat.le_refl _) _).setCell (Nat.le_refl _) _⟩
  ·have QQ:Hid (mG s.data.toList=((x:Int),(y:Int),0)):=by show _=_;rw[HV.out,ag hq]
   clear HV hq;go_wp2_with(fail);rw[QQ.out];refine aj (v:=τ #[.agg #[ι κ (x:Int),ι κ (y:Int)],η]) (by simp[results,gw,go_sem,r0,r1]) rfl ?_;exact⟨rfl,(hk.setCell (Nat.le_refl _) _).setCell (Nat.le_refl _) _⟩
 ·have g2:((s.size:Int) !=2)=true:=by rw[bne_iff_ne];omega
  have l7:=iB w (γ #[ι κ 0,ι κ 0] 230);have HV:Hid (mG s.data.toList=(0,0,4)):=by show _=_;unfold mG;rw[hl,ae eE]
  clear h2 hl
  go_in
  go_wp2_with(fail);rw[HV.out];refine aj (v:=τ #[.agg #[ι κ 0,ι κ 0],.iface 128 (ι κ 4)]) (by simp[results,gw,go_sem]) rfl ?_;exact⟨rfl,l7⟩
theorem RH:(fk.info? 5).map (λi=>(i.zero,i.size,i.bytes))=μ (μ (.int .u8 0),1,1):=gT
def stH(own seq:Int):List UInt8:=[St.u8 own,St.u8 (seq%256),St.u8 (seq/256%256),St.u8 (seq/65536)]
theorem U9(own seq:Int):(stH own seq).length=4:=rfl
theorem RI(w:eB)(own seq:Int)(p1:1<=own)(p2:own<=6)(p3:1<=seq)(p4:seq<=1000000):Row (w.alloc (γ #[.int .u8 own,.int .u8 (seq%256),.int .u8 (seq/256%256),.int .u8 (seq/65536)] 5)) 1 (σ (μ ⟨w.heap.size,0,ν⟩) 4 4) 4 (iZ [St.u8 own,St.u8 (seq%256),St.u8 (seq/256%256),St.u8 (seq/65536)]):=by
 refine Row.made w 1 _ _ (0,0) 4 4 _ rfl rfl (Nat.le_refl _) eH (.inl rfl) ?_;intro j u hu;simp only[iZ,eU,eV,oN own eE eE,oN (seq%256) eE eE,oN (seq/256%256) eE eE,oN (seq/65536) eE eE]at hu;simpa using hu
theorem KK(own seq:Int)(a:Option Addr)(n cap:Nat)(os:List j2)(w:eB)(ho:jm w a n os)(hf:pj own seq os=0):
 fj fk 198 #[.agg #[ι κ own,ι κ seq,σ a n cap]] w λe w'=>e=ρ (τ #[.string ⟨(sj own seq os).toArray⟩,η])/\eN w w':=by
 obtain⟨i0,hi,oz,mW,nT⟩:=aW RH;obtain⟨⟨p1,p2⟩,⟨p3,p4⟩,p5,p6⟩:=jT hf;have oA:=ru own os 0 p6;have hl:=ho.1;have l7:=iB w (γ #[ι κ own,ι κ seq,σ a n cap] 40);have kP:=wQ own seq a n cap os _ eE (ho.below l7);have e0:jy 0=η:=rfl;rw[hf,e0]at kP;clear e0 p6 hf
 go_in
 go_wp2_with(fail);refine kP.mono ?_;rintro e w1 ⟨rfl,kt⟩;obtain⟨q0,q1,q2,hz⟩:=afa kt;have sT:=iA l7 kt;clear kt kP l7;go_wp2_with(fail);have ug:Row (w1.alloc (γ #[.int .u8 own,.int .u8 (seq%256),.int .u8 (seq/256%256),.int .u8 (seq/65536)] 5)) 1 (σ (μ ⟨w1.heap.size,0,ν⟩) 4 4) 4 (iZ [St.u8 own,St.u8 (seq%256),St.u8 (seq/256%256),St.u8 (seq/65536)]):=RI w1 own seq p1 p2 p3 p4;have wT:eN w (w1.alloc (γ #[.int .u8 own,.int .u8 (seq%256),.int .u8 (seq/256%256),.int .u8 (seq/65536)] 5)):=sT.alloc sT.size _
 go_loopw [5,31] (λv i wr=>∃(k g cp:Nat) (E:List UInt8),E=stH own seq++JT (os.take k)/\k<=n/\i=ι κ k/\v=σ (μ ⟨g,0,ν⟩) E.length cp/\Row wr 1 v E.length (iZ E)/\
  w.heap.size<=g/\eN w wr)
  (λ_ i _=>n-(ft i).toNat)
 case atStart=>exact⟨0,w1.heap.size,4,_,rfl,Nat.zero_le _,rfl,rfl,ug,sT.size,wT⟩
 case round=>
  obtain⟨k,g,cp,E,QY,hk,rfl,rfl,hE,Ha,ja⟩:=hrel;have MB:E.length<=19:=by
   have h1:=wO (os.take k);have h2:(os.take k).length<=6:=by simp;omega
   rw[QY,aA,U9];omega
  have HE:Hid _:=QY;have HL:Hid _:=hl;clear QY ug wT hl;have m2:E.length+2<=maxLen:=by unfold maxLen;omega
  have b2:(E.length+2)*1<=140737488355328:=eE;by_cases kH:k<n
  ·have Dz:=ho.below ja;rcases Dz.2 with h0|⟨b,off,rfl,hc⟩
   ·omega
   have pK:k<os.length:=by rw[HL.out];exact kH
   obtain⟨c1,c2⟩:=hc k pK;obtain⟨⟨o1a,o1b⟩,⟨o2a,o2b⟩⟩:=oA os[k] (aE _);have HT:Hid (os.take (k+1)=os.take k++ [os[k]]):=ax pK;generalize os[k] =o at c1 c2 HT o1a o1b o2a o2b;clear hc Dz;have nG:(k:Int)<(n:Int):=eE;have WM:eN w (wr.alloc (γ #[ι κ o.1,ι κ o.2] 123)):=ja.alloc ja.size _;have hE3:Row (wr.alloc (γ #[ι κ o.1,ι κ o.2] 123)) 1 (σ (μ ⟨g,0,ν⟩) E.length cp) E.length (iZ E):=hE.alloc _;go_wp2_with(at_builtin;go_must(refine iX _ rfl (.tmp 35) (.tmp 42) 140 rfl 5 i0 (.int .u8 0) 1 1 aQ hi oz mW nT rfl eH _ E.length (iZ E) rfl (hE3.alloc _) _ 2 2 [.int .u8 o.1,.int .u8 o.2] rfl rfl eH ?hcc (lM _ _ _ _) m2 b2 ?_))
   case hcc=>
    have:=oS (wr.alloc (γ #[ι κ o.1,ι κ o.2] 123)) (.int .u8 o.1) (.int .u8 o.2) 5;simpa using this
   intro g2 cap2 w2 sE rz kV;have uh:μ g=μ g2 \/(wr.alloc (γ #[ι κ o.1,ι κ o.2] 123)).heap.size+1<=g2:=by
    rcases kV with h|h
    ·exact .inl h
    ·exact .inr (by simp;omega)
   have R:=Eb rz uh Ha WM;have sM:Row w2 1 (σ (μ ⟨g2,0,ν⟩) (E.length+2) cap2) (E++ [St.u8 o.1,St.u8 o.2]).length (iZ (E++ [St.u8 o.1,St.u8 o.2])):=by
    rw[lr,aA];simp only[iZ,eU,eV,oN o.1 (show 0<=o.1 by omega) (show o.1<=255 by omega),oN o.2 (show 0<=o.2 by omega) (show o.2<=255 by omega)];exact sE
   have HN:Hid (E++ [St.u8 o.1,St.u8 o.2] =stH own seq++JT (os.take (k+1))):=by
    show E++ [St.u8 o.1,St.u8 o.2] =_;rw[HE.out,HT.out,Qz,aC]
   have HLL:Hid ((E++ [St.u8 o.1,St.u8 o.2]).length=E.length+2):=by show(E++ [St.u8 o.1,St.u8 o.2]).length=E.length+2;simp
   clear sE rz kV uh hE ja WM hE3
   go_wp2
   go_roundw
   case rel=>exact⟨k+1,g2,cap2,_,HN.out,eE,by go_num,by rw[HLL.out],sM,R.1,R.2⟩
   case measure=>simp[ft];omega
  ·have WL:(convert 140 9 (σ (μ ⟨g,0,ν⟩) E.length cp)).run fk wr=.ok (.string ⟨E.toArray⟩) wr:=Row.back hE 140 9 5 aQ bK a8;have HF:Hid (sj own seq os=E):=by
    show sj own seq os=E;have wa:os.take k=os:=aK (by rw[HL.out];omega);rw[HE.out,wa];rfl
   clear hE;go_wp2_with(fail);rw[HF.out]
   go_ret2
   exact⟨rfl,ja⟩
theorem Cf(w:eB)(x y:eD)(t:eG):∀(j:Nat) (u:eD),[x,y][j]? =μ u->(w.alloc (γ #[x,y] t)).drew.cell? ((⟨w.heap.size,0,ν⟩:Addr).add j)=μ u:=λj u hu=>oS w x y t j u hu
theorem tT {b:Nat} (jw:∀k,v.ownBlock=μ k->lo+2<=k)(hg:(wr.alloc o).drew.grownBy x1 v.ownBlock)(hb:b<lo+2)(kH:b<wr.heap.size):x1.heap[b]? =wr.heap[b]? :=by
 rw[hg.block b (by show b<(wr.alloc o).heap.size;simp;omega) (λe=>by have:=jw b e.symm;omega)];exact aT wr o b kH
theorem Od(jw:∀k,v.ownBlock=μ k->lo+2<=k)(hg:(wr.alloc o).drew.grownBy x1 v.ownBlock)(hc:wr.cell? ⟨lo+1,j,ν⟩=μ u):x1.cell? ⟨lo+1,j,ν⟩=μ u:=by
 have kH:lo+1<wr.heap.size:=af wr _ hc;rw[ai (w:=wr) (a:=⟨lo+1,j,ν⟩) (tT (b:=lo+1) jw hg eE kH)];exact hc
theorem Iy(jw:∀k,v.ownBlock=μ k->lo+2<=k)(hg:(wr.alloc o).drew.grownBy x1 v.ownBlock)(hc:wr.cell? ⟨lo+1,j,ν⟩=μ u)(hf:wr.frozen? ⟨lo+1,j,ν⟩=false):x1.frozen? ⟨lo+1,j,ν⟩=false:=by
 have kH:lo+1<wr.heap.size:=af wr _ hc;rw[aN (w:=wr) (a:=⟨lo+1,j,ν⟩) (tT (b:=lo+1) jw hg eE kH)];exact hf
theorem Cg(s:ByteArray)(k:Nat)(h:k<s.size):s.data.toList.drop k=s[k] ::s.data.toList.drop (k+1):=by
 rw[aR (by simpa using h)];rfl
theorem xW(Ks:wr.heap[w.heap.size]? =μ (γ #[ι κ 0,ι κ 0,σ ν 0 0] 40 (0,0)))(hb:eN wr w1):
 w1.cell? ⟨w.heap.size,0,ν⟩=μ (ι κ 0)/\w1.cell? ⟨w.heap.size,1,ν⟩=μ (ι κ 0)/\w1.cell? ⟨w.heap.size,2,ν⟩=μ (σ ν 0 0)/\∀j,w1.frozen? ⟨w.heap.size,j,ν⟩=false:=by
 have kH:w.heap.size<wr.heap.size:=(aw.1 Ks).1;have h1:w1.heap[w.heap.size]? =μ (γ #[ι κ 0,ι κ 0,σ ν 0 0] 40 (0,0)):=by rw[hb.block _ kH];exact Ks
 exact⟨av w1 _ 0 _ 40 (0,0) h1,av w1 _ 1 _ 40 (0,0) h1,av w1 _ 2 _ 40 (0,0) h1,λj=>bw w1 _ j _ 40 h1⟩
theorem RJ(x y k:Nat)(hx:x<2^k)(hs:2^k*y+x<2^62):bits .or .i64 (x:Int) ((2^k*y:Nat):Int)=((2^k*y+x:Nat):Int):=by
 have h1:(fq 64 (x:Int)|||BitVec.ofInt 64 ((2^k*y:Nat):Int)).toNat=2^k*y+x:=by
  rw[BitVec.toNat_or,gA,gA,gD,gD,Nat.mod_eq_of_lt eE,Nat.mod_eq_of_lt eE,Nat.or_comm];exact(Nat.two_pow_add_eq_or_of_lt hx y).symm
 show fY.wrap ((fq 64 (x:Int)|||BitVec.ofInt 64 ((2^k*y:Nat):Int)).toNat:Int)=_;rw[h1,IntKind.wrap_i64];omega
theorem afT(x y:Nat)(hx:x<256)(hy:y<256):bits .or .i64 (x:Int) ((y:Int)*(256:Int))=(x:Int)+(256:Int)*(y:Int):=by
 have h:=RJ x y 8 eE eE;have e:((2^8*y:Nat):Int)=(y:Int)*256:=eE;rw[e]at h;rw[h];omega
theorem afU(x y:Nat)(hx:x<65536)(hy:y<256):bits .or .i64 (x:Int) ((y:Int)*(65536:Int))=(x:Int)+(65536:Int)*(y:Int):=by
 have h:=RJ x y 16 eE eE;have e:((2^16*y:Nat):Int)=(y:Int)*65536:=eE;rw[e]at h;rw[h];omega
def zb(E:Nat->eD)(l:List UInt8)(w:eB)(e:Ending)(w':eB):Prop:=
 ∃(a:Option Addr) (n cap f:Nat) (own seq:Int) (os:List j2),e=ρ (τ #[.agg #[ι κ own,ι κ seq,σ a n cap],E f])/\jm w' a n os/\n<=cap/\iT l=(own,seq,os,f)/\eN w w'/\kM a cap
theorem Aa(s:ByteArray)(Q:Int)(h4:4<=s.size)(heq:s.size%2=0)(hQ:(s[1].toNat:Int)+(256:Int)*(s[2].toNat:Int)+(65536:Int)*(s[3].toNat:Int)=Q):
 iT s.data.toList=if pj (s[0].toNat:Int) Q (pairs (s.data.toList.drop 4))=0 then((s[0].toNat:Int),Q,pairs (s.data.toList.drop 4),0)else(0,0,[],4):=by
 have hl:s.data.toList.length=s.size:=iC;have hq:Hu s.data.toList=Q:=by
  unfold Hu;rw[nF s 1 eE,nF s 2 eE,nF s 3 eE,hQ]
 unfold iT;rw[hq,nF s 0 eE,hl,ae eE]
theorem Ey {x y z:eD} (ji:Row w1 2 (σ ao k cp) k (jh ok))(jw:∀j,eF (σ ao k cp)=μ j->w.heap.size+2<=j)(hb:eN w w1):
 jm (((w1.setCell ⟨w.heap.size,0,ν⟩ x).setCell ⟨w.heap.size,1,ν⟩ y).setCell ⟨w.heap.size,2,ν⟩ z) ao k ok/\eN w (((w1.setCell ⟨w.heap.size,0,ν⟩ x).setCell ⟨w.heap.size,1,ν⟩ y).setCell ⟨w.heap.size,2,ν⟩ z):=by
 refine⟨Row.opts (ji.keep iC (λj hj=> ?_)),((hb.setCell (Nat.le_refl _) _).setCell (Nat.le_refl _) _).setCell (Nat.le_refl _) _⟩;have:=jw j hj;rw[ak _ _ _ _ (by show j≠w.heap.size;omega),ak _ _ _ _ (by show j≠w.heap.size;omega),ak _ _ _ _ (by show j≠w.heap.size;omega)]
theorem DU(w:eB)(a b:Obj):((w.alloc a).alloc b).drew.heap[w.heap.size+1]? =μ b:=by
 have h:=aV (w.alloc a) b;have e:(w.alloc a).heap.size=w.heap.size+1:=iC;rw[e]at h;exact h
theorem Ch(w:eB)(a b:Obj):((w.alloc a).alloc b).drew.heap[w.heap.size]? =μ a:=by
 show((w.alloc a).alloc b).heap[w.heap.size]? =μ a;rw[aT (w.alloc a) b w.heap.size iC];exact aV w a
theorem KL {ob:Obj} {g' jL:Nat} {c d:Int} {x y:Nat}
 (Il:wr.heap[w.heap.size+1]? =μ (γ #[ι κ c,ι κ d,σ ao k cp] 40 (0,0)))
 (Ks:wr.heap[w.heap.size]? =μ (γ #[ι κ 0,ι κ 0,σ ν 0 0] 40 (0,0)))
 (_hrow:Row wr 2 (σ ao k cp) k (jh ok)) (jw:∀j,eF (σ ao k cp)=μ j->w.heap.size+2<=j) (ja:eN w wr)
 (hr:Row x1 2 (σ (μ ⟨g',0,ν⟩) (k+1) jL) (k+1) (jh ok++ [ι κ (fY.wrap (x:Int)),ι κ (fY.wrap (y:Int))]))
 (hg:(wr.alloc ob).drew.grownBy x1 (eF (σ ao k cp))) (jC:eF (σ ao k cp)=μ g' \/(wr.alloc ob).drew.heap.size<=g') (hx:x<2^8) (hy:y<2^8):
 Row (x1.setCell ⟨w.heap.size+1,2,ν⟩ (σ (μ ⟨g',0,ν⟩) (k+1) jL)) 2 (σ (μ ⟨g',0,ν⟩) (k+1) jL) (k+1) (jh (ok++ [((x:Int),(y:Int))]))/\
 (x1.setCell ⟨w.heap.size+1,2,ν⟩ (σ (μ ⟨g',0,ν⟩) (k+1) jL)).heap[w.heap.size+1]? =μ (γ #[ι κ c,ι κ d,σ (μ ⟨g',0,ν⟩) (k+1) jL] 40 (0,0))/\
 (x1.setCell ⟨w.heap.size+1,2,ν⟩ (σ (μ ⟨g',0,ν⟩) (k+1) jL)).heap[w.heap.size]? =μ (γ #[ι κ 0,ι κ 0,σ ν 0 0] 40 (0,0))/\
 (∀j,eF (σ (μ ⟨g',0,ν⟩) (k+1) jL)=μ j->w.heap.size+2<=j)/\eN w (x1.setCell ⟨w.heap.size+1,2,ν⟩ (σ (μ ⟨g',0,ν⟩) (k+1) jL)):=by
 have kH:w.heap.size+1<wr.heap.size:=(aw.1 Il).1;have k1:=tT (b:=w.heap.size+1) jw hg eE kH;have k0:=tT (b:=w.heap.size) jw hg eE eE;have WN:(wr.alloc ob).drew.heap.size=wr.heap.size+1:=by show(wr.alloc ob).heap.size=_;simp
 have MA:w.heap.size+2<=g':=by
  rcases jC with h|h
  ·exact jw g' h
  ·omega
 have DK:x1.heap[w.heap.size+1]? =μ (γ #[ι κ c,ι κ d,σ ao k cp] 40 (0,0)):=by rw[k1];exact Il
 refine⟨?_,?_,?_,?_,?_⟩
 ·have ex:fY.wrap (x:Int)=(x:Int):=aS _ ⟨eE,eE⟩;have ey:fY.wrap (y:Int)=(y:Int):=aS _ ⟨eE,eE⟩;rw[ex,ey,<-mS ok ((x:Int),(y:Int))]at hr;refine hr.keep iC (λj hj=> ?_);have:g'=j:=by simpa[eF]using hj
  exact ak _ _ _ _ (by show j≠w.heap.size+1;omega)
 ·rw[bF x1 (w.heap.size+1) 2 _ 40 (0,0) _ DK];exact cD x1 _ _ _ 40 (0,0) DK
 ·rw[ak _ _ _ _ (by show w.heap.size≠w.heap.size+1;omega),k0];exact Ks
 ·intro j hj;have:g'=j:=by simpa[eF]using hj
  omega
 ·have mf:eN w (wr.alloc ob).drew:=(ja.alloc ja.size _).drew;refine bq ?_ (by show w.heap.size<=w.heap.size+1;omega) _;refine mf.grown hg eE (λj hj=> ?_);have:=jw j hj;omega
theorem KM(s:ByteArray)(w:eB)(h4:4<=s.size)(hs:s.size<=16)(heq:s.size%2=0):
 fj fk 188 #[.string s] w λe w'=>zb jy s.data.toList w e w':=by
 obtain⟨i0,hi,oz,mW,nT⟩:=aW BL;have hz:=oT;have g1:¬(s.size:Int)<4:=eE;have g2:¬(16:Int)<(s.size:Int):=eE;have g3:(((s.size:Int)-4) %2 !=0)=false:=by rw[bne_eq_false_iff_eq];omega
 have HE:Hid _:=heq;clear heq;have b0:0<s.size:=eE;have b1:1<s.size:=eE;have b2:2<s.size:=eE;have b3:3<s.size:=eE;have wT:=s[0].toNat_lt;have kt:=s[1].toNat_lt;have mf:=s[2].toNat_lt;have sL:=s[3].toNat_lt;have z0:(0:Int)<(s.size:Int):=eE;have z1:(1:Int)<(s.size:Int):=eE;have z2:(2:Int)<(s.size:Int):=eE;have z3:(3:Int)<(s.size:Int):=eE;obtain⟨Q,hQ⟩:∃Q:Int,(s[1].toNat:Int)+(256:Int)*(s[2].toNat:Int)+(65536:Int)*(s[3].toNat:Int)=Q:=⟨_,rfl⟩
 have ho1:=afT s[1].toNat s[2].toNat eE eE;have Va:bits .or .i64 ((s[1].toNat:Int)+(256:Int)*(s[2].toNat:Int)) ((s[3].toNat:Int)*(65536:Int))=Q:=by
  have:=afU (s[1].toNat+256*s[2].toNat) s[3].toNat eE eE;push_cast at this;rw[this,hQ]
 have HQQ:Hid _:=hQ
 go_in
 go_wp2
 go_region
 go_wp2_with(fail)
 try rw[HQQ.out]
 try clear hQ
 try clear ho1
 try clear Va
 obtain⟨X0,X4⟩:∃X0:Int,(s[0].toNat:Int)=X0:=⟨_,rfl⟩
 have HX0:Hid _:=X4;rw[X4];clear X4 wT kt mf sL
 go_loopw [5] (λi wr=>∃(k cp:Nat) (ao:Option Addr) (ok:List j2),4+2*k<=s.size/\i=ι κ ((4+2*k:Nat):Int)/\ok.length=k/\pairs (s.data.toList.drop 4)=ok++pairs (s.data.toList.drop (4+2*k))/\Row wr 2 (σ ao k cp) k (jh ok)/\
  wr.heap[w.heap.size+1]? =μ (γ #[ι κ X0,ι κ Q,σ ao k cp] 40 (0,0))/\wr.heap[w.heap.size]? =μ (γ #[ι κ 0,ι κ 0,σ ν 0 0] 40 (0,0))/\
  (∀j,eF (σ ao k cp)=μ j->w.heap.size+2<=j)/\eN w wr)
  (λi _=>s.size-(ft i).toNat)
 case atStart=>
  refine⟨0,0,ν,[],eE,rfl,rfl,rfl,Row.nil _ _,?_,?_,λj hj=>by simp[eF]at hj,(((au _ _).alloc (Nat.le_refl _) _).alloc iC _).drew⟩
  ·exact DU w _ _
  ·exact Ch w _ _
 case round=>
  obtain⟨k,cp,ao,ok,hk,rfl,jb,hP0,ji,Il,Ks,jw,ja⟩:=hrel;have hP:Hid _:=hP0;clear hP0;have cv:wr.cell? ⟨w.heap.size+1,2,ν⟩=μ (σ ao k cp):=av wr _ 2 _ 40 (0,0) Il;have fv:wr.frozen? ⟨w.heap.size+1,2,ν⟩=false:=bw wr _ 2 _ 40 Il;have UZ:w.heap.size+1<wr.heap.size:=af wr _ cv;have Yr:Hid _:=Il;have Ys:Hid _:=Ks;clear Il Ks;by_cases kH:4+2*k<s.size
  ·have DR:4+2*k+1<s.size:=by have:=HE.out;omega
   obtain⟨q,hq⟩:∃q,q=4+2*k:=⟨_,rfl⟩
   rw[<-hq]at kH DR;have HQ:Hid _:=hq;have y0:(0:Int)<=(q:Int):=eE;have y1:(q:Int)<(s.size:Int):=eE;have y2:(q:Int)+1<(s.size:Int):=eE;have y3:(0:Int)<=(q:Int)+1:=eE;have yw:fY.wrap ((q:Int)+1)=(q:Int)+1:=aS _ ⟨eE,eE⟩;have hbq:=s[q].toNat_lt;have afI:=s[q+1].toNat_lt;have m1:k+1<=maxLen:=by unfold maxLen;omega
   have bb1:(k+1)*16<=140737488355328:=eE;rw[<-hq];clear hq;have HP2:Hid (pairs (s.data.toList.drop 4)=(ok++ [((s[q].toNat:Int),(s[q+1].toNat:Int))])++pairs (s.data.toList.drop (4+2*(k+1)))):=by
    show pairs (s.data.toList.drop 4)=_;rw[hP.out,<-HQ.out,Cg s q kH,Cg s (q+1) DR];have e1:q+1+1=4+2*(k+1):=by have:=HQ.out;omega
    rw[e1];simp[pairs]
   go_wp2
   go_region_law ((refine kL (by rfl) (.tmp 47) (.tmp 58) 38 (by rfl) 123 i0 (.agg #[ι κ 0,ι κ 0]) 2 16 cW hi oz mW nT (by rfl) eH (σ ao k cp) k (jh ok) (by rfl) ((ji.alloc _).drew) _ 1 1 [ι κ (fY.wrap (s[q].toNat:Int)),ι κ (fY.wrap (s[q+1].toNat:Int))] (by rfl) (by rfl) eH (Cf _ _ _ _) (lM _ _ _ _) m1 bb1 ?_;intro g' jL x1 kU ki jD;have c1:=Od jw ki cv;have f1:=Iy jw ki cv fv))
   all_goals have hS:=KL (c:=X0) (d:=Q) Yr.out Ys.out ji jw ja kU ki jD s[q].toNat_lt s[q+1].toNat_lt
   all_goals clear kU ki jD c1 f1
   all_goals go_wp2_with(fail)
   all_goals go_roundw
   all_goals first
    |exact⟨k+1,jL,some ⟨g',0,none⟩,_,by have:=HQ.out;omega,by have:=HQ.out;go_num,by simp[jb],HP2.out,hS⟩
    |(simp[ft];omega)
  ·have hkm:4+2*k=s.size:=eE;have Q9:pairs (s.data.toList.drop 4)=ok:=by
    rw[hP.out,hkm,aX (by show s.size<=s.size;omega)];simp[pairs]
   have AG:=ji.opts;have A6:k<=cp/\kM ao cp:=⟨ji.Qj,λe=>by
    rcases ji.2 with⟨e1,_⟩|⟨g,c,e1,_⟩
    ·exact(bH e1).2.2
    ·rw[e]at e1;cases (bH e1).1⟩
   have c0:wr.cell? ⟨w.heap.size+1,0,ν⟩=μ (ι κ X0):=av wr _ 0 _ 40 (0,0) Yr.out;have c1:wr.cell? ⟨w.heap.size+1,1,ν⟩=μ (ι κ Q):=av wr _ 1 _ 40 (0,0) Yr.out;have kP:=wQ X0 Q ao k cp ok wr eE AG;have HK:Hid _:=Q9;clear hP Q9 hkm;by_cases hf:pj X0 Q ok=0
   ·have e0:jy 0=η:=rfl;rw[hf,e0]at kP;clear e0;have HF:Hid _:=hf;clear hf;go_wp2_with(fail);refine kP.mono ?_;rintro e w1 ⟨rfl,kt⟩;have d0:=(kt.cell (p:=⟨w.heap.size+1,0,ν⟩) UZ).trans c0;have d1:=(kt.cell (p:=⟨w.heap.size+1,1,ν⟩) UZ).trans c1;have d2:=(kt.cell (p:=⟨w.heap.size+1,2,ν⟩) UZ).trans cv;obtain⟨r0,r1,r2,r3⟩:=xW Ys.out kt;have sT:=iA ja kt;have hE:=Ey (x:=ι κ X0) (y:=ι κ Q) (z:=σ ao k cp) (ji.below kt) jw sT;have HV:Hid (iT s.data.toList=(X0,Q,ok,0)):=by
     show iT s.data.toList=_;rw[Aa s Q h4 HE.out HQQ.out,HX0.out,HK.out,ag HF.out]
    clear kP kt c0 c1 cv ji;go_wp2_with(fail);refine aj (v:=τ #[.agg #[ι κ X0,ι κ Q,σ ao k cp],η]) (by simp[results,gE,go_sem,r0,r1,r2]) rfl ?_;exact⟨ao,k,cp,0,_,_,ok,rfl,hE.1,A6.1,HV.out,hE.2,A6.2⟩
   ·have e0:jy (pj X0 Q ok)=.iface 128 (ι κ (pj X0 Q ok:Int)):=by simp[jy,hf]
    rw[e0]at kP;clear e0;have HF:Hid _:=hf;clear hf;have HV:Hid (iT s.data.toList=(0,0,[],4)):=by
     show iT s.data.toList=_;rw[Aa s Q h4 HE.out HQQ.out,HX0.out,HK.out,ae HF.out]
    generalize pj X0 Q ok=ff at kP;go_wp2_with(fail);refine kP.mono ?_;rintro e w1 ⟨rfl,kt⟩;obtain⟨r0,r1,r2,r3⟩:=xW Ys.out kt;have sT:=iA ja kt;have hE:=Ey (ok:=[]) (ao:=ν) (k:=0) (cp:=0) (x:=ι κ 0) (y:=ι κ 0) (z:=σ ν 0 0) (Row.nil w1 2) (λj hj=>by simp[eF]at hj) sT;clear kP kt c0 c1 cv ji AG;go_wp2_with(fail);refine aj (v:=τ #[.agg #[ι κ 0,ι κ 0,σ ν 0 0],.iface 128 (ι κ 4)]) (by simp[results,gE,go_sem,r0,r1,r2]) rfl ?_;exact⟨ν,0,0,4,0,0,[],rfl,hE.1,Nat.le_refl _,HV.out,hE.2,λ_=>rfl⟩
theorem Oe(s:ByteArray)(w:eB)(hs:s.size<=maxLen)(h:iT s.data.toList=(0,0,[],4))(hb:s.size<4 \/16<s.size \/s.size%2=1):
 fj fk 188 #[.string s] w λe w'=>zb jy s.data.toList w e w':=by
 have hz:=oT;have HV:Hid _:=h;clear h;unfold maxLen at hs;have l7:=iB w (γ #[ι κ 0,ι κ 0,σ ν 0 0] 40);have kj:jm (w.alloc (γ #[ι κ 0,ι κ 0,σ ν 0 0] 40)) ν 0 [] :=⟨rfl,.inl rfl⟩
 have g0:(0:Int)<=(s.size:Int):=eE;rcases(show s.size<4 \/(4<=s.size/\16<s.size) \/(4<=s.size/\s.size<=16/\s.size%2=1) by omega)with h1|h1|h1
 ·have g1:(s.size:Int)<4:=eE
  go_in
  go_wp2_with(fail);refine aj (v:=τ #[.agg #[ι κ 0,ι κ 0,σ ν 0 0],.iface 128 (ι κ 4)]) (by simp[results,gE,go_sem]) rfl ?_;exact⟨ν,0,0,4,0,0,[],rfl,kj,Nat.le_refl _,HV.out,l7,λ_=>rfl⟩
 ·have g1:¬(s.size:Int)<4:=eE;have g2:(16:Int)<(s.size:Int):=eE
  go_in
  go_wp2_with(fail);refine aj (v:=τ #[.agg #[ι κ 0,ι κ 0,σ ν 0 0],.iface 128 (ι κ 4)]) (by simp[results,gE,go_sem]) rfl ?_;exact⟨ν,0,0,4,0,0,[],rfl,kj,Nat.le_refl _,HV.out,l7,λ_=>rfl⟩
 ·have g1:¬(s.size:Int)<4:=eE;have g2:¬(16:Int)<(s.size:Int):=eE;have g3:(((s.size:Int)-4) %2 !=0)=true:=by rw[bne_iff_ne];omega
  clear hb h1
  go_in
  go_wp2_with(fail);refine aj (v:=τ #[.agg #[ι κ 0,ι κ 0,σ ν 0 0],.iface 128 (ι κ 4)]) (by simp[results,gE,go_sem]) rfl ?_;exact⟨ν,0,0,4,0,0,[],rfl,kj,Nat.le_refl _,HV.out,l7,λ_=>rfl⟩
theorem Ci(s:ByteArray)(w:eB)(hs:s.size<=maxLen):fj fk 188 #[.string s] w λe w'=>zb jy s.data.toList w e w':=by
 have hl:s.data.toList.length=s.size:=iC;by_cases h3:s.size<4 \/16<s.size \/s.size%2=1
 ·refine Oe s w hs ?_ h3;by_cases h16:16<s.size
  ·exact Hv _ eE
  ·unfold iT;rw[hl,ag eE]
 ·exact KM s w eE eE eE
theorem Og(B:Nat)(l code id:Int)(a:Option Addr)(n cap:Nat)(w:eB)(h1:(l==105)=false)(h2:(l==122)=false)(h3:(l==114)=false)(h4:(l==116)=false)(h5:(l==97)=false)(h6:(l==110)=false)(h7:(l==107)=false):
 fj fk 208 #[π (μ ⟨B,0,ν⟩),.int .u8 l,.agg #[ι κ code,ι κ id,σ a n cap]] w λe w'=>e=ρ (τ #[])/\eN w w':=by
 have hb:=iB w (γ #[ι κ code,ι κ id,σ a n cap] 37)
 go_in
 go_wp2
 first|go_end0|refine aj (ar rfl _ _ _) rfl ?_
 exact⟨rfl,hb⟩
theorem KN(B:Nat)(fs fm ns nm qs qm sz lf wt ow code id:Int)(v:eD)(a:Option Addr)(n cap:Nat)(w:eB)(hT:jo w)(h:Lk w B (Qs fs fm ns nm qs qm 0 sz lf wt ow v)):
 fj fk 171 #[π (μ ⟨B,0,ν⟩),ι κ 2,.agg #[ι κ code,ι κ id,σ a n cap]] w λe w'=>e=ρ η/\Lk w' B (Qs fs fm fs fm qs qm 1 255 lf wt ow v)/\w.grownBy w' (μ B):=by
 have hk:=iB w (γ #[ι κ code,ι κ id,σ a n cap] 37);have hA:=λj=>aq w #[ι κ code,ι κ id,σ a n cap] 37 (0,0) j;have h0:=h.below hk;have WD:=hT.below hk;have kD:=Fw 0 2 [115] 1 0 (by decide+kernel) _ WD;have e0:jy 0=η:=rfl;rw[e0]at kD;have hl:=h.lt;have c6:w.cell? ⟨B,6,ν⟩=μ (ι κ 0):=h.cell 6
 go_in
 go_wp2_with(fail);refine kD.mono ?_;rintro e w1 ⟨rfl,m1,rfl⟩;obtain⟨W1,ke⟩:=gH ((w.alloc (γ #[ι κ code,ι κ id,σ a n cap] 37)).drewN m1);obtain⟨Z,hZ⟩:=gH (w.heap.size);have d0:W1.cell? ⟨Z,0,ν⟩=μ (ι κ code):=by rw[<-ke,<-hZ];exact hA 0
 have d1:W1.cell? ⟨Z,1,ν⟩=μ (ι κ id):=by rw[<-ke,<-hZ];exact hA 1
 have d2:W1.cell? ⟨Z,2,ν⟩=μ (σ a n cap):=by rw[<-ke,<-hZ];exact hA 2
 have h1:Lk W1 B (Qs fs fm ns nm qs qm 0 sz lf wt ow v):=by rw[<-ke];exact h0
 have ki:w.grownBy W1 (μ B):=by rw[<-ke];exact rm B (below_drewN hk m1)
 rw[ke,hZ];have wN:B≠Z:=eE;clear kD ke hZ hA h0 WD hk h c6 hl e0 hT;have UE:=h1.lt;have c0:W1.cell? ⟨B,0,ν⟩=μ (ι κ fs):=h1.cell 0;have c1:W1.cell? ⟨B,1,ν⟩=μ (ι κ fm):=h1.cell 1;have c2:W1.cell? ⟨B,2,ν⟩=μ (ι κ ns):=h1.cell 2;have c3:W1.cell? ⟨B,3,ν⟩=μ (ι κ nm):=h1.cell 3;have c6:W1.cell? ⟨B,6,ν⟩=μ (ι κ 0):=h1.cell 6;have c7:W1.cell? ⟨B,7,ν⟩=μ (ι κ sz):=h1.cell 7;have fz:∀j,W1.frozen? ⟨B,j,ν⟩=false:=h1.frozen;have H2:Hid (Lk ((((W1.setCell ⟨B,6,ν⟩ (ι κ 1)).setCell ⟨B,2,ν⟩ (ι κ fs)).setCell ⟨B,3,ν⟩ (ι κ fm)).setCell ⟨B,7,ν⟩ (ι κ 255)) B (Qs fs fm fs fm qs qm 1 255 lf wt ow v)):=((((h1.set 6 _).set 2 _).set 3 _).set 7 _)
 have G2:Hid (w.grownBy ((((W1.setCell ⟨B,6,ν⟩ (ι κ 1)).setCell ⟨B,2,ν⟩ (ι κ fs)).setCell ⟨B,3,ν⟩ (ι κ fm)).setCell ⟨B,7,ν⟩ (ι κ 255)) (μ B)):=(oL (oL (oL (oL ki 6 _) 2 _) 3 _) 7 _)
 have D0:Hid (((((W1.setCell ⟨B,6,ν⟩ (ι κ 1)).setCell ⟨B,2,ν⟩ (ι κ fs)).setCell ⟨B,3,ν⟩ (ι κ fm)).setCell ⟨B,7,ν⟩ (ι κ 255)).cell? ⟨Z,0,ν⟩=μ (ι κ code)):=by show _=_;rw[aO _ _ _ _ wN,aO _ _ _ _ wN,aO _ _ _ _ wN,aO _ _ _ _ wN];exact d0
 have D1:Hid (((((W1.setCell ⟨B,6,ν⟩ (ι κ 1)).setCell ⟨B,2,ν⟩ (ι κ fs)).setCell ⟨B,3,ν⟩ (ι κ fm)).setCell ⟨B,7,ν⟩ (ι κ 255)).cell? ⟨Z,1,ν⟩=μ (ι κ id)):=by show _=_;rw[aO _ _ _ _ wN,aO _ _ _ _ wN,aO _ _ _ _ wN,aO _ _ _ _ wN];exact d1
 have D2:Hid (((((W1.setCell ⟨B,6,ν⟩ (ι κ 1)).setCell ⟨B,2,ν⟩ (ι κ fs)).setCell ⟨B,3,ν⟩ (ι κ fm)).setCell ⟨B,7,ν⟩ (ι κ 255)).cell? ⟨Z,2,ν⟩=μ (σ a n cap)):=by show _=_;rw[aO _ _ _ _ wN,aO _ _ _ _ wN,aO _ _ _ _ wN,aO _ _ _ _ wN];exact d2
 go_wp2_with(fail);obtain⟨W2,nH⟩:=gH ((((W1.setCell ⟨B,6,ν⟩ (ι κ 1)).setCell ⟨B,2,ν⟩ (ι κ fs)).setCell ⟨B,3,ν⟩ (ι κ fm)).setCell ⟨B,7,ν⟩ (ι κ 255));have h2:Lk W2 B (Qs fs fm fs fm qs qm 1 255 lf wt ow v):=by rw[<-nH];exact H2.out
 have vZ:w.grownBy W2 (μ B):=by rw[<-nH];exact G2.out
 have d0:W2.cell? ⟨Z,0,ν⟩=μ (ι κ code):=by rw[<-nH];exact D0.out
 have d1:W2.cell? ⟨Z,1,ν⟩=μ (ι κ id):=by rw[<-nH];exact D1.out
 have d2:W2.cell? ⟨Z,2,ν⟩=μ (σ a n cap):=by rw[<-nH];exact D2.out
 rw[nH];clear H2 G2 D0 D1 D2 nH fz UE c6 h1 ki c0 c1 c2 c3 c7;have G0:Z<W2.heap.size:=af W2 _ d0;refine b9 2 ?_;rw[bO]
 go_wp2
 go_region_with(go_at_call 208;refine(Og B 115 code id a n cap _ eH eH eH eH eH eH eH).mono ?_;rintro e V0 ⟨rfl,k0⟩)
 all_goals
  have L0:=(h2.drew).below k0;have g0:=zO vZ (zO (rm B (jO (au _ _))) (rm B k0));go_wp2_with(fail);rw[bO]
  go_wp2
  go_ret;exact⟨rfl,L0,g0⟩
theorem RK(B:Nat)(fs fm ns nm qs qm sz lf wt ow:Int)(v:eD)(w:eB)(hT:jo w)(h:Lk w B (Qs fs fm ns nm qs qm 0 sz lf wt ow v)):
 fj fk 120 #[π (μ ⟨B,0,ν⟩),ι κ 2] w λe w'=>e=ρ η/\Lk w' B (Qs fs fm fs fm qs qm 1 255 lf wt ow v)/\w.grownBy w' (μ B):=by
 have hz:=ry;have hc:=KN B fs fm ns nm qs qm sz lf wt ow 0 0 v ν 0 0 w hT h;clear h hT
 go_in
 go_wp2_with(fail);refine hc.mono ?_;rintro e w1 ⟨rfl,hL,hg⟩
 go_wp2
 go_ret;exact⟨rfl,hL,hg⟩
end Go.Proofs.YtieklnlbljejdaaGreatDoor
