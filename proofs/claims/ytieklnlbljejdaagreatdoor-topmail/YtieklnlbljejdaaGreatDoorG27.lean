import Derived.Test.YtieklnlbljejdaaGreatDoorG26
open Go.Value renaming int → ι, slice → σ, pointer → π, tuple → τ, nilIface → η
open Go.IntKind renaming i64 → κ
open Go.Ending renaming returned → ρ
open Go.Obj renaming cells → γ
open Option renaming none → ν, some → μ
open Go.Proofs.Tryz renaming prog → fk, underlying184 → iw
open List renaming range → gJ, append_nil → iz, length_append → eY, length_cons → eZ, length_nil → fC
open Go.Instr renaming findKey → iu, lookup → fI, mapUpdate → fG
open Go.Sem renaming run_bind → fQ
open Go.Result renaming andThen_ok → eR
open Go.MapKept renaming run_getObj_map → iy
open Go.RowKit renaming intOf → ft
open Go.Value renaming ownBlock → eF
set_option maxRecDepth 100000
set_option maxHeartbeats 4000000
namespace Go.Proofs.YtieklnlbljejdaaGreatDoor
open Go.RowKit St
open Go.ChangeMaps Go.MapKept
namespace Rt
variable {E:List (Int×Int×Int)} {a p:Int} {b:Nat} {r:iY} {w:World} {z:Zt}
theorem Jc:laidOutB fk=true:=gT
theorem Zs:192<fk.types.size:=of_decide_eq_true gT
theorem VK:(match fk.underlying 192 with|some (.array _ _)|some (.struct _)=>true|_=>false)=true:=gT
theorem Lp:Maps.Keyed fk 192:=Maps.Keyed.of_law (deep_law_laid Jc (m:=3) eE Zs gT VK)
theorem VL:((gJ 7).all λi=>(gJ 4).all λj=>(keyOf fk 192 (uU (i:Int) (j:Int))).isSome)=true:=gT
theorem Gl {b:Int} (h:1<=a/\a<=6/\0<=b/\b<=2):∃l,keyOf fk 192 (uU a b)=μ l:=by
 have h1:=bk.1 (bk.1 VL a.toNat (a7.2 eE)) b.toNat (a7.2 eE);have e1:((a.toNat:Nat):Int)=a:=eE;have e2:((b.toNat:Nat):Int)=b:=eE;rw[e1,e2]at h1;exact Option.isSome_iff_exists.1 h1
theorem SN {b c d:Int} (h:uU a b=uU c d):a=c/\b=d:=by
 unfold uU at h;injection h with h
 have h1:=congrArg Array.toList h;simp at h1;exact h1
theorem CQ:∀ {E:List (Int×Int×Int)} {r p:Int},(∀x∈E,¬(x.1=r/\x.2.1=p))->kX E r p=ν
 |[],_,_,_=>rfl
 |x::E,r,p,h=>by
  unfold kX;rw[ae (h x iC)];exact CQ (λz hz=>h z (by simp[hz]))
theorem ET:∀ {E:List (Int×Int×Int)} {r p m:Int},kX E r p=μ m->(r,p,m)∈E
 |[],_,_,_,h=>by simp[kX]at h
 |x::E,r,p,m,h=>by
  unfold kX at h;split at h
  ·rename_i hx
   have:=Option.some.inj h;have e:x=(r,p,m):=by
    obtain⟨x1,x2,x3⟩:=x;simp at hx this⊢;exact⟨hx.1,hx.2,this⟩
   rw[e];simp
  ·exact dj _ (ET h)
theorem Lq(E:List (Int×Int×Int))(x:Int×Int×Int)(r p:Int):kX (E++ [x]) r p=match kX E r p with|some m=>some m|none=>if x.1=r/\x.2.1=p then some x.2.2 else none:=by
 induction E with
 |nil=>
  show kX [x] r p=_;unfold kX;split<;>rfl
 |cons z E ih=>
  show kX (z::(E++ [x])) r p=_;unfold kX;split
  ·rfl
  ·exact ih
theorem Bi.snoc(h:Bi E) {x:Int×Int×Int} (hx:1<=x.1/\x.1<=6/\0<=x.2.1/\x.2.1<=2)(hn:kX E x.1 x.2.1=ν):Bi (E++ [x]):=λz hz=>by
 rw[Lq];rcases aD.1 hz with h1|h1
 ·have:=h z h1;exact⟨this.1,by rw[this.2]⟩
 ·have:z=x:=by simpa using h1
  subst this;exact⟨hx,by rw[hn];simp⟩
theorem nY.find {w:World} {b:Nat} {E:List (Int×Int×Int)} {es:Array MapEntry} {clock:Nat} (_hb:w.heap[b]? =μ (.map es clock))(he:es.toList.map (λe=>(e.key,e.val))=E.map λx=>(uU x.1 x.2.1,.int .i64 x.2.2))(hE:Bi E) {r p:Int} (hr:1<=r/\r<=6/\0<=p/\p<=2):
 (kX E r p=ν/\(iu 192 (uU r p) es.toList).run fk w=.ok ν w) \/ ∃m j,kX E r p=μ m/\(iu 192 (uU r p) es.toList).run fk w=.ok (μ (j,ι κ m)) w:=by
 obtain⟨l,hl⟩:=Gl hr;have oA:∀e∈es.toList,∃x∈E,e.key=uU x.1 x.2.1/\e.val=.int .i64 x.2.2:=λe hm=>by
  have h1:(e.key,e.val)∈es.toList.map (λe=>(e.key,e.val)):=bI.2 ⟨e,hm,rfl⟩;rw[he]at h1;obtain⟨x,hx,h2⟩:=bI.1 h1;injection h2 with h3 h4
  exact⟨x,hx,h3.symm,h4.symm⟩
 have ag4:∀x∈E,∃e∈es.toList,e.key=uU x.1 x.2.1:=λx hx=>by
  have h1:(uU x.1 x.2.1,(ι κ x.2.2:Value))∈E.map λx=>(uU x.1 x.2.1,(ι κ x.2.2:Value)):=bI.2 ⟨x,hx,rfl⟩;rw[<-he]at h1;obtain⟨e,hm,h2⟩:=bI.1 h1;injection h2 with h3 h4
  exact⟨e,hm,h3⟩
 rcases Lp.find w hl es.toList (λe hm=>by
  obtain⟨x,hx,h1,_⟩:=oA e hm;rw[h1];exact Gl (hE x hx).1)with⟨h1,h2⟩|⟨j,e,h1,h2,h3⟩
 ·left;refine⟨CQ (λx hx hc=> ?_),h1⟩;obtain⟨e,hm,h4⟩:=ag4 x hx;exact h2 e hm (by rw[h4,hc.1,hc.2])
 ·right;obtain⟨x,hx,h4,h5⟩:=oA e (bC h2);rw[h3]at h4;obtain⟨e1,e2⟩:=SN h4;refine⟨x.2.2,j,?_,by rw[h1,h5]⟩;rw[e1,e2];exact(hE x hx).2
theorem nY.look(h:nY w b E)(hE:Bi E) {r:Int} (hr:1<=r/\r<=6/\0<=p/\p<=2):
 (fI 184 (.map (μ b)) (uU r p) true).run fk w=.ok (τ #[ι κ ((kX E r p).getD 0),.bool (kX E r p).isSome]) w:=by
 obtain⟨es,clock,hb,he⟩:=h;obtain⟨l,hl⟩:=Gl hr;have hz:(zeroValue 3).run fk w=.ok (ι κ 0) w:=gT;have hc:=Lp.check w es.isEmpty hl;unfold fI;simp only[fQ,run_underlying iw,eR,iy hb,Sem.run_pure,hc];rcases nY.find hb he hE hr with⟨h1,h2⟩|⟨m,j,h1,h2⟩
 ·simp only[h2,eR,fQ,hz,Sem.run_pure,h1];rfl
 ·simp only[h2,eR,h1];rfl
theorem nY.store(h:nY w b E)(hE:Bi E) {r m:Int} (hr:1<=r/\r<=6/\0<=p/\p<=2)(hn:kX E r p=ν):
 ∃w',(fG 184 (.map (μ b)) (uU r p) (ι κ m)).run fk w=.ok () w'/\nY w' b (E++ [(r,p,m)])/\w'.os=w.os/\w'.tape=w.tape/\w'.output=w.output/\w'.heap.size=w.heap.size/\∀k,k≠b->w'.heap[k]? =w.heap[k]? :=by
 obtain⟨es,clock,hb,he⟩:=h;obtain⟨l,hl⟩:=Gl hr;have hc:=Lp.check w false hl;have pO:b<w.heap.size:=(aw.1 hb).1;rcases nY.find hb he hE hr with⟨h1,h2⟩|⟨m',j,h1,h2⟩
 ·refine⟨{w with heap:=w.heap.setIfInBounds b (.map (es.push {key:=uU r p,val:=.int .i64 m,born:=clock}) (clock+1))},?_,⟨es.push {key:=uU r p,val:=.int .i64 m,born:=clock},clock+1,?_,?_⟩,rfl,rfl,rfl,iC,λk hk=> ?_⟩
  ·unfold fG;simp only[fQ,run_underlying iw,eR,iy hb,hc,h2,Go.MapKept.run_setObj_map _ hb]
  ·simp[pO]
  ·simp[he]
  ·show(w.heap.setIfInBounds b _)[k]? =_;rw[Array.getElem?_setIfInBounds_ne (λe=>hk e.symm)]
 ·rw[hn]at h1;simp at h1
theorem MX:(fk.info? 3).map (λi=>(i.zero,i.size,i.bytes))=μ (μ (ι κ 0),1,8):=gT
def uk(ms:Nat->Int):Nat->List Value
 |0=>[]
 |q+1=>uk ms q++ [.int .i64 (ms q)]
theorem qT(ms:Nat->Int):∀q,(uk ms q).length=q
 |0=>rfl
 |q+1=>by unfold uk;rw[aA,qT ms q];rfl
theorem Jd(ms:Nat->Int):∀(q i:Nat),i<q->(uk ms q)[i]? =μ (ι κ (ms i))
 |q+1,i,h=>by
  unfold uk;by_cases e:i<q
  ·rw[bL (by rw[qT];exact e)];exact Jd ms q i e
  ·have:i=q:=eE;subst this;rw[bz (by rw[qT];exact Nat.le_refl _),qT,Nat.sub_self];rfl
theorem wH(N b i:Nat)(E:List (Int×Int×Int))(ms:Nat->Int)(w:World)(hc:w.cell? ⟨N,2,ν⟩=μ (.map (μ b)))(hm:nY w b E)(hE:Bi E)(hi6:i<6)(ht:∀p:Nat,p<3->(kX E ((i:Int)+1) (p:Int)).getD 1=ms p/\1<=ms p/\ms p<=20)(hT:jo w)(X:Nat->Prop)(hX:∀k,X k->k<w.heap.size):
 Calls fk 96 #[π (μ ⟨N,0,ν⟩),ι κ ((i:Int)+1)] w λe w'=>∃z,e=ρ (τ #[π (μ ⟨z.R,0,ν⟩),η])/\lW w' z (jX ((i:Int)+1) 3 ms)/\eN w w'/\(∀k,z.mine 3 k->w.heap.size<=k)/\w.heap.size<=z.fm.bm/\(∀x∈z.fm.bs,w.heap.size<=x)/\∀k,X k->z.fm.no k:=by
 obtain⟨i0,hi,oz,mW,nT⟩:=aW MX;have Nl:=af _ _ hc;have bl:b<w.heap.size:=by
  obtain⟨es,clock,h1,_⟩:=hm;exact(aw.1 h1).1
 have HL:Hid (∀W,eN w W->∀p:Nat,p<3->(fI 184 (.map (μ b)) (.agg #[ι κ ((i:Int)+1),ι κ (p:Int)]) true).run fk W=.ok (τ #[ι κ ((kX E ((i:Int)+1) (p:Int)).getD 0),.bool (kX E ((i:Int)+1) (p:Int)).isSome]) W):=by
  intro W hW p hp;exact nY.look (hm.keep (hW.block b bl)) hE ⟨eE,eE,eE,eE⟩
 have HC:Hid (∀W,eN w W->W.cell? ⟨N,2,ν⟩=μ (.map (μ b))/\N<W.heap.size):=by
  intro W hW;exact⟨(ai (a:=⟨N,2,ν⟩) (hW.block N Nl)).trans hc,Nat.lt_of_lt_of_le Nl hW.size⟩
 have HT:Hid _:=ht;have OQ:Hid _:=hT;clear hm hc ht hT
 go_in
 go_wp2
 go_loopw [6,10] (λv x wr=>∃q:Nat,q<=3/\x=ι κ q/\Row wr 1 v q (uk ms q)/\(∀k,v.ownBlock=μ k->w.heap.size<=k)/\eN w wr) (λ_ x _=>3-(ft x).toNat)
 case atStart=>exact⟨0,Nat.zero_le _,rfl,Row.nil _ _,λk hk=>by simp[eF]at hk,au _ _⟩
 case round=>
  obtain⟨q,hq,rfl,ji,jC,ja⟩:=hrel;by_cases kH:q<3
  ·have nG:(q:Int)<3:=eE;have qN:=HL.out wr ja q kH;obtain⟨d2,dl⟩:=HC.out wr ja;obtain⟨t1,t2,t3⟩:=HT.out q kH;have HR:Hid _:=ji;have HO:Hid _:=jC;have HB:Hid _:=ja;clear jC ja;cases pK:kX E ((i:Int)+1) (q:Int)with
   |none=>
    rw[pK]at qN t1;have T1:Hid (ms q=1):=t1.symm;have e0:(Option.getD (ν:Option Int) 0)=0:=rfl;have e1:(Option.isSome (ν:Option Int))=false:=rfl;rw[e0,e1]at qN;clear pK t1;go_wp2_with(at_builtin;go_must(refine iX _ rfl (.tmp 26) (.tmp 28) 22 rfl 3 i0 (ι κ 0) 1 8 cZ hi oz mW nT rfl eH u6 q (uk ms q) rfl (ji.alloc _) _ 1 1 [ι κ 1] rfl rfl eH (pT _ _ _) (vH _ _) (by unfold maxLen;omega) eE ?_));intro g' jL w3 sM tI xS;have HN:Hid (Row w3 1 (σ (μ ⟨g',0,ν⟩) (q+1) jL) (q+1) (uk ms (q+1))/\(∀k,eF (σ (μ ⟨g',0,ν⟩) (q+1) jL)=μ k->w.heap.size<=k)/\eN w w3):=by
     have hs:=HB.out.size;refine⟨by unfold uk;rw[T1.out];exact sM,λk hk=> ?_,?_⟩
     ·have:g'=k:=by simpa[eF]using hk
      subst this;rcases xS with e|e
      ·exact HO.out _ e
      ·have:(wr.alloc (γ #[ι κ 1] 3)).heap.size=wr.heap.size+1:=iC;omega
     ·exact(HB.out.alloc hs _).grown tI (by simp;omega) (λk hk=>HO.out k (by rw[<-hk]))
    clear sM tI xS ji
    go_wp2
    go_roundw
    case rel=>exact⟨q+1,eE,by go_num,HN.out⟩
    case measure=>simp[ft];omega
   |some m=>
    rw[pK]at qN t1;have T1:Hid (ms q=m):=t1.symm;have e0:(Option.getD (μ m) 0)=m:=rfl;have e1:(Option.isSome (μ m))=true:=rfl;rw[e0,e1]at qN;clear pK t1;go_wp2_with(at_builtin;go_must(refine iX _ rfl (.tmp 26) (.tmp 28) 22 rfl 3 i0 (ι κ 0) 1 8 cZ hi oz mW nT rfl eH u6 q (uk ms q) rfl (ji.alloc _) _ 1 1 [ι κ m] rfl rfl eH (pT _ _ _) (vH _ _) (by unfold maxLen;omega) eE ?_));intro g' jL w3 sM tI xS;have HN:Hid (Row w3 1 (σ (μ ⟨g',0,ν⟩) (q+1) jL) (q+1) (uk ms (q+1))/\(∀k,eF (σ (μ ⟨g',0,ν⟩) (q+1) jL)=μ k->w.heap.size<=k)/\eN w w3):=by
     have hs:=HB.out.size;refine⟨by unfold uk;rw[T1.out];exact sM,λk hk=> ?_,?_⟩
     ·have:g'=k:=by simpa[eF]using hk
      subst this;rcases xS with e|e
      ·exact HO.out _ e
      ·have:(wr.alloc (γ #[ι κ m] 3)).heap.size=wr.heap.size+1:=iC;omega
     ·exact(HB.out.alloc hs _).grown tI (by simp;omega) (λk hk=>HO.out k (by rw[<-hk]))
    clear sM tI xS ji
    go_wp2
    go_roundw
    case rel=>exact⟨q+1,eE,by go_num,HN.out⟩
    case measure=>simp[ft];omega
  ·obtain rfl:q=3:=eE;have sM:=ji;have Vi:∃g cap,u6=σ (μ ⟨g,0,ν⟩) 3 cap:=by
    rcases ji.2 with⟨_,e2⟩|⟨g,cap,e,_⟩
    ·omega
    ·exact⟨g,cap,e⟩
   obtain⟨g,cap,rfl⟩:=Vi;have jw:=SE ((i:Int)+1) g 0 3 cap ms wr (jo.below (w:=w) OQ.out ja) eE eE (λj hj=>by
    have:=Row.cell ji j _ (Jd ms 3 j hj);rw[Nat.zero_add];exact this) (λj hj=>(HT.out j hj).2) X (λk hk=>Nat.lt_of_lt_of_le (hX k hk) ja.size)
   have HB:Hid _:=ja;have h33:((3:Nat):Int)=3:=rfl;clear ji jC ja sM;go_wp2_with(fail);refine jw.mono ?_;rintro e w1 ⟨z,rfl,hz⟩;have HZ:Hid _:=hz;clear jw hz
   go_wp2
   go_ret2
   have hs:=HB.out.size;obtain⟨z1,z2,z3,z4,z5,z6⟩:=HZ.out;exact⟨z,rfl,z1,iA HB.out z2,λk hk=>Nat.le_trans hs (z3 k hk),Nat.le_trans hs z4,λx hx=>Nat.le_trans hs (z5 x hx),z6⟩
theorem EU(y:jc)(i:Int):(y.tick i).1.n=y.n/\(y.tick i).1.nc=y.nc/\(y.tick i).1.ms=y.ms/\∀x,((y.tick i).1.C x).e=(y.C x).e/\((y.tick i).1.C x).jG=(y.C x).jG:=by
 unfold jc.tick;split
 ·exact⟨rfl,rfl,rfl,λ_=>⟨rfl,rfl⟩⟩
 ·exact ld _
theorem vp(y:jc)(c d q:Nat):(y.j0 c d q).n=y.n/\(y.j0 c d q).nc=y.nc/\(y.j0 c d q).ms=y.ms/\∀x,((y.j0 c d q).C x).e=(y.C x).e/\((y.j0 c d q).C x).jG=(y.C x).jG:=by
 refine⟨rfl,rfl,rfl,λx=> ?_⟩;show(if x=c then({y.C c with on:=jI (y.C c).on d (((y.C c).on d).drop q)}:pX)else y.C x).e=_/\(if x=c then({y.C c with on:=jI (y.C c).on d (((y.C c).on d).drop q)}:pX)else y.C x).jG=_;by_cases e:x=c
 ·rw[ag e];subst e;exact⟨rfl,rfl⟩
 ·rw[ae e];exact⟨rfl,rfl⟩
theorem pG(y:jc)(i d many:Int):(y.deliver i d many).1.n=y.n/\(y.deliver i d many).1.nc=y.nc/\(y.deliver i d many).1.ms=y.ms/\∀x,((y.deliver i d many).1.C x).e=(y.C x).e/\((y.deliver i d many).1.C x).jG=(y.C x).jG:=by
 unfold jc.deliver;split
 ·exact⟨rfl,rfl,rfl,λ_=>⟨rfl,rfl⟩⟩
 ·obtain⟨g1,g2,g3,g4⟩:=ld (y.j0 i.toNat d.toNat (min many.toNat ((y.C i.toNat).on d.toNat).length));obtain⟨r1,r2,r3,r4⟩:=vp y i.toNat d.toNat (min many.toNat ((y.C i.toNat).on d.toNat).length);exact⟨g1.trans r1,g2.trans r2,g3.trans r3,λx=>⟨(g4 x).1.trans (r4 x).1,(g4 x).2.trans (r4 x).2⟩⟩
theorem qb(y:jc):∀q,(y.jB q).n=y.n/\(y.jB q).nc=y.nc/\(y.jB q).ms=y.ms/\∀x,((y.jB q).C x).e=(y.C x).e/\((y.jB q).C x).jG=(y.C x).jG
 |0=>⟨rfl,rfl,rfl,λ_=>⟨rfl,rfl⟩⟩
 |q+1=>by
  obtain⟨g1,g2,g3,g4⟩:=EU (y.jB q) ((q:Int)+1);obtain⟨r1,r2,r3,r4⟩:=qb y q;exact⟨g1.trans r1,g2.trans r2,g3.trans r3,λx=>⟨(g4 x).1.trans (r4 x).1,(g4 x).2.trans (r4 x).2⟩⟩
def jc.qd(y:jc)(c d:Nat):jc:=if d=0 then y.kF c else if d=1 then((y.kF c).deliver (c:Int) 0 2000).1 else y.kF (c+1)
theorem Je(y:jc)(c d:Nat)(hd:d<2):y.qd c (d+1)=((y.qd c d).deliver (c:Int) (d:Int) 2000).1:=by
 have:d=0 \/d=1:=eE;rcases this with rfl|rfl<;>rfl
theorem nu(y:jc):∀q,(y.kF q).n=y.n/\(y.kF q).nc=y.nc/\(y.kF q).ms=y.ms/\∀x,((y.kF q).C x).e=(y.C x).e/\((y.kF q).C x).jG=(y.C x).jG
 |0=>⟨rfl,rfl,rfl,λ_=>⟨rfl,rfl⟩⟩
 |q+1=>by
  obtain⟨h1,h2,h3,h4⟩:=pG ((y.kF q).deliver (q:Int) 0 2000).1 (q:Int) 1 2000;obtain⟨g1,g2,g3,g4⟩:=pG (y.kF q) (q:Int) 0 2000;obtain⟨r1,r2,r3,r4⟩:=nu y q;exact⟨h1.trans (g1.trans r1),h2.trans (g2.trans r2),h3.trans (g3.trans r3),λx=>⟨(h4 x).1.trans ((g4 x).1.trans (r4 x).1),(h4 x).2.trans ((g4 x).2.trans (r4 x).2)⟩⟩
theorem Jf(y:jc)(q d:Nat):(y.qd q d).n=y.n/\(y.qd q d).nc=y.nc:=by
 unfold jc.qd;split
 ·exact⟨(nu y q).1,(nu y q).2.1⟩
 ·split
  ·exact⟨(pG _ _ _ _).1.trans (nu y q).1,(pG _ _ _ _).2.1.trans (nu y q).2.1⟩
  ·exact⟨(nu y (q+1)).1,(nu y (q+1)).2.1⟩
theorem tX(y:jc):∀t,(y.turns t).n=y.n/\(y.turns t).nc=y.nc/\(y.turns t).ms=y.ms/\∀x,((y.turns t).C x).e=(y.C x).e/\((y.turns t).C x).jG=(y.C x).jG
 |0=>⟨rfl,rfl,rfl,λ_=>⟨rfl,rfl⟩⟩
 |t+1=>by
  obtain⟨g1,g2,g3,g4⟩:=nu (y.turns t) y.nc;obtain⟨r1,r2,r3,r4⟩:=tX y t;exact⟨g1.trans r1,g2.trans r2,g3.trans r3,λx=>⟨(g4 x).1.trans (r4 x).1,(g4 x).2.trans (r4 x).2⟩⟩
theorem rD(y:jc):y.round.n=y.n/\y.round.nc=y.nc/\y.round.ms=y.ms/\∀x,(y.round.C x).e=(y.C x).e/\(y.round.C x).jG=(y.C x).jG:=by
 obtain⟨g1,g2,g3,g4⟩:=tX (y.jB y.n) 12;obtain⟨r1,r2,r3,r4⟩:=qb y y.n;exact⟨g1.trans r1,g2.trans r2,g3.trans r3,λx=>⟨(g4 x).1.trans (r4 x).1,(g4 x).2.trans (r4 x).2⟩⟩
theorem j6.jB {y:jc} {D:Nat} (h:j6 y D 0)(hD:D<=800000000):∀q,q<=6->j6 (y.jB q) (D+6*q) 0
 |0,_=>h
 |q+1,hq=>((j6.jB h hD q eE).tick eE ((q:Int)+1)).mono eE (Nat.le_refl _)
theorem j6.kF {y:jc} {D:Nat} (h:j6 y D 0)(hD:D<=890000000):∀q,q<=9->j6 (y.kF q) (D+12000*q) 0
 |0,_=>h
 |q+1,hq=>(((j6.kF h hD q eE).deliver eE (q:Int) 0 2000).deliver eE (q:Int) 1 2000).mono eE (Nat.le_refl _)
theorem j6.qd {y:jc} {D:Nat} (h:j6 y D 0)(hD:D<=890000000)(q d:Nat)(hq:q<9)(hd:d<=2):j6 (y.qd q d) (D+12000*q+6000*d) 0:=by
 unfold jc.qd;split
 ·exact(h.kF hD q eE).mono eE (Nat.le_refl _)
 ·split
  ·exact((h.kF hD q eE).deliver eE _ _ _).mono eE (Nat.le_refl _)
  ·exact(h.kF hD (q+1) eE).mono eE (Nat.le_refl _)
theorem j6.turns {y:jc} {D:Nat} (h:j6 y D 0)(hD:D<=810000000):∀t,t<=12->j6 (y.turns t) (D+108000*t) 0
 |0,_=>h
 |t+1,ht=>by
  have h1:=j6.turns h hD t eE;have h9:=h.c9;exact(h1.kF eE y.nc h9).mono eE (Nat.le_refl _)
theorem j6.round {y:jc} {D:Nat} (h:j6 y D 0)(hD:D<=800000000):j6 y.round (D+1300000) 0:=by
 have n6:=h.n6;have h1:=h.jB hD y.n n6;exact(h1.turns eE 12 (Nat.le_refl _)).mono eE (Nat.le_refl _)
theorem zp(y:Yt)(n:jc)(D:Nat)(w:World)(h:jJ w y n)(hT:jo w)(jb:j6 n D 0)(hD:D<=800000000):
 Calls fk 54 #[π (μ ⟨y.N,0,ν⟩)] w λe w'=>e=ρ (τ #[])/\iV w w' y n.round n.n:=by
 have c0:=h.k0;have cl:=h.uW;have n6:=h.n6;have c9:=h.c9;obtain⟨a,cp,uM,I5⟩:=h.Y0;obtain⟨m,hm⟩:=gH (n.n);obtain⟨nc,sH⟩:=gH (n.nc);have H0:Hid (iV w w y (n.jB 0) m):=by
  show iV _ _ _ _ _;rw[<-hm];exact iV.refl h
 have Xt:Hid (∀q W,q<m->iV w W y (n.jB q) m->Calls fk 56 #[π (μ ⟨y.N,0,ν⟩),ι κ ((q:Int)+1)] W λe w'=>(∃v,e=ρ v)/\iV w w' y (n.jB (q+1)) m):=by
  intro q W hq hW;have Zo:=hW.tab h hm hT;refine(hW.call (E:=λe=>∃v,e=ρ v) λy1 R1 s1=> ?_);rw[<-s1.N];refine(I8 y1 (n.jB q) (D+6*q) ((q:Int)+1) W R1 Zo (jb.jB hD q eE) eE).mono ?_;rintro e w' ⟨rfl,hw⟩;rw[(qb n q).1,hm]at hw;exact⟨⟨_,rfl⟩,hw⟩
 have Zu:=jb.jB hD m eE;have HK3:Hid (∀M W,M.nc=nc->iV w W y M m->W.cell? ⟨y.N,3,ν⟩=μ (σ a nc cp)/\y.N<W.heap.size):=by
  intro M W hM hW;have h1:=hW.k3;rw[hM,<-sH,uM]at h1;rw[<-sH];exact⟨h1,hW.lt⟩
 have Gi:Hid (n.round=(n.jB m).turns 12):=by
  show _=_;unfold jc.round;rw[hm]
 obtain⟨T,Xq⟩:=gH (n.jB m);have hTn:T.n=m:=by rw[<-Xq,(qb n m).1,hm]
 have hTc:T.nc=nc:=by rw[<-Xq,(qb n m).2.1,sH]
 have HTT:Hid (∀W,iV w W y (n.jB m) m->iV w W y (T.turns 0) m):=by
  intro W hW;rw[Xq]at hW;exact hW
 rw[Xq]at Zu Gi;have ag6:Hid (∀t c d W,t<12->c<nc->d<2->iV w W y ((T.turns t).qd c d) m->Calls fk 101 #[π (μ ⟨y.N,0,ν⟩),ι κ (c:Int),ι κ (d:Int),ι κ 2000] W λe w'=>(∃v,e=ρ v)/\iV w w' y ((T.turns t).qd c (d+1)) m):=by
  intro t c d W ht hc hd hW;have Zo:=hW.tab h hm hT;refine(hW.call (E:=λe=>∃v,e=ρ v) λy1 R1 s1=> ?_);rw[<-s1.N];have h1:=Zu.turns eE t eE;have h2:=h1.qd eE c d eE eE;refine(Ak y1 _ _ (c:Int) (d:Int) 2000 W R1 Zo h2 eE).mono ?_;rintro e w' ⟨rfl,hw⟩;rw[<-Je _ _ _ hd,(Jf _ _ _).1,(tX T t).1,hTn]at hw;exact⟨⟨_,rfl⟩,hw⟩
 have HNC:Hid (∀t,(T.turns t).nc=nc):=λt=>by rw[(tX T t).2.1,hTc]
 have acO:Hid (∀t W,iV w W y ((T.turns t).kF nc) m->iV w W y (T.turns (t+1)) m):=by
  intro t W hW;show iV w W y ((T.turns t).kF T.nc) m;rw[hTc];exact hW
 rw[hm]at c0 n6⊢;rw[sH]at c9;clear h hT jb Zu uM I5 hm sH Xq hTn hTc
 go_in
 go_wp2
 go_loopw [10] (λx wr=>∃q:Nat,q<=m/\x=ι κ q/\iV w wr y (n.jB q) m) (λx _=>m-(ft x).toNat)
 case atStart=>exact⟨0,Nat.zero_le _,rfl,H0.out⟩
 case round=>
  obtain⟨q,hq,rfl,qS⟩:=hrel;obtain⟨V,rfl⟩:∃V,V=wr:=⟨_,rfl⟩
  by_cases kH:q<m
  ·have nG:(q:Int)<(m:Int):=eE;have Ub:IntKind.i64.wrap ((q:Int)+1)=(q:Int)+1:=aS _ ⟨eE,eE⟩;have ht:=Xt.out q V kH qS;clear qS;go_wp2_with(fail);refine ht.mono ?_;rintro e w1 ⟨⟨v,rfl⟩,l7⟩;have HW:Hid _:=l7;clear ht l7
   go_wp2
   go_roundw
   case rel=>exact⟨q+1,eE,by go_num,HW.out⟩
   case measure=>simp[ft];omega
  ·have yG:¬(q:Int)<(m:Int):=eE;obtain rfl:q=m:=eE;have HT0:Hid (iV w V y (T.turns 0) q):=HTT.out V qS;clear qS HTT H0 Xt
   go_wp2
   go_loopw [18] (λx wr=>∃t:Nat,t<=12/\x=ι κ t/\iV w wr y (T.turns t) q) (λx _=>12-(ft x).toNat)
   case atStart=>exact⟨0,Nat.zero_le _,rfl,HT0.out⟩
   case round=>
    obtain⟨t,ht,rfl,KQ⟩:=hrel;obtain⟨V2,rfl⟩:∃V2,V2=wr:=⟨_,rfl⟩
    by_cases Zv:t<12
    ·have acP:(t:Int)<12:=eE;obtain⟨d3,dl⟩:=HK3.out _ V2 (HNC.out t) KQ;have HD0:Hid _:=KQ;clear KQ
     go_wp2
     go_loopw [25] (λx wr=>∃c:Nat,c<=nc/\x=ι κ c/\iV w wr y ((T.turns t).qd c 0) q) (λx _=>nc-(ft x).toNat)
     case atStart=>exact⟨0,Nat.zero_le _,rfl,HD0.out⟩
     case round=>
      obtain⟨c,hc,rfl,hwc⟩:=hrel;obtain⟨V3,rfl⟩:∃V3,V3=wr:=⟨_,rfl⟩
      by_cases ag7:c<nc
      ·have aju:(c:Int)<(nc:Int):=eE;have HDc:Hid _:=hwc;clear hwc
       go_wp2
       go_loopw [28] (λx wr=>∃d:Nat,d<=2/\x=ι κ d/\iV w wr y ((T.turns t).qd c d) q) (λx _=>2-(ft x).toNat)
       case atStart=>exact⟨0,Nat.zero_le _,rfl,HDc.out⟩
       case round=>
        obtain⟨d,hd,rfl,Bk⟩:=hrel;obtain⟨V4,rfl⟩:∃V4,V4=wr:=⟨_,rfl⟩
        by_cases ag8:d<2
        ·have ajv:(d:Int)<2:=eE;have acQ:=ag6.out t c d V4 Zv ag7 ag8 Bk;clear Bk;go_wp2_with(fail);refine acQ.mono ?_;rintro e w1 ⟨⟨v,rfl⟩,l7⟩;have HW:Hid _:=l7;clear acQ l7
         go_wp2
         go_roundw
         case rel=>exact⟨d+1,eE,by go_num,HW.out⟩
         case measure=>simp[ft];omega
        ·have alL:¬(d:Int)<2:=eE;obtain rfl:d=2:=eE;have HW:Hid _:=Bk;clear Bk
         go_wp2
         go_roundw
         case rel=>exact⟨c+1,eE,by go_num,HW.out⟩
         case measure=>simp[ft];omega
      ·have alM:¬(c:Int)<(nc:Int):=eE;obtain rfl:c=nc:=eE;have HW:Hid (iV w V3 y (T.turns (t+1)) q):=acO.out t V3 hwc;clear hwc
       go_wp2
       go_roundw
       case rel=>exact⟨t+1,eE,by go_num,HW.out⟩
       case measure=>simp[ft];omega
    ·have acR:¬(t:Int)<12:=eE;obtain rfl:t=12:=eE;have HW:Hid (iV w V2 y n.round q):=by
      show iV _ _ _ _ _;rw[Gi.out];exact KQ
     clear KQ
     go_wp2
     first|go_end0|refine aj (ar rfl _ _ _) rfl ?_
     exact⟨rfl,HW.out⟩
def pS(l:List Nat):List Value:=l.map λ(n:Nat)=>Value.int .i64 (n:Int)
def rP(n:jc)(k c:Nat):Bool:=(n.C c).jG&& (((n.C c).e 0).1==k||((n.C c).e 1).1==k)
theorem Gm(y:Yt)(n:jc)(k:Nat)(w:World)(h:jJ w y n):
 Calls fk 115 #[π (μ ⟨y.N,0,ν⟩),ι κ ((k:Int)+1)] w λe w'=>∃v,e=ρ v/\Row w' 1 v (n.kT k).length (pS (n.kT k))/\(∀b,v.ownBlock=μ b->w.heap.size<=b)/\eN w w':=by
 obtain⟨i0,hi,oz,mW,nT⟩:=aW MX;have c3:=h.k3;obtain⟨a,cp,uM,I5⟩:=h.Y0;rw[uM]at c3;have cl:=h.uW;have c9:=h.c9;obtain⟨nc,sH⟩:=gH (n.nc);have HGC:Hid (∀c,c<nc->∃g,y.gC=μ g/\a=μ ⟨g,0,ν⟩):=by
  show∀c,_->_;rw[<-sH];exact I5
 have HF:Hid (∀W q g,eN w W->q<nc->y.gC=μ g->∃a0 n0 c0 a1 n1 c1,W.cell? ⟨g,q*7,ν⟩=μ (ι κ ((((n.C q).e 0).1:Int)+1))/\W.cell? ⟨g,q*7+1,ν⟩=μ (ι κ (((n.C q).e 0).2:Int))/\W.cell? ⟨g,q*7+2,ν⟩=μ (ι κ ((((n.C q).e 1).1:Int)+1))/\W.cell? ⟨g,q*7+3,ν⟩=μ (ι κ (((n.C q).e 1).2:Int))/\W.cell? ⟨g,q*7+4,ν⟩=μ (.bool (n.C q).jG)/\W.cell? ⟨g,q*7+5,ν⟩=μ (σ a0 n0 c0)/\W.cell? ⟨g,q*7+6,ν⟩=μ (σ a1 n1 c1)/\g<W.heap.size):=by
  intro W q g hb hq hg;have R:=h.below hb;have hC:=R.rc g hg q (by rw[sH];exact hq);obtain⟨a0,c0,e0⟩:=Row.shape (R.ob q 0 (by rw[sH];exact hq) eH);obtain⟨a1,c1,e1⟩:=Row.shape (R.ob q 1 (by rw[sH];exact hq) eH);refine⟨a0,((n.C q).on 0).length,c0,a1,((n.C q).on 1).length,c1,hC.cell 0 eH,hC.cell 1 eH,hC.cell 2 eH,hC.cell 3 eH,hC.cell 4 eH,?_,?_,hC.lt eH⟩
  ·rw[<-e0];exact hC.cell 5 eH
  ·rw[<-e1];exact hC.cell 6 eH
 have HE:Hid (n.kT k=(gJ nc).filter (rP n k)):=by
  show _=_;rw[<-sH];rfl
 rw[sH]at c3 c9;clear h I5 uM sH
 go_in
 go_wp2
 go_loopw [5,13] (λv x wr=>∃q:Nat,q<=nc/\x=ι κ q/\Row wr 1 v ((gJ q).filter (rP n k)).length (pS ((gJ q).filter (rP n k)))/\(∀b,v.ownBlock=μ b->w.heap.size<=b)/\eN w wr) (λ_ x _=>nc-(ft x).toNat)
 case atStart=>exact⟨0,Nat.zero_le _,rfl,Row.nil _ _,λb hb=>by simp[eF]at hb,au _ _⟩
 case round=>
  obtain⟨q,hq,rfl,ji,jC,ja⟩:=hrel;by_cases kH:q<nc
  ·have nG:(q:Int)<(nc:Int):=eE;have hq0:(0:Int)<=(q:Int):=eE;obtain⟨g,hg,rfl⟩:=HGC.out q kH;obtain⟨a0,n0,c0,a1,n1,c1,k0,k1,k2,k3,k4,k5,k6,gl⟩:=HF.out wr q g ja kH hg;have HP:Hid ((gJ (q+1)).filter (rP n k)=(gJ q).filter (rP n k)++if rP n k q=true then [q]else []):=by
    show _=_;rw[cQ,cA];congr 1;by_cases e:rP n k q=true
    ·rw[ag e,List.filter_cons_of_pos e];rfl
    ·rw[ae e,List.filter_cons_of_neg e];rfl
   have O7:rP n k q=((n.C q).jG&& (((n.C q).e 0).1==k||((n.C q).e 1).1==k)):=rfl;have HR:Hid _:=ji;have HO:Hid _:=jC;have HB:Hid _:=ja;clear jC ja hg;obtain⟨L,hL⟩:=gH ((gJ q).filter (rP n k));have hLq:L.length<=q:=by
    rw[<-hL];have:=cK (rP n k) (gJ q);simpa using this
   rw[hL]at ji HP;generalize ((n.C q).e 0).1=r0 at k0 O7;generalize ((n.C q).e 1).1=r1 at k2 O7;generalize ((n.C q).e 0).2=p0 at k1;generalize ((n.C q).e 1).2=p1 at k3;generalize (n.C q).jG=jG at k4 O7;cases jG with
   |false=>
    have Zw:True:=trivial;have D6:True:=trivial;have CR:rP n k q=false:=by rw[O7];first|rfl|simp[Zw,D6]
    have HN:Hid (Row (wr.alloc (γ #[ι κ ((r0:Int)+1),ι κ (p0:Int),ι κ ((r1:Int)+1),ι κ (p1:Int),.bool false,σ a0 n0 c0,σ a1 n1 c1] 197)) 1 u5 ((gJ (q+1)).filter (rP n k)).length (pS ((gJ (q+1)).filter (rP n k)))/\(∀b,u5.ownBlock=μ b->w.heap.size<=b)/\eN w (wr.alloc (γ #[ι κ ((r0:Int)+1),ι κ (p0:Int),ι κ ((r1:Int)+1),ι κ (p1:Int),.bool false,σ a0 n0 c0,σ a1 n1 c1] 197))):=by
     rw[HP.out,CR];simp only[Bool.false_eq_true,if_false,iz];exact⟨ji.alloc _,HO.out,HB.out.alloc HB.out.size _⟩
    clear ji O7 CR hL
    go_wp2
    go_roundw
    case rel=>exact⟨q+1,eE,by go_num,HN.out⟩
    case measure=>simp[ft];omega
   |true=>
    by_cases h0:r0=k
    ·rw[h0]at k0 O7;have CR:rP n k q=true:=by rw[O7];simp
     go_wp2_with(at_builtin;go_must(refine iX _ rfl (.tmp 36) (.tmp 38) 22 rfl 3 i0 (ι κ 0) 1 8 cZ hi oz mW nT rfl eH u5 L.length (pS L) rfl ((ji.alloc _).alloc _) _ 1 1 [ι κ (q:Int)] rfl rfl eH (wY _ _ _ _ iC) (vH _ _) (by unfold maxLen;omega) eE ?_));intro g' jL w3 sM tI xS;have HN:Hid (Row w3 1 (σ (μ ⟨g',0,ν⟩) (L.length+1) jL) ((gJ (q+1)).filter (rP n k)).length (pS ((gJ (q+1)).filter (rP n k)))/\(∀b,eF (σ (μ ⟨g',0,ν⟩) (L.length+1) jL)=μ b->w.heap.size<=b)/\eN w w3):=by
      have hs:=HB.out.size;rw[HP.out,CR];simp only[if_true,eY,eZ,fC];refine⟨?_,λb hb=> ?_,?_⟩
      ·have e9:pS (L++ [q])=pS L++ [ι κ (q:Int)] :=by simp[pS]
       rw[e9];exact sM
      ·have:g'=b:=by simpa[eF]using hb
       subst this;rcases xS with e|e
       ·exact HO.out _ e
       ·(try simp at e)
        omega
      ·exact((HB.out.alloc hs _).alloc (by simp;omega) _).grown tI (by simp;omega) (λb hb=>HO.out b (by rw[<-hb]))
     clear sM tI xS ji O7 CR hL
     go_wp2
     go_roundw
     case rel=>exact⟨q+1,eE,by go_num,HN.out⟩
     case measure=>simp[ft];omega
    ·have Zw:(r0==k)=false:=by simpa using h0
     have hz:¬((r0:Int)+1=(k:Int)+1):=eE;have hz':((r0:Int)+1==(k:Int)+1)=false:=by simpa using hz
     have Xu:¬((r0:Int)=(k:Int)):=eE;by_cases h1:r1=k
     ·rw[h1]at k2 O7;have CR:rP n k q=true:=by rw[O7];simp
      go_wp2_with(at_builtin;go_must(refine iX _ rfl (.tmp 36) (.tmp 38) 22 rfl 3 i0 (ι κ 0) 1 8 cZ hi oz mW nT rfl eH u5 L.length (pS L) rfl ((ji.alloc _).alloc _) _ 1 1 [ι κ (q:Int)] rfl rfl eH (wY _ _ _ _ iC) (vH _ _) (by unfold maxLen;omega) eE ?_));intro g' jL w3 sM tI xS;have HN:Hid (Row w3 1 (σ (μ ⟨g',0,ν⟩) (L.length+1) jL) ((gJ (q+1)).filter (rP n k)).length (pS ((gJ (q+1)).filter (rP n k)))/\(∀b,eF (σ (μ ⟨g',0,ν⟩) (L.length+1) jL)=μ b->w.heap.size<=b)/\eN w w3):=by
       have hs:=HB.out.size;rw[HP.out,CR];simp only[if_true,eY,eZ,fC];refine⟨?_,λb hb=> ?_,?_⟩
       ·have e9:pS (L++ [q])=pS L++ [ι κ (q:Int)] :=by simp[pS]
        rw[e9];exact sM
       ·have:g'=b:=by simpa[eF]using hb
        subst this;rcases xS with e|e
        ·exact HO.out _ e
        ·(try simp at e)
         omega
       ·exact((HB.out.alloc hs _).alloc (by simp;omega) _).grown tI (by simp;omega) (λb hb=>HO.out b (by rw[<-hb]))
      clear sM tI xS ji O7 CR hL
      go_wp2
      go_roundw
      case rel=>exact⟨q+1,eE,by go_num,HN.out⟩
      case measure=>simp[ft];omega
     ·have D6:(r1==k)=false:=by simpa using h1
      have hy:¬((r1:Int)+1=(k:Int)+1):=eE;have np:((r1:Int)+1==(k:Int)+1)=false:=by simpa using hy
      have hy3:¬((r1:Int)=(k:Int)):=eE;have CR:rP n k q=false:=by rw[O7];first|rfl|simp[Zw,D6]
      have HN:Hid (Row (wr.alloc (γ #[ι κ ((r0:Int)+1),ι κ (p0:Int),ι κ ((r1:Int)+1),ι κ (p1:Int),.bool true,σ a0 n0 c0,σ a1 n1 c1] 197)) 1 u5 ((gJ (q+1)).filter (rP n k)).length (pS ((gJ (q+1)).filter (rP n k)))/\(∀b,u5.ownBlock=μ b->w.heap.size<=b)/\eN w (wr.alloc (γ #[ι κ ((r0:Int)+1),ι κ (p0:Int),ι κ ((r1:Int)+1),ι κ (p1:Int),.bool true,σ a0 n0 c0,σ a1 n1 c1] 197))):=by
       rw[HP.out,CR];simp only[Bool.false_eq_true,if_false,iz];exact⟨ji.alloc _,HO.out,HB.out.alloc HB.out.size _⟩
      clear ji O7 CR hL
      go_wp2
      go_roundw
      case rel=>exact⟨q+1,eE,by go_num,HN.out⟩
      case measure=>simp[ft];omega
  ·obtain rfl:q=nc:=eE;have HW:Hid (Row wr 1 u5 (n.kT k).length (pS (n.kT k))/\(∀b,u5.ownBlock=μ b->w.heap.size<=b)/\eN w wr):=by
    show _/\_/\_;rw[HE.out];exact⟨ji,jC,ja⟩
   have yG:¬(q:Int)<(q:Int):=eE;clear ji jC ja
   go_wp2
   go_ret;exact⟨_,rfl,HW.out⟩
theorem lW.xk(h:lW w z r)(h3:r.n=3)(hb:z.oj b):b<w.heap.size:=by
 rcases hb with e|e|e
 ·have:=h.zf b;rw[h3]at this;exact this e
 ·exact h.bs.mlt b (.inl e)
 ·exact h.bs.mlt b (.inr e)
theorem lW.Jg(h:lW w z r)(h3:r.n=3) {g:Nat} (hg:z.fm.no g/\¬z.mine 3 g)(j:Nat)(v:Value):lW (w.setCell ⟨g,j,ν⟩ v) (z.plus λ_=>False) r:=by
 refine h.besides iC (λk _ hc=>ak _ _ _ k (λe=> ?_)) _ (λk e=>e.elim);have e':k=g:=e;subst e';rcases hc with hc|hc
 ·exact hc hg.1
 ·rw[h3]at hc;exact hg.2 hc
theorem jJ.renew {W0 W2 W3:World} {y y1:Yt} {n n3:jc} {k:Nat} (h0:jJ W0 y n)(hk:k<n.n)(hb:eN W0 W2)(hz:lW W2 z r)(hr:r.n=3/\r.id=(k:Int)+1)
 (VM:∀b,z.oj b->W0.heap.size<=b) (hzX:∀b,y.all n.n b \/y.ext b->z.fm.no b) (BF:y.same y1) (Zx:∀b,y1.all n.n b↔y.all n.n b) (xI:∀b,y1.ext b↔y.ext b \/z.oj b)
 (hW:iV W2 W3 y1 n3 n.n) (wF:n3.n=n.n):
 ∃y2,jJ (W3.setCell ⟨y.gR,k,ν⟩ (π (μ ⟨z.R,0,ν⟩))) y2 (n3.jQ k r)/\y.same y2/\(∀b,y2.all n.n b->y.all n.n b \/z.oj b \/W2.heap.size<=b)/\(∀b,y2.ext b↔y.ext b)/\uj W0 (W3.setCell ⟨y.gR,k,ν⟩ (π (μ ⟨z.R,0,ν⟩))) y n.n:=by
 obtain⟨y',R',s',VE,Ep⟩:=hW.ex;have hK:=hW.kept;have Vx:y'.gR=y.gR:=s'.gR.trans BF.gR;have Zy:y'.bM=y.bM:=s'.bM.trans BF.bM;have ag9:∀b,z.oj b->b<W2.heap.size:=λb e=>hz.xk hr.1 e;have oA:∀b,y'.all n.n b->y.all n.n b \/W2.heap.size<=b:=λb e=>(VE b e).imp_left (Zx b).1;have SP:∀b,y.all n.n b->b<W0.heap.size:=λb e=>h0.Ah e;have aha:∀b,y'.all n.n b->b<W3.heap.size:=λb e=>R'.Ah (by rw[wF];exact e);obtain⟨X,JU⟩:∃X:Nat->Prop,X=λb=>W2.heap.size<=b/\b<W3.heap.size/\y'.all n.n b:=⟨_,rfl⟩
 have hX:∀b,X b->W2.heap.size<=b/\b<W3.heap.size:=λb e=>by rw[JU]at e;exact⟨e.1,e.2.1⟩
 have Xu:lW W3 (z.plus X) r:=by
  refine hz.besides hK.size (λb qU hc=>hK.block b qU (λe=> ?_)) X hX;have e1:=(Zx b).1 e;rcases hc with hc|hc
  ·exact hc (hzX b (.inl e1))
  ·rw[hr.1]at hc;have:=VM b (.inl hc);have:=SP b e1;omega
 have jw:∀b,y'.all n.n b->(z.fm.no b \/X b)/\¬z.mine 3 b:=λb e=>by
  rcases oA b e with e1|e1
  ·exact⟨.inl (hzX b (.inl e1)),λe2=>by have:=VM b (.inl e2);have:=SP b e1;omega⟩
  ·exact⟨.inr (by rw[JU];exact⟨e1,aha b e,e⟩),λe2=>by have:=ag9 b (.inl e2);omega⟩
 have Lr:y'.own y.gR:=⟨.R,by rw[<-Vx];rfl⟩
 have acS:(z.plus X).fm.no y.gR/\¬(z.plus X).mine 3 y.gR:=jw y.gR (.inl Lr);obtain⟨W4,tR⟩:=gH (W3.setCell ⟨y.gR,k,ν⟩ (π (μ ⟨z.R,0,ν⟩)));have UZ:lW W4 ((z.plus X).plus λ_=>False) r:=by rw[<-tR];exact Xu.Jg hr.1 acS k _
 have DX:∀j,j<n.n->lW W4 ((y'.z j).plus λ_=>False) (n3.R j):=λj hj=>by
  rw[<-tR];exact(R'.rt j (by rw[wF];exact hj)).Jg (R'.rn j (by rw[wF];exact hj)).1 (R'.away j (by rw[wF];exact hj) y.gR (.inl Lr)) k _
 have nR:∀b,b≠y.gR->W4.heap[b]? =W3.heap[b]? :=λb e=>by rw[<-tR];exact ak _ _ _ b e
 have qI:W4.heap.size=W3.heap.size:=by rw[<-tR];simp
 have hat:∀l b,y'.at l=μ b->l≠ .R->W4.heap[b]? =W3.heap[b]? :=λl b e hl=>nR b (λe1=>R'.sZ e (show y'.at .R=μ y'.gR from rfl) hl (by rw[Vx];exact e1));obtain⟨Z,hZ⟩:∃Z:Nat->Zt,Z=λj=>if j=k then(z.plus X).plus λ_=>False else(y'.z j).plus λ_=>False:=⟨_,rfl⟩
 have hZk:Z k=(z.plus X).plus λ_=>False:=by rw[hZ];simp
 have Vp:∀j,j≠k->Z j=(y'.z j).plus λ_=>False:=λj hj=>by rw[hZ];simp[hj]
 have hZf:∀j b,(Z j).oj b->(j=k/\z.oj b) \/(j≠k/\(y'.z j).oj b):=λj b e=>by
  by_cases ej:j=k
  ·subst ej;rw[hZk]at e;exact .inl ⟨rfl,e⟩
  ·rw[Vp j ej]at e;exact .inr ⟨ej,e⟩
 have acT:uj W0 W4 y n.n:=by
  have b1:Below 0 W3 W4:=by rw[<-tR];exact(au 0 W3).setCell (Nat.zero_le _) _
  refine⟨b1.os.trans (hK.os.trans hb.os),b1.tape.trans (hK.tape.trans hb.tape),b1.output.trans (hK.output.trans hb.output),by rw[qI];exact Nat.le_trans hb.size hK.size,λb qU hn=> ?_⟩;have e1:b≠y.gR:=λe=>hn (.inl ⟨.R,by rw[e];rfl⟩);rw[nR b e1,hK.block b (Nat.lt_of_lt_of_le qU hb.size) (λe=>hn ((Zx b).1 e)),hb.block b qU]
 rw[tR];refine⟨{y' with z:=Z,ext:=λb=>y'.ext b/\¬z.oj b},⟨R'.n1,R'.n6,R'.c9,R'.nN.keep (hat .N _ rfl (λe=>nomatch e)),?_,R'.ri.keep (hat .I _ rfl (λe=>nomatch e)),λg hg c hc=>(R'.rc g hg c hc).keep (hat .C _ hg (λe=>nomatch e)),R'.gc,?_,?_,?_,λj hj=>(R'.ib j hj).keep eE (λb e=>hat (.ib j) b e (λe=>nomatch e)),λc d hc hd=>(R'.ob c d hc hd).keep eE (λb e=>hat (.on c d) b e (λe=>nomatch e)),R'.ol,R'.en,R'.inj,?_,λb e=>R'.nx b e.1,⟨R'.nM.1,λe=>R'.nM.2.1 e.1,?_⟩,R'.z0⟩,Yt.xj BF (Yt.xj s' ⟨rfl,rfl,rfl,rfl,rfl,rfl,rfl,rfl⟩),?_,?_,acT⟩
 ·have h1:=R'.rr.set k (by rw[wF];exact hk) (π (μ ⟨z.R,0,ν⟩));rw[Vx,Nat.zero_add,tR]at h1;show pL W4 y'.gR 0 n3.n _;rw[Vx];refine h1.congr λj hj=> ?_;show qF _ k _ j=π (μ ⟨(Z j).R,0,ν⟩);by_cases e:j=k
  ·subst e;rw[hZk];unfold qF;simp;rfl
  ·rw[Vp j e,jP _ _ e];rfl
 ·obtain⟨E,h1,h2⟩:=R'.mp;refine⟨E,h1.keep (nR y'.bM (λe=>R'.nM.1 ?_)),h2⟩;rw[e];exact Lr
 ·intro j hj;show lW W4 (Z j) (jI n3.R k r j);by_cases e:j=k
  ·subst e;rw[hZk,iP];exact UZ
  ·rw[Vp j e,iL _ _ e];exact DX j (by rw[<-wF];exact hj)
 ·intro j hj;show(jI n3.R k r j).n=3/\(jI n3.R k r j).id=(j:Int)+1;by_cases e:j=k
  ·subst e;rw[iP];exact hr
  ·rw[iL _ _ e];exact R'.rn j hj
 ·intro i hi b qU;have lO:i<n.n:=by rw[<-wF];exact hi
  show(Z i).fm.no b/\¬(Z i).mine 3 b;by_cases ei:i=k
  ·subst ei;rw[hZk];have Jh:(z.fm.no b \/X b)/\¬z.mine 3 b:=by
    rcases qU with e|e|⟨j,hj,jV,e⟩
    ·exact jw b (.inl e)
    ·have e1:=(Ep b).1 e.1;rcases(xI b).1 e1 with e2|e2
     ·exact⟨.inl (hzX b (.inr e2)),λe3=>e.2 (.inl e3)⟩
     ·exact absurd e2 e.2
    ·rcases hZf j b e with⟨e1,_⟩|⟨e1,e2⟩
     ·exact absurd e1 jV
     ·exact jw b (.inr ⟨j,by rw[<-wF];exact hj,e2⟩)
   exact⟨.inl Jh.1,Jh.2⟩
  ·rw[Vp i ei];have Jh:(y'.z i).fm.no b/\¬(y'.z i).mine 3 b:=by
    rcases qU with e|e|⟨j,hj,jV,e⟩
    ·exact R'.away i hi b (.inl e)
    ·exact R'.away i hi b (.inr (.inl e.1))
    ·rcases hZf j b e with⟨e1,e2⟩|⟨e1,e2⟩
     ·exact R'.away i hi b (.inr (.inl ((Ep b).2 ((xI b).2 (.inr e2)))))
     ·exact R'.away i hi b (.inr (.inr ⟨j,hj,jV,e2⟩))
   exact⟨.inl Jh.1,Jh.2⟩
 ·intro i hi e;show False;rcases hZf i _ e with⟨_,e2⟩|⟨_,e2⟩
  ·have e3:=VM _ e2;have h1:=h0.EG;have e4:W0.heap.size<=y'.bM:=e3;rw[Zy]at e4;omega
  ·exact R'.nM.2.2 i hi e2
 ·intro b e;rcases e with e|⟨j,hj,e⟩
  ·rcases oA b (.inl e)with e1|e1
   ·exact .inl e1
   ·exact .inr (.inr e1)
  ·rcases hZf j b e with⟨_,e2⟩|⟨_,e2⟩
   ·exact .inr (.inl e2)
   ·rcases oA b (.inr ⟨j,hj,e2⟩)with e1|e1
    ·exact .inl e1
    ·exact .inr (.inr e1)
 ·intro b;constructor
  ·rintro⟨e1,e2⟩;rcases(xI b).1 ((Ep b).1 e1)with e3|e3
   ·exact e3
   ·exact absurd e3 e2
  ·intro e;refine⟨(Ep b).2 ((xI b).2 (.inl e)),λe2=> ?_⟩;have h1:=h0.lt (.inr e);have h2:=VM b e2;omega
end Rt
end Go.Proofs.YtieklnlbljejdaaGreatDoor
