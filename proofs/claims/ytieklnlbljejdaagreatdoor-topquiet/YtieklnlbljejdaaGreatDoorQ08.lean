import Derived.Test.YtieklnlbljejdaaGreatDoorQ07
open Go.Value renaming int → ι, slice → σ, pointer → π, tuple → τ, nilIface → η
open Go.IntKind renaming i64 → κ
open Go.Ending renaming returned → ρ
open Go.Obj renaming cells → γ
open Option renaming none → ν, some → μ
open List renaming length_append → eI, length_cons → eM, map_cons → eE, map_nil → eF
open Go renaming World → dR, Value → dT, Calls → eT, Addr → dQ
open Go.Proofs.Tryz renaming prog → eU
open Go.RowKit renaming intOf → eV
open Go.Value renaming ownBlock → dV, int → dY
open And renaming intro → fQ
open Go.Instr renaming loadAt → fH
open Go.Sem renaming run_bind → fJ
open BitVec renaming ofInt → eW, ofInt_natCast → fZ, toNat_ofNat → ga
open Go.IntKind renaming i64 → fh
set_option maxRecDepth 100000
set_option maxHeartbeats 4000000
open Go.Proofs.Tryz
namespace Go.Proofs.YtieklnlbljejdaaGreatDoor
open Go.RowKit St
namespace Rt
variable {B g o:Nat} {out:List kG} {p:jl} {v:Value} {w w1 w2:World}
def vE(p:jl)(q:kG):jl:=if jJ q.1 q.2.1 q.2.2=0 then p.put 76 (lR q.1 q.2.1 q.2.2)else p
theorem Dr:∀(l:List kG) (p:jl) (q:kG),p.say (l++ [q])=vE (p.say l) q
 |[],_,_=>rfl
 |x::l,p,q=>by
  show(vE p x).say (l++ [q])=vE ((vE p x).say l) q;exact Dr l (vE p x) q
theorem wD(p:jl)(c:UInt8)(s:List UInt8):(p.put c s).out.length<=p.out.length+126:=by
 unfold jl.put;split
 ·omega
 ·split
  ·rename_i h
   have:=xP (c::s) (by simpa using h);simp only[eI];omega
  ·omega
theorem Te(p:jl)(q:kG):(vE p q).out.length<=p.out.length+126:=by
 unfold vE;split
 ·exact wD _ _ _
 ·omega
theorem yQ:∀(l:List kG) (p:jl),(p.say l).out.length<=p.out.length+126*l.length
 |[],p=>by simp[jl.say]
 |x::l,p=>by
  have h1:=yQ l (vE p x);have h2:=Te p x;have e:p.say (x::l)=(vE p x).say l:=rfl;rw[e,cH];omega
structure PtQ(w:dR)(g o B:Nat)(v:dT)(p:jl)(X:Nat->Prop)(vl:dT)(qs:List PV):Prop where
 wC:∃F,pP w g o 71 (wB p B v F)/\Cj F p.rd.1 p.rd.2.1 p.rd.2.2
 rep:qF w B X p.L vl qs
 ou:Row w 1 v p.out.length (iH p.out)
 few:p.out.length<=1000000000
 ok:yK p.L
 gB:g≠B
 vg:v.ownBlock≠μ g
 vB:v.ownBlock≠μ B
 nz:g≠0/\B≠0/\v.ownBlock≠μ 0
 xg:X g
 xv:∀k,v.ownBlock=μ k->X k
theorem Pm {code id:Int} {os:List jG} (h:jJ code id os=0):(lR code id os).length<=100:=by
 have h8:os.length<=8:=by
  unfold jJ at h;split at h
  ·simp at h
  ·split at h
   ·simp at h
   ·omega
 have:=rh os;simp only[lR,eM];omega
theorem Tf(g o B:Nat)(v:dT)(p:jl)(X:Nat->Prop)(vl:dT)(qs:List PV)(w:dR)(h:PtQ w g o B v p X vl qs)(hq:qs.length<=40)(hn:p.out.length<=800000000):
 eT eU 123 #[π (μ ⟨g,o,ν⟩)] w λe w'=>e=ρ (τ #[])/\ll w w' g o B v (p.say (qs.map PV.abs)):=by
 have uO:=V7 B X p.L vl qs w h.rep;have c1:w.cell? ⟨g,o+1,ν⟩=μ (π (μ ⟨B,0,ν⟩)):=by obtain⟨F,hC,_⟩:=h.wC;exact hC.cell 1 dX
 have Jk:g<w.heap.size:=by obtain⟨F,hC,_⟩:=h.wC;exact hC.lt dX
 have Z:Hid _:=h;clear h
 go_in
 go_wp2_with(fail);refine uO.mono ?_;rintro e w1 ⟨rfl,hR,iQ,Pn,T⟩;have XR:pS w1 g o B v p:=by
  obtain⟨F,hC,hF⟩:=Z.out.wC;have hkv:∀k,v.ownBlock=μ k->w1.heap[k]? =w.heap[k]? :=λk J=>T.block k (Z.out.ou.lt k J) (λe=>Z.out.vB (by rw[J,e])) gO;exact⟨⟨F,hC.keep (T.block g Jk Z.out.gB gO),hF⟩,hR.lk,Z.out.ou.keep T.size hkv,Z.out.few,Z.out.ok,Z.out.gB,Z.out.vg,Z.out.vB,Z.out.nz⟩
 have Vi:ni w w1 g o B v:=⟨T.os,T.tape,T.output,T.size,λi hi _ h2 _=>T.block i hi h2 gO,λj _=>ai (a:=⟨g,j,ν⟩) (T.block g Jk Z.out.gB gO),λj=>aJ (a:=⟨g,j,ν⟩) (T.block g Jk Z.out.gB gO)⟩
 have y:∀W:dR,ni w1 W g o B v->ZI W vl qs:=λW kW=>by
  refine⟨iQ.keep kW.size (λk J=>kW.block k (iQ.lt k J) (λY=>Z.out.rep.own k J (by rw[Y];exact Z.out.xg)) (λY=>Z.out.rep.own k J (by rw[Y];exact Z.out.rep.self)) (λY=>Z.out.rep.own k J (Z.out.xv k Y))),λq Sw=>⟨(Pn q Sw).opt.M9 (λk J=> ?_),(Pn q Sw).few⟩⟩;obtain⟨f1,_,f3⟩:=(Pn q Sw).far k J;exact kW.block k f3 (λY=>f1 (by rw[Y];exact Z.out.xg)) (λY=>f1 (by rw[Y];exact Z.out.rep.self)) (λY=>f1 (Z.out.xv k Y))
 have hle:∀q∈qs,q.n<=q.cap:=λq Sw=>(Pn q Sw).le;have Ox:g<w1.heap.size:=XR.lt;obtain⟨a,ca,rfl,_⟩:=(y w1 (ni.refl _ _ _ _ _)).shape;obtain⟨n,uU⟩:=fW (qs.length);have H1:Hid _:=XR;have HK1:Hid _:=Vi;have HPk:Hid _:=y;have HLe:Hid _:=hle;have HN:Hid _:=uU;rw[uU]at hq;rw[uU];clear uO hR iQ Pn T XR Vi y hle uU c1
 go_wp2
 go_loopw [12] (λi wr=>∃(k:Nat) (D:dT),k<=n/\i=ι κ k/\pS wr g o B D (p.say ((qs.map PV.abs).take k))/\ni w1 wr g o B v/\(∀i,D.ownBlock=μ i->v.ownBlock=μ i \/w1.heap.size<=i)) (λi _=>n-(eV i).toNat)
 case atStart=>exact⟨0,v,Nat.zero_le _,rfl,H1.out,ni.refl _ _ _ _ _,λ_ e=>.inl e⟩
 case round=>
  obtain⟨k,D,J,rfl,hP,Vn,H⟩:=hrel;by_cases ka:k<n
  ·have m8:(k:Int)<(n:Int):=dU;have Jh:(0:Int)<=(k:Int):=dU;have lk:k<qs.length:=by have:=HN.out;omega
   have PK:=HPk.out wr Vn;obtain⟨a',ca',Y,f1⟩:=PK.shape;obtain⟨g1,ea,x0,x1,x2⟩:=f1 k qs[k] (aA lk);have e1':a=a':=by simpa using(bG Y).1
   rw[ea]at e1';subst e1';have ho:=PK.opt qs[k] (aK lk);have Ce:=HLe.out qs[k] (aK lk);have Wq:Hid ((qs.map PV.abs).take (k+1)=(qs.map PV.abs).take k++ [qs[k].abs]):=by
    show _=_;rw[ay (by simpa using lk)];simp
   generalize qs[k] =q at x0 x1 x2 ho Ce Wq;obtain⟨U,V,qa,qn,Wr,M⟩:=q;simp only at x0 x1 x2 ho Ce;have z0:wr.cell? ⟨g1,k*3,ν⟩=μ (ι κ U):=by rw[Nat.zero_add]at x0;exact x0
   have z1:wr.cell? ⟨g1,k*3+1,ν⟩=μ (ι κ V):=by rw[Nat.zero_add]at x1;exact x1
   have z2:wr.cell? ⟨g1,k*3+2,ν⟩=μ (σ qa qn Wr):=by rw[Nat.zero_add]at x2;exact x2
   have hln:(p.say ((qs.map PV.abs).take k)).out.length<=900000000:=by
    have h1:=yQ ((qs.map PV.abs).take k) p;have h2:((qs.map PV.abs).take k).length<=k:=b9 _ _;omega
   have ba:=gN wr (γ #[ι κ U,ι κ V,σ qa qn Wr] 37);have HP:Hid _:=hP;have ZU:Hid _:=Vn;have G:Hid _:=H;clear PK f1 Y ea x0 x1 x2 hP Vn H;by_cases hf:jJ U V M=0
   ·have A:=G9 U V qa qn Wr M _ Ce (ho.1.below ba) hf;have Cn:=Pm hf;have E1:Hid (p.say ((qs.map PV.abs).take (k+1))=(p.say ((qs.map PV.abs).take k)).put 76 (lR U V M)):=by
     show _=_;rw[Wq.out,Dr];show vE _ (U,V,M)=_;unfold vE;rw[ag hf]
    clear hf ho;obtain⟨L,hL⟩:=fW (lR U V M);rw[hL]at A Cn E1;clear hL;go_wp2_with(fail);refine A.mono ?_;rintro e w3 ⟨rfl,b3⟩;have k3:=fY ba b3;have nP:=Cm g o B D (p.say ((qs.map PV.abs).take k)) ⟨#[76]⟩ ⟨L.toArray⟩ 76 w3 (HP.out.below k3) rfl (by show L.toArray.size<=1000;simp;omega) hln;have eL:(⟨L.toArray⟩:ByteArray).data.toList=L:=gO;rw[eL]at nP;clear A b3;go_wp2_with(fail);refine nP.mono ?_;rintro e w4 ⟨rfl,hW⟩;have nC:ll w1 w4 g o B v (p.say ((qs.map PV.abs).take (k+1))):=by
     rw[E1.out];exact ll.trans (ZU.out.trans (ni.iJ o B D k3 HP.out.lt) G.out) G.out hW
    have HW:Hid _:=nC;clear nP hW nC k3 ba
    go_wp2
    go_roundw
    case rel=>
     obtain⟨⟨v5,h5,h6⟩,h7⟩:=HW.out;exact⟨k+1,v5,dU,by go_num,h5,h7,h6⟩
    case measure=>simp[eV];omega
   ·have A:=Jl U V qa qn Wr M _ dU Ce (ho.1.below ba) hf;have ee:jb (jJ U V M)=.iface 128 (ι κ (jJ U V M:Int)):=by simp only[jb];rw[ae hf]
    rw[ee]at A;have E1:Hid (p.say ((qs.map PV.abs).take (k+1))=p.say ((qs.map PV.abs).take k)):=by
     show _=_;rw[Wq.out,Dr];show vE _ (U,V,M)=_;unfold vE;rw[ae hf]
    clear hf ho ee;generalize jJ U V M=f at A;go_wp2_with(fail);refine A.mono ?_;rintro e w3 ⟨rfl,b3⟩;have KX:Hid _:=fY ba b3;clear A b3 ba
    go_wp2
    go_roundw
    case rel=>exact⟨k+1,D,dU,by go_num,by rw[E1.out];exact HP.out.below KX.out,ZU.out.trans (ni.iJ o B D KX.out HP.out.lt) G.out,G.out⟩
    case measure=>simp[eV];omega
  ·have yt:¬(k:Int)<(n:Int):=dU;have HE:Hid (ll w wr g o B v (p.say (qs.map PV.abs))):=by
    have Y:(qs.map PV.abs).take k=qs.map PV.abs:=aG (by have:=HN.out;simp;omega);rw[Y]at hP;exact ll.trans HK1.out (λ_ e=>.inl e) ⟨⟨D,hP,H⟩,Vn⟩
   clear hP Vn H
   go_wp2
   first|go_end0|refine iC rfl rfl ?_
   exact⟨rfl,HE.out⟩
structure A4(w w1:dR)(g o B:Nat)(v:dT)(p:jl)(out:List kG):Prop where
 ex:∃vl qs,PtQ w1 g o B v p (λk=>k<w.heap.size) vl qs/\qs.map PV.abs=out
 kept:ni w w1 g o B v
theorem pS.begin(h:pS w g o B v p):A4 w w g o B v p [] :=
 ⟨⟨σ ν 0 0,[],⟨h.wC,qF.rest h.lk,h.ou,h.few,h.ok,h.gB,h.vg,h.vB,h.nz,h.lt,λk Z=>h.ou.lt k Z⟩,rfl⟩,ni.refl _ _ _ _ _⟩
theorem A4.tab(h:A4 w w1 g o B v p out)(Y:iV w):iV w1:=λe s X hs=>by
 obtain⟨vl,qs,Z,_⟩:=h.ex;exact(ai (a:=⟨0,e*10+s,ν⟩) (h.kept.block 0 Y.lt (λe=>Z.nz.1 e.symm) (λe=>Z.nz.2.1 e.symm) Z.nz.2.2)).trans (Y e s X hs)
theorem A4.went {ade:List kG} {vl:dT} {qs:List PV} {s':LS} (Z:PtQ w1 g o B v p (λk=>k<w.heap.size) vl qs)(G:qs.map PV.abs=out)(Y:ni w w1 g o B v)
 (hW:mW w1 w2 B (λk=>k<w.heap.size) s' vl qs ade) (A:yK s'):A4 w w2 g o B v {p with L:=s'} (out++ade):=by
 obtain⟨⟨v2,q2,hR,M,hv2⟩,V⟩:=hW;obtain⟨F,hC,hF⟩:=Z.wC;have hlg:g<w1.heap.size:=hC.lt dX;have J:∀i,vl.ownBlock=μ i->¬i<w.heap.size:=λi e=>Z.rep.own i e;have hb:∀i,i<w.heap.size->i≠B->w2.heap[i]? =w1.heap[i]? :=λi hi y=>V.block i (Nat.lt_of_lt_of_le hi Y.size) y (λe=>J i e hi);have X:w2.heap[g]? =w1.heap[g]? :=hb g Z.xg Z.gB;refine⟨⟨v2,qs++q2,⟨⟨F,hC.keep X,hF⟩,hR,Z.ou.keep V.size (λk T=>hb k (Z.xv k T) (λe=>Z.vB (by rw[T,e]))),Z.few,A,Z.gB,Z.vg,Z.vB,Z.nz,Z.xg,Z.xv⟩,by rw[cu,G,M]⟩,?_⟩;exact⟨V.os.trans Y.os,V.tape.trans Y.tape,V.output.trans Y.output,Nat.le_trans Y.size V.size,λi hi H U D=>(hb i hi U).trans (Y.block i hi H U D),λj h=>(ai (a:=⟨g,j,ν⟩) X).trans (Y.cell j h),λj=>(aJ (a:=⟨g,j,ν⟩) X).trans (Y.fz j)⟩
theorem A4.say {w w1:dR} {g o B:Nat} {v:dT} {p:jl} {out:List kG} (h:A4 w w1 g o B v p out)(Z:out.length<=40)(V:p.out.length<=800000000):
 eT eU 123 #[π (μ ⟨g,o,ν⟩)] w1 λe w'=>e=ρ (τ #[])/\ll w w' g o B v (p.say out):=by
 obtain⟨X,qs,Y,rfl⟩:=h.ex;refine(Tf g o B v p _ X qs w1 Y (by simpa using Z) V).mono ?_;rintro e w' ⟨rfl,U⟩;exact⟨rfl,ll.trans h.kept (λ_ e=>.inl e) U⟩
theorem A4.do_(h:A4 w w1 g o B v p out)(U:iV w)(hq:out.length<=40)(ev:Int):
 eT eU 120 #[π (μ ⟨B,0,ν⟩),ι κ ev] w1 λe w'=>e=ρ (jb (kL p.L ev).2.2)/\A4 w w' g o B v {p with L:=(kL p.L ev).1} (out++(kL p.L ev).2.1):=by
 have X:=h.tab U;obtain⟨V,qs,Z,Y⟩:=h.ex;have hl:qs.length=out.length:=by rw[<-Y];simp
 refine(ZK ev B _ p.L V qs w1 X Z.rep Z.ok.bd dU).mono ?_;rintro e w' ⟨rfl,T⟩;exact⟨rfl,A4.went Z Y h.kept T (Z.ok.kL ev)⟩
theorem A4.tick {w:dR} {g o B:Nat} {v:dT} {p:jl} (h:pS w g o B v p)(V:iV w):
 eT eU 147 #[π (μ ⟨B,0,ν⟩)] w λe w'=>e=ρ (τ #[])/\A4 w w' g o B v {p with L:=j6 p.L} (lh p.L):=by
 have hw:=h.ok.wt;have hb:=h.begin;obtain⟨X,qs,Z,T⟩:=hb.ex;have U:qs=[] :=by simpa using T
 subst U;have Y:X.ownBlock≠μ 0:=λe=>Z.rep.own 0 e V.lt;refine(SN B _ p.L X [] w V h.nz.2.1 Y Z.rep h.ok.bd gO dU dU).mono ?_;rintro e w' ⟨rfl,M⟩;refine⟨rfl,?_⟩;have:=A4.went Z rfl hb.kept M h.ok.tick;simpa using this
theorem A4.state(h:A4 w w1 g o B v p out):
 eT eU 114 #[π (μ ⟨B,0,ν⟩)] w1 λe w'=>e=ρ (ι κ p.L.st)/\w1=w':=by
 obtain⟨Z,qs,Y,ho⟩:=h.ex;exact zV B _ p.L Z qs w1 Y.rep
theorem A4.ptr(h:A4 w w1 g o B v p out):w1.cell? ⟨g,o+1,ν⟩=μ (π (μ ⟨B,0,ν⟩))/\g<w1.heap.size:=by
 obtain⟨vl,qs,Z,ho⟩:=h.ex;obtain⟨F,hC,hF⟩:=Z.wC;exact⟨hC.cell 1 dX,hC.lt dX⟩
theorem FP(L:LS):(iW L).2.length<=12:=by
 unfold iW;have h1:=FK L;have h2:=yO (j6 L) 1;have h3:=yO (kL (j6 L) 1).1 0;split
 ·simp only[eI];omega
 ·simp only;omega
theorem Po(g o B:Nat)(v:dT)(p:jl)(w:dR)(h:pS w g o B v p)(M:iV w)(hn:p.out.length<=800000000):
 eT eU 82 #[π (μ ⟨g,o,ν⟩)] w λe w'=>e=ρ (τ #[])/\ll w w' g o B v p.tick:=by
 have hk:=A4.tick h M;have c1:=h.c1;have hl:=h.lt;have hlen:=FP p.L;clear h
 go_in
 go_wp2_with(fail);refine hk.mono ?_;rintro e w1 ⟨rfl,V⟩;have G:=V.state;obtain⟨d1,dl⟩:=V.ptr;clear hk c1 hl;go_wp2_with(fail);refine G.mono ?_;rintro e w2 ⟨rfl,rfl⟩;clear G;cases A:((j6 p.L).st==3)
 ·have T:(j6 p.L).st≠3:=by simpa using A
  have Y:iW p.L=(j6 p.L,lh p.L):=by unfold iW;rw[ae T]
  have X:p.tick=({p with L:=j6 p.L}:jl).say (lh p.L):=by unfold jl.tick;rw[Y]
  rw[Y]at hlen;have hs:=V.say (by simp only at hlen;omega) hn;rw[<-X]at hs;have D:Hid _:=X;clear Y X T V;go_wp2_with(fail);refine hs.mono ?_;rintro e w3 ⟨rfl,J⟩;clear hs
  go_wp2
  first|go_end0|refine iC rfl rfl ?_
  exact⟨rfl,J⟩
 ·have T:(j6 p.L).st=3:=by simpa using A
  have l1:=FK p.L;have l2:=yO (j6 p.L) 1;have U:=V.do_ M dU 1;have Y:iW p.L=((kL (kL (j6 p.L) 1).1 0).1,lh p.L++(kL (j6 p.L) 1).2.1++(kL (kL (j6 p.L) 1).1 0).2.1):=by unfold iW;rw[ag T]
  have X:p.tick=({p with L:=(kL (kL (j6 p.L) 1).1 0).1}:jl).say (lh p.L++(kL (j6 p.L) 1).2.1++(kL (kL (j6 p.L) 1).1 0).2.1):=by unfold jl.tick;rw[Y]
  rw[Y]at hlen;have D:Hid _:=X;clear Y X T V;go_wp2_with(fail);refine U.mono ?_;rintro e w3 ⟨rfl,Z⟩;have y:=Z.do_ M (by simp only[eI];omega) 0;obtain⟨f1,fl⟩:=Z.ptr;clear U Z;go_wp2_with(fail);refine y.mono ?_;rintro e w4 ⟨rfl,H⟩;have hs:=H.say (Nat.le_trans (show _<=12 from hlen) dX) hn;clear y H;go_wp2_with(fail);refine hs.mono ?_;rintro e w5 ⟨rfl,J⟩;clear hs
  go_wp2
  first|go_end0|refine iC rfl rfl ?_
  refine⟨rfl,?_⟩;rw[D.out];exact J
theorem ZV(ev:Int)(U:ev=0 \/ev=1)(B:Nat)(X:Nat->Prop)(s:LS)(v:dT)(ps:List PV)(w:dR)(V:iV w)(h:qF w B X s v ps)(hf:(kL s ev).2.2≠0):
 eT eU 120 #[π (μ ⟨B,0,ν⟩),ι κ ev] w λe w'=>e=ρ (.iface 128 (ι κ ((kL s ev).2.2:Int)))/\eh w w':=by
 have hz:=rM;have ed:kL s ev=r7 s ev (0,0,[]):=by unfold kL;rw[ag dU]
 rw[ed]at hf⊢;have Z:(ja s.st ev).2.2≠0:=λe=>hf (by rw[sP _ e]);rw[vz _ Z];obtain⟨D,nx,f,Y⟩:∃D nx f,ja s.st ev=(D,nx,f):=⟨_,_,_,rfl⟩
 rw[Y]at Z⊢;have hc:=NA B X s v ps ⟨0,0,ν,0,0,[]⟩ ev D nx f w V h Y Z;clear h V Y Z hf ed;rcases U with rfl|rfl
 all_goals
  go_in
  go_wp2_with(fail);refine hc.mono ?_;rintro e w1 ⟨rfl,T⟩;clear hc
  go_wp2
  go_ret;exact⟨rfl,T⟩
theorem Ti(p:jl)(B:Nat)(v:dT)(F G:Nat->dT)(r:kc):∀j,j<71->(if 2<=j/\j<2+65 then G (j-2)else wB p B v F j)=wB {p with rd:=r} B v G j:=by
 intro j hj;by_cases e:2<=j/\j<2+65
 ·rw[ag e];unfold wB;rw[ae dU,ae dU,ag dU]
 ·rw[ae e];unfold wB;by_cases Y:j=0
  ·simp[Y]
  ·by_cases Z:j=1
   ·simp[Z]
   ·have X:¬j<67:=dU;simp[Y,Z,X]
theorem A4.read(h:A4 w w1 g o B v p out)(r:kc)(T:Rd w2 g (o+2) r.1 r.2.1 r.2.2)(Y:kS w1 w2 g (o+2) 65):A4 w w2 g o B v {p with rd:=r} out:=by
 obtain⟨A,qs,Z,J⟩:=h.ex;obtain⟨F,hC,hF⟩:=Z.wC;obtain⟨G,D,V⟩:=T;have X:Kept w1 w2 g ν:=⟨Y.os,Y.tape,Y.output,Y.size,λi hi M _=>Y.block i hi M⟩
 have hl:=hC.lt dX;refine⟨⟨A,qs,⟨⟨G,(hC.join Y D).congr (Ti p B v F G r),V⟩,Z.rep.far X Z.xg (λe=>Z.gB e.symm),Z.ou.keep Y.size (λk U=>Y.block k (Z.ou.lt k U) (λe=>Z.vg (by rw[U,e]))),Z.few,Z.ok,Z.gB,Z.vg,Z.vB,Z.nz,Z.xg,Z.xv⟩,J⟩,?_⟩;refine h.kept.trans (v':=v) ⟨Y.os,Y.tape,Y.output,Y.size,λi hi H _ _=>Y.block i hi H,λj hj=>Y.cell j dU,Y.fz⟩ (λ_ e=>.inl e)
theorem A4.rdC(h:A4 w w1 g o B v p out):∃F,pP w1 g (o+2) 65 F/\Cj F p.rd.1 p.rd.2.1 p.rd.2.2:=by
 obtain⟨vl,qs,Z,ho⟩:=h.ex;obtain⟨F,hC,hF⟩:=Z.wC;refine⟨F,(hC.sub 2 65 dX).congr (λj hj=> ?_),hF⟩;unfold wB;rw[ae dU,ae dU,ag dU,show 2+j-2=j by omega]
theorem Pp(up:Bool)(g o B:Nat)(v:dT)(p:jl)(w:dR)(h:pS w g o B v p)(U:iV w)(M:p.out.length<=800000000):
 eT eU 73 #[π (μ ⟨g,o,ν⟩),.bool up] w λe w'=>e=ρ (jb (p.iD up).2)/\ll w w' g o B v (p.iD up).1:=by
 obtain⟨ev,Z⟩:∃ev:Int,(if up=true then(0:Int)else 1)=ev:=⟨_,rfl⟩
 have V:ev=0 \/ev=1:=by rw[<-Z];cases up<;>simp
 have c1:=h.c1;have hl:=h.lt;by_cases hf:(kL p.L ev).2.2=0
 ·have Y:p.iD up=(({p with L:=(kL p.L ev).1,rd:=([],false,false)}:jl).say (kL p.L ev).2.1,0):=by
   unfold jl.iD;rw[Z];simp only;rw[ae (by simpa using hf)]
  rw[Y];have hd:=h.begin.do_ U gO ev;rw[hf]at hd;have T:jb 0=η:=rfl;rw[T]at hd⊢;have hlen:=yO p.L ev;have hz:=SW.1;have hZ:=yN;have HE:Hid _:=Y;clear Y hf h;cases up
  all_goals
   simp only[if_true,if_false,Bool.false_eq_true]at Z;subst Z
   go_in
   go_wp2_with(fail);refine hd.mono ?_;rintro e w1 ⟨rfl,X⟩;obtain⟨F,hC,hF⟩:=X.rdC;obtain⟨k1,k2,k3⟩:=Dh hC;have hs:=(X.read ([],false,false) ⟨LY,k2,Cj.zero⟩ k3).say (by simp only[List.nil_append];omega) M;obtain⟨d1,dl⟩:=X.ptr;have dl2:g<(w1.setCells g (o+2) FI.toList).heap.size:=Nat.lt_of_lt_of_le dl k3.size;clear hd X hC hF k2 k3;go_wp2_with(fail);refine hs.mono ?_;rintro e w3 ⟨rfl,J⟩;clear hs
   go_wp2
   go_ret;exact⟨rfl,J⟩
 ·have Y:p.iD up=(p,(kL p.L ev).2.2):=by
   unfold jl.iD;rw[Z];simp only;rw[ag hf]
  rw[Y];have hd:=ZV ev V B _ p.L _ [] w U (qF.rest h.lk) hf;have ee:jb (kL p.L ev).2.2=.iface 128 (ι κ ((kL p.L ev).2.2:Int)):=by simp only[jb];rw[ae hf]
  simp only;rw[ee];have HP:Hid _:=h;clear Y hf h ee;generalize (kL p.L ev).2.2=f at hd⊢;cases up
  all_goals
   simp only[if_true,if_false,Bool.false_eq_true]at Z;subst Z
   go_in
   go_wp2_with(fail);refine hd.mono ?_;rintro e w1 ⟨rfl,hb⟩;clear hd
   go_wp2
   go_ret;exact⟨rfl,ll.still HP.out hb⟩
end Rt
theorem Tj:(eU.info? 5).map (λi=>(i.zero,i.size,i.bytes))=μ (μ (.int .u8 0),1,1):=gL
def stH(own seq:Int):List UInt8:=[St.u8 own,St.u8 (seq%256),St.u8 (seq/256%256),St.u8 (seq/65536)]
theorem Ws(own seq:Int):(stH own seq).length=4:=rfl
theorem Tk(w:dR)(own seq:Int)(p1:1<=own)(p2:own<=6)(p3:1<=seq)(p4:seq<=1000000):Row (w.alloc (γ #[.int .u8 own,.int .u8 (seq%256),.int .u8 (seq/256%256),.int .u8 (seq/65536)] 5)) 1 (σ (μ ⟨w.heap.size,0,ν⟩) 4 4) 4 (iH [St.u8 own,St.u8 (seq%256),St.u8 (seq/256%256),St.u8 (seq/65536)]):=by
 refine Row.made w 1 _ _ (0,0) 4 4 _ rfl rfl (Nat.le_refl _) dX (.inl rfl) ?_;intro j u Z;simp only[iH,eE,eF,oP own dU dU,oP (seq%256) dU dU,oP (seq/256%256) dU dU,oP (seq/65536) dU dU]at Z;simpa using Z
theorem L9(own seq:Int)(a:Option dQ)(n cap:Nat)(os:List jG)(w:dR)(ho:iU w a n os)(hf:oD own seq os=0):
 eT eU 198 #[.agg #[ι κ own,ι κ seq,σ a n cap]] w λe w'=>e=ρ (τ #[.string ⟨(qC own seq os).toArray⟩,η])/\eh w w':=by
 obtain⟨i0,hi,od,mK,mL⟩:=aY Tj;obtain⟨⟨p1,p2⟩,⟨p3,p4⟩,p5,p6⟩:=jw hf;have m9:=rJ own os 0 p6;have hl:=ho.1;have mb:=gN w (γ #[ι κ own,ι κ seq,σ a n cap] 40);have M:=xE own seq a n cap os _ dU (ho.below mb);have e0:jb 0=η:=rfl;rw[hf,e0]at M;clear e0 p6 hf
 go_in
 go_wp2_with(fail);refine M.mono ?_;rintro e w1 ⟨rfl,y⟩;obtain⟨q0,q1,q2,hz⟩:=Y4 y;have H:=fY mb y;clear y M mb;go_wp2_with(fail);have tC:Row (w1.alloc (γ #[.int .u8 own,.int .u8 (seq%256),.int .u8 (seq/256%256),.int .u8 (seq/65536)] 5)) 1 (σ (μ ⟨w1.heap.size,0,ν⟩) 4 4) 4 (iH [St.u8 own,St.u8 (seq%256),St.u8 (seq/256%256),St.u8 (seq/65536)]):=Tk w1 own seq p1 p2 p3 p4;have xH:eh w (w1.alloc (γ #[.int .u8 own,.int .u8 (seq%256),.int .u8 (seq/256%256),.int .u8 (seq/65536)] 5)):=H.alloc H.size _
 go_loopw [5,31] (λv i wr=>∃(k g cp:Nat) (E:List UInt8),E=stH own seq++KR (os.take k)/\k<=n/\i=ι κ k/\v=σ (μ ⟨g,0,ν⟩) E.length cp/\Row wr 1 v E.length (iH E)/\
  w.heap.size<=g/\eh w wr)
  (λ_ i _=>n-(eV i).toNat)
 case atStart=>exact⟨0,w1.heap.size,4,_,rfl,Nat.zero_le _,rfl,rfl,tC,H.size,xH⟩
 case round=>
  obtain⟨k,g,cp,E,J,hk,rfl,rfl,X,II,Z⟩:=hrel;have Nw:E.length<=19:=by
   have h1:=xB (os.take k);have h2:(os.take k).length<=6:=by simp;omega
   rw[J,az,Ws];omega
  have HE:Hid _:=J;have HL:Hid _:=hl;clear J tC xH hl;have m2:E.length+2<=maxLen:=by unfold maxLen;omega
  have b2:(E.length+2)*1<=140737488355328:=dU;by_cases ka:k<n
  ·have zB:=ho.below Z;rcases zB.2 with h0|⟨b,off,rfl,hc⟩
   ·omega
   have pX:k<os.length:=by rw[HL.out];exact ka
   obtain⟨c1,c2⟩:=hc k pX;obtain⟨⟨A,T⟩,⟨U,D⟩⟩:=m9 os[k] (aK _);have HT:Hid (os.take (k+1)=os.take k++ [os[k]]):=ay pX;generalize os[k] =o at c1 c2 HT A T U D;clear hc zB;have m8:(k:Int)<(n:Int):=dU;have X9:eh w (wr.alloc (γ #[ι κ o.1,ι κ o.2] 123)):=Z.alloc Z.size _;have Y:Row (wr.alloc (γ #[ι κ o.1,ι κ o.2] 123)) 1 (σ (μ ⟨g,0,ν⟩) E.length cp) E.length (iH E):=X.alloc _;go_wp2_with(at_builtin;go_must(refine iB _ rfl (.tmp 35) (.tmp 42) 140 rfl 5 i0 (.int .u8 0) 1 1 underlying140 hi od mK mL rfl dX _ E.length (iH E) rfl (Y.alloc _) _ 2 2 [.int .u8 o.1,.int .u8 o.2] rfl rfl dX ?hcc (lF _ _ _ _) m2 b2 ?_))
   case hcc=>
    have:=oY (wr.alloc (γ #[ι κ o.1,ι κ o.2] 123)) (.int .u8 o.1) (.int .u8 o.2) 5;simpa using this
   intro V cap2 w2 rB rL kI;have uH:μ g=μ V \/(wr.alloc (γ #[ι κ o.1,ι κ o.2] 123)).heap.size+1<=V:=by
    rcases kI with h|h
    ·exact .inl h
    ·exact .inr (by simp;omega)
   have R:=Fe rL uH II X9;have tE:Row w2 1 (σ (μ ⟨V,0,ν⟩) (E.length+2) cap2) (E++ [St.u8 o.1,St.u8 o.2]).length (iH (E++ [St.u8 o.1,St.u8 o.2])):=by
    rw[la,az];simp only[iH,eE,eF,oP o.1 (show 0<=o.1 by omega) (show o.1<=255 by omega),oP o.2 (show 0<=o.2 by omega) (show o.2<=255 by omega)];exact rB
   have HN:Hid (E++ [St.u8 o.1,St.u8 o.2] =stH own seq++KR (os.take (k+1))):=by
    show E++ [St.u8 o.1,St.u8 o.2] =_;rw[HE.out,HT.out,RB,aD]
   have G:Hid ((E++ [St.u8 o.1,St.u8 o.2]).length=E.length+2):=by show(E++ [St.u8 o.1,St.u8 o.2]).length=E.length+2;simp
   clear rB rL kI uH X Z X9 Y
   go_wp2
   go_roundw
   case rel=>exact⟨k+1,V,cap2,_,HN.out,dU,by go_num,by rw[G.out],tE,R.1,R.2⟩
   case measure=>simp[eV];omega
  ·have X8:(convert 140 9 (σ (μ ⟨g,0,ν⟩) E.length cp)).run eU wr=.ok (.string ⟨E.toArray⟩) wr:=Row.back X 140 9 5 underlying140 underlying5 underlying9;have HF:Hid (qC own seq os=E):=by
    show qC own seq os=E;have yv:os.take k=os:=aG (by rw[HL.out];omega);rw[HE.out,yv];rfl
   clear X;go_wp2_with(fail);rw[HF.out]
   go_ret2
   exact⟨rfl,Z⟩
theorem Ds(w:dR)(x y:dT)(t:TypeId):∀(j:Nat) (u:dT),[x,y][j]? =μ u->(w.alloc (γ #[x,y] t)).drew.cell? ((⟨w.heap.size,0,ν⟩:dQ).add j)=μ u:=λj u Z=>oY w x y t j u Z
namespace Rt
variable {B g i j k n o:Nat} {F:Nat->Value} {K:Int->Option PS} {P:Nat->jl} {Q:Exit->Act->World->Prop} {a b c w w':World} {id:Int} {ops:Array Oper} {p:jl} {r r':iE} {v:Value}
theorem pS.rest {w w1:dR} {g o B:Nat} {v:dT} {p:jl} (h:pS w g o B v p)(hb:eh w w1):PtQ w1 g o B v p (λk=>k<w.heap.size) (σ ν 0 0) [] :=by
 have Z:=h.below hb;exact⟨Z.wC,(qF.rest h.lk).below hb,Z.ou,h.few,h.ok,h.gB,h.vg,h.vB,h.nz,h.lt,λk Y=>h.ou.lt k Y⟩
theorem pS.take {w1:dR} (h:pS w g o B v p)(hb:eh w w1)(H:iV w)(code id:Int)(a:Option dQ)(n cap:Nat)(os:List jG)(M:iU w1 a n os)(G:kt a cap)(Y:n<=cap)(A:n<=1000)
 (T:∀j,dV (σ a n cap)=μ j->w.heap.size<=j/\j<w1.heap.size):
 eT eU 185 #[π (μ ⟨B,0,ν⟩),.agg #[ι κ code,ι κ id,σ a n cap]] w1 λe w'=>e=ρ (jb (jA p.L (code,id,os)).2.2)/\A4 w w' g o B v {p with L:=(jA p.L (code,id,os)).1} (jA p.L (code,id,os)).2.1:=by
 have Z:=h.rest hb;have X:uP w1 (λk=>k<w.heap.size) (σ ν 0 0) ⟨code,id,a,n,cap,os⟩:=⟨M,G,Y,A,λk D=>by
  have J:dV (σ a n cap)=μ k:=CG D;obtain⟨h1,U⟩:=T k J;exact⟨dU,by simp[dV],U⟩⟩
 refine(SQ B _ p.L _ [] ⟨code,id,a,n,cap,os⟩ w1 (H.below hb) Z.nz.2.1 (by simp[dV]) Z.rep Z.ok.bd gO X Z.ok.m1 Z.ok.m2).mono ?_;rintro e w' ⟨rfl,y⟩;refine⟨rfl,?_⟩;have V:=A4.went Z rfl (ni.iJ o B v hb h.lt) y (Z.ok.jA _);rw[eF,bF]at V;exact V
theorem JJ(s:ByteArray)(g o B:Nat)(v:dT)(p:jl)(w:dR)(h:pS w g o B v p)(hT:iV w)(hs:s.size<=1000)(hn:p.out.length<=800000000):
 eT eU 133 #[π (μ ⟨g,o,ν⟩),.string s] w λe w'=>e=ρ (τ #[])/\ll w w' g o B v (p.packet s.data.toList):=by
 have hp:=Jo s w hs;have HP:Hid _:=h;clear h
 go_in
 go_wp2_with(fail);refine hp.mono ?_;rintro e w1 ⟨a,n,cap,f,code,id,os,rfl,G,y,T,hb,H,hz⟩;clear hp;by_cases hf:f=0
 ·subst hf;have e0:jb 0=η:=rfl;rw[e0];have pX:os.length<=1000:=by
   have X:iM s.data.toList=(code,id,os,0):=T;unfold iM at X;split at X
   ·simp at X
   ·split at X
    ·rename_i Y
     have h3:l7 (s.data.toList.drop 3)=os:=(dF (dF (dF X).2).2).1;rw[h3]at Y;unfold jJ at Y;split at Y
     ·simp at Y
     ·split at Y
      ·simp at Y
      ·omega
    ·simp at X
  have l9:n<=1000:=by have:=G.1;omega
  have M:p.packet s.data.toList=({p with L:=(jA p.L (code,id,os)).1}:jl).say (jA p.L (code,id,os)).2.1:=by
   unfold jl.packet;rw[T];rfl
  have ba:=gN w1 (γ #[ι κ code,ι κ id,σ a n cap] 37);have D:=fY hb ba;have hA:=λj=>aj w1 #[ι κ code,ι κ id,σ a n cap] 37 (0,0) j;have A:=HP.out.take (jt D) hT code id a n cap os (G.below (jt ba)) hz y l9 (λj hj=>⟨(H j hj).1,Nat.lt_of_lt_of_le (H j hj).2 ba.size⟩);have hlen:=FL p.L (code,id,os);obtain⟨U,V⟩:=fW (w1.alloc (γ #[ι κ code,ι κ id,σ a n cap] 37));obtain⟨Z,J⟩:=fW (w1.heap.size);rw[V]at D A;have d0:U.cell? ⟨Z,0,ν⟩=μ (ι κ code):=by rw[<-V,<-J];exact hA 0
  have ZB:U.cell? ⟨Z,1,ν⟩=μ (ι κ id):=by rw[<-V,<-J];exact hA 1
  have d2:U.cell? ⟨Z,2,ν⟩=μ (σ a n cap):=by rw[<-V,<-J];exact hA 2
  have zl:Z<U.heap.size:=af U _ d0;have d1:=(HP.out.below D).c1;have dl:=(HP.out.below D).lt;have HE:Hid _:=M;have VN:Hid _:=V;have HZ:Hid _:=J;clear M T G H hA V J ba hb;go_wp2_with(fail);rw[VN.out,HZ.out]
  go_region_with(go_at_call 185;refine A.mono ?_;rintro e w3 ⟨rfl,hG⟩)
  all_goals
   have Yg:=hG.say dU hn;clear A hG;go_wp2_with(fail);refine Yg.mono ?_;rintro e w4 ⟨rfl,hW⟩;clear Yg
   go_wp2
   first|go_end0|refine iC rfl rfl ?_
   refine⟨rfl,?_⟩;rw[HE.out];exact hW
 ·have ee:jb f=.iface 128 (ι κ (f:Int)):=by simp only[jb];rw[ae hf]
  rw[ee];have M:p.packet s.data.toList=p:=by
   unfold jl.packet;rw[T];simp only;rw[ae hf]
  have HW:Hid (ll w (w1.alloc (γ #[ι κ code,ι κ id,σ a n cap] 37)) g o B v (p.packet s.data.toList)):=by
   show ll _ _ _ _ _ _ _;rw[M];exact ll.still HP.out (fY hb (gN _ _))
  clear M T G H hf ee
  go_wp2
  first|go_end0|refine iC rfl rfl ?_
  exact⟨rfl,HW.out⟩
theorem xf(T:ByteArray)(c:UInt8)(own seq:Int)(a:Option dQ)(n cap:Nat)(es:List jG)(g o B:Nat)(v:dT)(p:jl)(w:dR)(h:pS w g o B v p)(H:T.data.toList=[c])(V:iU w a n es)(hf:oD own seq es=0)(hn:p.out.length<=800000000):
 eT eU 152 #[π (μ ⟨g,o,ν⟩),.string T,.agg #[ι κ own,ι κ seq,σ a n cap]] w λe w'=>e=ρ (τ #[])/\ll w w' g o B v (p.put c (qC own seq es)):=by
 have U:=gN w (γ #[ι κ own,ι κ seq,σ a n cap] 40);have hA:=λj=>aj w #[ι κ own,ι κ seq,σ a n cap] 40 (0,0) j;have Z:=L9 own seq a n cap es _ (V.below U) hf;have M:=(jw hf).2.2.1;have J:(qC own seq es).length<=100:=by
  have G:∀l:List jG,(KR l).length=2*l.length:=by
   intro l
   induction l with
   |nil=>rfl
   |cons x l ih=>
    have e:KR (x::l)=u8 x.1::u8 x.2::KR l:=rfl;rw[e];simp only[eM,ih];omega
  simp only[qC,eM,G];omega
 obtain⟨L,X⟩:=fW (qC own seq es);rw[X]at Z J;rw[X];have HP:Hid _:=h;clear h X V hf M
 go_in
 go_wp2_with(fail);refine Z.mono ?_;rintro e w1 ⟨rfl,b1⟩;have k1:=fY U b1;have Y:=Cm g o B v p T ⟨L.toArray⟩ c w1 (HP.out.below k1) H (by show L.toArray.size<=1000;simp;omega) dU;have D:(⟨L.toArray⟩:ByteArray).data.toList=L:=gO;rw[D]at Y;clear Z b1;go_wp2_with(fail);refine Y.mono ?_;rintro e w2 ⟨rfl,A⟩;clear Y
 go_wp2
 first|go_end0|refine iC rfl rfl ?_
 exact⟨rfl,ll.trans (ni.iJ o B v k1 HP.out.lt) (λ_ e=>.inl e) A⟩
def qS(l:List yn):List dT:=l.flatMap λt=>[ι κ t.1,ι κ t.2.1,.string ⟨t.2.2.toArray⟩]
structure Zt where
 R:Nat
 g:Nat
 cap:Nat
 B:Nat->Nat
 v:Nat->dT
 Bb:Nat
 fm:FM
 iv:dT
def Zt.mine(z:Zt)(n k:Nat):Prop:=k=z.R \/k=z.g \/(∃i,i<n/\(k=z.B i \/(z.v i).ownBlock=μ k)) \/z.iv.ownBlock=μ k
structure lJ(w:dR)(z:Zt)(r:iE):Prop where
 n1:1<=r.n
 n3:r.n<=3
 Ma:r.n<=z.cap
 id:1<=r.id/\r.id<=6
 nN:jc w z.R #[ι κ r.id,σ (μ ⟨z.g,0,ν⟩) r.n z.cap,π (μ ⟨z.Bb,0,ν⟩),z.iv,ι κ r.drop] 135
 pt:∀i,i<r.n->pS w z.g (i*71) (z.B i) (z.v i) (r.P i)
 ib:Row w 3 z.iv r.jZ.length (qS r.jZ)
 bs:BR w z.Bb z.fm 6 r.K r.O
 bl:z.fm.bs.length=r.n
 no:∀k,z.mine r.n k->z.fm.no k
 nb:¬z.fm.no z.Bb/\¬z.fm.no z.fm.g/\∀b,(b=z.fm.bm \/b∈z.fm.bs)->¬z.fm.no b
 sR:z.R≠z.g/\z.R≠0/\∀i,i<r.n->z.B i≠z.R/\(z.v i).ownBlock≠μ z.R
 sB:∀i j,i<r.n->j<r.n->i≠j->z.B i≠z.B j/\∀k,(z.v i).ownBlock=μ k->(z.v j).ownBlock≠μ k
 sV:∀i j,i<r.n->j<r.n->(z.v i).ownBlock≠μ (z.B j)
 sI:∀k,z.iv.ownBlock=μ k->k≠z.R/\k≠z.g/\∀i,i<r.n->k≠z.B i/\(z.v i).ownBlock≠μ k
 Pq:z.iv.ownBlock≠μ 0/\∀b,(b=z.fm.bm \/b∈z.fm.bs)->b≠0
structure yR(w w':dR)(z:Zt)(n:Nat):Prop where
 os:w'.os=w.os
 tape:w'.tape=w.tape
 output:w'.output=w.output
 size:w.heap.size<=w'.heap.size
 block:∀k,k<w.heap.size->¬z.mine n k->k≠z.fm.bm->k∉z.fm.bs->w'.heap[k]? =w.heap[k]?
structure Zt.like(z z':Zt):Prop where
 R:z'.R=z.R
 g:z'.g=z.g
 cap:z'.cap=z.cap
 B:z'.B=z.B
 Bb:z'.Bb=z.Bb
 bm:z'.fm.bm=z.fm.bm
 fg:z'.fm.g=z.fm.g
 bs:z'.fm.bs=z.fm.bs
structure iw(w w':dR)(z:Zt)(r:iE)(n:Nat):Prop where
 ex:∃z',lJ w' z' r/\z.like z'/\(∀k,z'.mine n k->z.mine n k \/w.heap.size<=k)/\(∀k,z.fm.no k->z'.fm.no k)
 kept:yR w w' z n
def zY(v:Nat->dT)(i:Nat)(x:dT):Nat->dT:=λj=>if j=i then x else v j
theorem pq(v:Nat->dT)(i:Nat)(x:dT):zY v i x i=x:=by simp[zY]
theorem nr(v:Nat->dT)(x:dT)(h:j≠i):zY v i x j=v j:=by simp[zY,h]
theorem jk(P:Nat->jl)(i:Nat)(p:jl):kR P i p i=p:=by simp[kR]
theorem jh(P:Nat->jl)(p:jl)(h:j≠i):kR P i p j=P j:=by simp[kR,h]
theorem lJ.port {z:Zt} (h:lJ w z r)(hi:i<r.n)(hW:ll w w' z.g (i*71) (z.B i) (z.v i) p):iw w w' z (r.iK i p) r.n:=by
 obtain⟨⟨v',hP,hv⟩,X⟩:=hW;have ka:∀k,z.mine r.n k->k<w.heap.size:=λk Z=>h.bs.Pf k (h.no k Z);have Jk:=(h.pt i hi).lt;have G:∀k,k<w.heap.size->v'.ownBlock=μ k->(z.v i).ownBlock=μ k:=λk Z e=>by
  rcases hv k e with T|T
  ·exact T
  ·omega
 have y:z.mine r.n z.g/\z.mine r.n (z.B i)/\∀k,(z.v i).ownBlock=μ k->z.mine r.n k:=⟨.inr (.inl rfl),.inr (.inr (.inl ⟨i,hi,.inl rfl⟩)),λk Z=>.inr (.inr (.inl ⟨i,hi,.inr Z⟩))⟩
 have yS:∀k,k<w.heap.size->¬z.mine r.n k->w'.heap[k]? =w.heap[k]? :=λk Z D=>X.block k Z (λe=>D (by rw[e];exact y.1)) (λe=>D (by rw[e];exact y.2.1)) (λe=>D (y.2.2 k e));have G0:=h.bs.still X.size (λj Y hn=>yS j Y (λe=>hn (h.no j e))) h.nb.1 h.nb.2.1 h.nb.2.2 (λk=>z.fm.no k \/(w.heap.size<=k/\k<w'.heap.size/\v'.ownBlock=μ k)) (λj Y=>by
  rcases Y with e|e
  ·exact .inl e
  ·exact .inr e.1) (λj Y=>by
  rcases Y with e|e
  ·exact Nat.lt_of_lt_of_le (h.bs.Pf j e) X.size
  ·exact e.2.1)
 have ZX:∀b,(b=z.fm.bm \/b∈z.fm.bs)->b<w.heap.size:=h.bs.mlt;have ZY:z.Bb<w.heap.size:=by obtain⟨_,_,hF,_⟩:=h.bs.ex;exact hF.lt
 have ZZ:z.fm.g<w.heap.size:=by obtain⟨_,_,hF,_⟩:=h.bs.ex;exact hF.row.lt _ rfl
 refine⟨⟨{z with v:=zY z.v i v',fm:={z.fm with no:=λk=>z.fm.no k \/(w.heap.size<=k/\k<w'.heap.size/\v'.ownBlock=μ k)}},⟨h.n1,h.n3,h.Ma,h.id,?_,?_,?_,G0,h.bl,?_,?_,⟨h.sR.1,h.sR.2.1,?_⟩,?_,?_,?_,h.Pq⟩,⟨rfl,rfl,rfl,rfl,rfl,rfl,rfl,rfl⟩,?_,λk Z=>.inl Z⟩,⟨X.os,X.tape,X.output,X.size,λk Z D _ _=>yS k Z D⟩⟩
 ·exact h.nN.keep (X.block z.R h.nN.lt h.sR.1 (λe=>(h.sR.2.2 i hi).1 e.symm) (h.sR.2.2 i hi).2)
 ·intro j Y;by_cases e:j=i
  ·subst e;show pS w' z.g (j*71) (z.B j) (zY z.v j v' j) (kR r.P j p j);rw[pq,jk];exact hP
  ·show pS w' z.g (j*71) (z.B j) (zY z.v i v' j) (kR r.P i p j);rw[nr _ _ e,jh _ _ e];have V:=h.pt j Y;obtain⟨F,hC,hF⟩:=V.wC;have hs:=h.sB j i Y hi e;refine⟨⟨F,λx hx=>⟨(X.cell (j*71+x) ?_).trans (hC.cell x hx),(X.fz _).trans (hC.fz x hx)⟩,hF⟩,V.lk.keep (X.block (z.B j) V.lk.lt (λe=>V.gB e.symm) hs.1 (h.sV i j hi Y)),V.ou.keep X.size (λk Z=>X.block k (V.ou.lt k Z) (λe=>V.vg (by rw[Z,e])) (λe=>h.sV j i Y hi (by rw[Z,e])) (hs.2 k Z)),V.few,V.ok,V.gB,V.vg,V.vB,V.nz⟩;rcases Nat.lt_or_gt_of_ne e with h1|h1
   ·exact .inl dU
   ·exact .inr dU
 ·exact h.ib.keep X.size (λk Z=>X.block k (h.ib.lt k Z) (h.sI k Z).2.1 ((h.sI k Z).2.2 i hi).1 ((h.sI k Z).2.2 i hi).2)
 ·intro k Z;rcases Z with e|e|⟨j,Y,e|e⟩|e
  ·exact .inl (h.no k (.inl e))
  ·exact .inl (h.no k (.inr (.inl e)))
  ·exact .inl (h.no k (.inr (.inr (.inl ⟨j,Y,.inl e⟩))))
  ·by_cases U:j=i
   ·subst U;have e':v'.ownBlock=μ k:=by have:=e;simp only[pq]at this;exact this
    rcases hv k e' with T|T
    ·exact .inl (h.no k (.inr (.inr (.inl ⟨j,Y,.inr T⟩))))
    ·exact .inr ⟨T,hP.ou.lt k e',e'⟩
   ·have e':(z.v j).ownBlock=μ k:=by have:=e;simp only[nr _ _ U]at this;exact this
    exact .inl (h.no k (.inr (.inr (.inl ⟨j,Y,.inr e'⟩))))
  ·exact .inl (h.no k (.inr (.inr (.inr e))))
 ·refine⟨λe=> ?_,λe=> ?_,λb hb e=> ?_⟩
  ·rcases e with e|e
   ·exact h.nb.1 e
   ·have h8:w.heap.size<=z.Bb:=e.1;omega
  ·rcases e with e|e
   ·exact h.nb.2.1 e
   ·have h8:w.heap.size<=z.fm.g:=e.1;omega
  ·rcases e with e|e
   ·exact h.nb.2.2 b hb e
   ·have h9:=ZX b hb;omega
 ·intro j Y;refine⟨(h.sR.2.2 j Y).1,?_⟩;by_cases U:j=i
  ·subst U;show(zY z.v j v' j).ownBlock≠_;rw[pq];exact λe=>(h.sR.2.2 j Y).2 (G _ h.nN.lt e)
  ·show(zY z.v i v' j).ownBlock≠_;rw[nr _ _ U];exact(h.sR.2.2 j Y).2
 ·intro a b M hb A;refine⟨(h.sB a b M hb A).1,λk Z=> ?_⟩;show(zY z.v i v' b).ownBlock≠μ k;have J:(zY z.v i v' a).ownBlock=μ k:=Z;by_cases H:a=i
  ·subst H;rw[pq]at J;rw[nr _ _ (λe=>A e.symm)];intro e;have Vg:=(h.pt b hb).ou.lt k e;exact(h.sB a b M hb A).2 k (G k Vg J) e
  ·rw[nr _ _ H]at J;by_cases eb:b=i
   ·subst eb;rw[pq];intro e;have Vg:=(h.pt a M).ou.lt k J;exact(h.sB a b M hb A).2 k J (G k Vg e)
   ·rw[nr _ _ eb];exact(h.sB a b M hb A).2 k J
 ·intro a b M hb;show(zY z.v i v' a).ownBlock≠μ (z.B b);by_cases H:a=i
  ·subst H;rw[pq];exact λe=>h.sV a b M hb (G _ (h.pt b hb).lk.lt e)
  ·rw[nr _ _ H];exact h.sV a b M hb
 ·intro k Z;obtain⟨h1,h2,h3⟩:=h.sI k Z;refine⟨h1,h2,λj Y=>⟨(h3 j Y).1,?_⟩⟩;show(zY z.v i v' j).ownBlock≠μ k;by_cases U:j=i
  ·subst U;rw[pq];exact λe=>(h3 j Y).2 (G k (h.ib.lt k Z) e)
  ·rw[nr _ _ U];exact(h3 j Y).2
 ·intro k Z;rcases Z with e|e|⟨j,Y,e|e⟩|e
  ·exact .inl (.inl e)
  ·exact .inl (.inr (.inl e))
  ·exact .inl (.inr (.inr (.inl ⟨j,Y,.inl e⟩)))
  ·by_cases U:j=i
   ·subst U;have e':v'.ownBlock=μ k:=by have:=e;simp only[pq]at this;exact this
    rcases hv k e' with T|T
    ·exact .inl (.inr (.inr (.inl ⟨j,Y,.inr T⟩)))
    ·exact .inr T
   ·have e':(z.v j).ownBlock=μ k:=by have:=e;simp only[nr _ _ U]at this;exact this
    exact .inl (.inr (.inr (.inl ⟨j,Y,.inr e'⟩)))
  ·exact .inl (.inr (.inr (.inr e)))
theorem yR.refl(w:dR)(z:Zt)(n:Nat):yR w w z n:=⟨rfl,rfl,rfl,Nat.le_refl _,λ_ _ _ _ _=>rfl⟩
theorem yR.iJ(z:Zt)(n:Nat)(h:eh w w'):yR w w' z n:=⟨h.os,h.tape,h.output,h.size,λk Z _ _ _=>h.block k Z⟩
theorem Zt.rC(z:Zt):z.like z:=⟨rfl,rfl,rfl,rfl,rfl,rfl,rfl,rfl⟩
theorem Zt.Dt {a b c:Zt} (h:a.like b)(k:b.like c):a.like c:=⟨k.R.trans h.R,k.g.trans h.g,k.cap.trans h.cap,k.B.trans h.B,k.Bb.trans h.Bb,k.bm.trans h.bm,k.fg.trans h.fg,k.bs.trans h.bs⟩
theorem lJ.zZ {z:Zt} (h:lJ w z r):∀k,z.mine r.n k->k<w.heap.size:=λk Z=>h.bs.Pf k (h.no k Z)
theorem lJ.below {w w':dR} {z:Zt} {r:iE} (h:lJ w z r)(hb:eh w w'):lJ w' z r:=
 ⟨h.n1,h.n3,h.Ma,h.id,h.nN.keep (hb.block _ h.nN.lt),λi hi=>(h.pt i hi).below hb,h.ib.below hb,h.bs.below hb,h.bl,h.no,h.nb,h.sR,h.sB,h.sV,h.sI,h.Pq⟩
theorem iw.still {z:Zt} (h:lJ w z r)(hb:eh w w'):iw w w' z r r.n:=
 ⟨⟨z,h.below hb,z.rC,λ_ e=>.inl e,λ_ e=>e⟩,yR.iJ z r.n hb⟩
theorem iw.refl {w:dR} {z:Zt} {r:iE} (h:lJ w z r):iw w w z r r.n:=⟨⟨z,h,z.rC,λ_ e=>.inl e,λ_ e=>e⟩,yR.refl w z r.n⟩
theorem iw.step {z:Zt} (h:iw a b z r n)(k:∀z',lJ b z' r->z.like z'->iw b c z' r' n):iw a c z r' n:=by
 obtain⟨⟨z',hR,hl,M,A⟩,Z⟩:=h;obtain⟨⟨J,H,y,D,G⟩,Y⟩:=k z' hR hl;refine⟨⟨J,H,Zt.Dt hl y,λx hx=> ?_,λx hx=>G x (A x hx)⟩,⟨Y.os.trans Z.os,Y.tape.trans Z.tape,Y.output.trans Z.output,Nat.le_trans Z.size Y.size,λx hx U X T=>(Y.block x (Nat.lt_of_lt_of_le hx Z.size) (λe=> ?_) (by rw[hl.bm];exact X) (by rw[hl.bs];exact T)).trans (Z.block x hx U X T)⟩⟩
 ·rcases D x hx with e|e
  ·exact M x e
  ·exact .inr (Nat.le_trans Z.size e)
 ·rcases M x e with V|V
  ·exact U V
  ·omega
theorem iw.below {z:Zt} (h:iw a b z r n)(Y:r.n=n)(hb:eh b c):iw a c z r n:=by
 subst Y;exact h.step λz' Z _=>iw.still Z hb
theorem iw.first {z:Zt} (G:lJ a z r)(D:r.n=n)(hb:eh a b)(k:lJ b z r->iw b c z r' n):iw a c z r' n:=by
 subst D;obtain⟨⟨X,V,H,J,U⟩,Z⟩:=k (G.below hb);exact⟨⟨X,V,H,λx hx=>(J x hx).imp_right (λe=>Nat.le_trans hb.size e),U⟩,⟨Z.os.trans hb.os,Z.tape.trans hb.tape,Z.output.trans hb.output,Nat.le_trans hb.size Z.size,λx hx T Y M=>(Z.block x (Nat.lt_of_lt_of_le hx hb.size) T Y M).trans (hb.block x hx)⟩⟩
theorem iw.tab {z:Zt} {r0:iE} (h:iw a b z r n)(Z:lJ a z r0)(U:r0.n=n)(X:iV a):iV b:=λe s V hs=>by
 subst U;refine(ai (a:=⟨0,e*10+s,ν⟩) (h.kept.block 0 X.lt (λY=> ?_) (λY=> ?_) (λY=> ?_))).trans (X e s V hs)
 ·rcases Y with e|e|⟨i,hi,e|e⟩|e
  ·exact Z.sR.2.1 e.symm
  ·exact(Z.pt 0 Z.n1).nz.1 e.symm
  ·exact(Z.pt i hi).nz.2.1 e.symm
  ·exact(Z.pt i hi).nz.2.2 e
  ·exact Z.Pq.1 e
 ·exact Z.Pq.2 0 (.inl Y) rfl
 ·exact Z.Pq.2 0 (.inr Y) rfl
theorem lJ.base {z:Zt} {K':Int->Option PS} {O':Nat->Int->Option PS} (h:lJ w z r)(U:BR w' z.Bb z.fm k K' O')(Y:jr w w' z.fm):iw w w' z {r with K:=K',O:=O'} r.n:=by
 have hb:∀x,z.mine r.n x->w'.heap[x]? =w.heap[x]? :=λx hx=>Y.block x (h.zZ x hx) (λe=>h.nb.2.2 x (.inl e) (h.no x hx)) (λe=>h.nb.2.2 x (.inr e) (h.no x hx));refine⟨⟨z,⟨h.n1,h.n3,h.Ma,h.id,h.nN.keep (hb _ (.inl rfl)),λi hi=> ?_,h.ib.keep Y.size (λx hx=>hb x (.inr (.inr (.inr hx)))),U.six,h.bl,h.no,h.nb,h.sR,h.sB,h.sV,h.sI,h.Pq⟩,z.rC,λ_ e=>.inl e,λ_ e=>e⟩,⟨Y.os,Y.tape,Y.output,Y.size,λx hx _ X V=>Y.block x hx X V⟩⟩;have Z:=h.pt i hi;obtain⟨F,hC,hF⟩:=Z.wC;exact⟨⟨F,hC.keep (hb _ (.inr (.inl rfl))),hF⟩,Z.lk.keep (hb _ (.inr (.inr (.inl ⟨i,hi,.inl rfl⟩)))),Z.ou.keep Y.size (λx hx=>hb x (.inr (.inr (.inl ⟨i,hi,.inr hx⟩)))),Z.few,Z.ok,Z.gB,Z.vg,Z.vB,Z.nz⟩
theorem Z1(p:jl)(B:Nat)(v:dT)(F:Nat->dT)(q:kN):∀j,j<71->r9 (r9 (r9 (wB p B v F) 67 (.int .i64 q.who)) 68 (.bool q.both)) 69 (.int .i64 q.left) j=wB {p with pe:=q} B v F j:=by
 intro j hj;by_cases Y:j=69
 ·subst Y;simp[r9,wB]
 by_cases Z:j=68
 ·subst Z;simp[r9,wB]
 by_cases X:j=67
 ·subst X;simp[r9,wB]
 rw[jz _ _ Y,jz _ _ Z,jz _ _ X];simp only[wB,Y,Z,X,if_false]
theorem pS.peer(h:pS w g o B v p)(q:kN):
 ll w (((w.setCell ⟨g,o+67,ν⟩ (.int .i64 q.who)).setCell ⟨g,o+68,ν⟩ (.bool q.both)).setCell ⟨g,o+69,ν⟩ (.int .i64 q.left)) g o B v {p with pe:=q}:=by
 obtain⟨F,hC,hF⟩:=h.wC;have Z:kS w (((w.setCell ⟨g,o+67,ν⟩ (.int .i64 q.who)).setCell ⟨g,o+68,ν⟩ (.bool q.both)).setCell ⟨g,o+69,ν⟩ (.int .i64 q.left)) g o 71:=(((kS.refl w g o 71).set (o+67) dU dU _).set (o+68) dU dU _).set (o+69) dU dU _;have hb:∀x,x<w.heap.size->x≠g->_:=Z.block;refine⟨⟨v,⟨⟨F,(((hC.set 67 dX _).set 68 dX _).set 69 dX _).congr (Z1 p B v F q),hF⟩,h.lk.keep (hb B h.lk.lt (λe=>h.gB e.symm)),h.ou.keep Z.size (λx hx=>hb x (h.ou.lt x hx) (λe=>h.vg (by rw[hx,e]))),h.few,h.ok,h.gB,h.vg,h.vB,h.nz⟩,λ_ e=>.inl e⟩,⟨Z.os,Z.tape,Z.output,Z.size,λi hi Y _ _=>Z.block i hi Y,Z.cell,Z.fz⟩⟩
theorem lJ.own {z:Zt} (h:lJ w z r)(V:dT)(jZ:List yn)(d:Int)(hs:w.heap.size<=w'.heap.size)(Ff:w'.os=w.os)(NI:w'.tape=w.tape)(KY:w'.output=w.output)(Z:∀k,k<w.heap.size->k≠z.R->z.iv.ownBlock≠μ k->w'.heap[k]? =w.heap[k]?)
 (nS:jc w' z.R #[ι κ r.id,σ (μ ⟨z.g,0,ν⟩) r.n z.cap,π (μ ⟨z.Bb,0,ν⟩),V,ι κ d] 135) (G:Row w' 3 V jZ.length (qS jZ)) (U:∀k,V.ownBlock=μ k->z.iv.ownBlock=μ k \/w.heap.size<=k):iw w w' z {r with jZ:=jZ,drop:=d} r.n:=by
 have J:∀k,z.iv.ownBlock=μ k->z.mine r.n k:=λk Z=>.inr (.inr (.inr Z));have D:∀k,k<w.heap.size->¬z.mine r.n k->w'.heap[k]? =w.heap[k]? :=λk H M=>Z k H (λe=>M (.inl e)) (λe=>M (J k e));have G0:=h.bs.still hs (λj T hn=>D j T (λe=>hn (h.no j e))) h.nb.1 h.nb.2.1 h.nb.2.2 (λk=>z.fm.no k \/(w.heap.size<=k/\k<w'.heap.size/\V.ownBlock=μ k)) (λj T=>by
  rcases T with e|e
  ·exact .inl e
  ·exact .inr e.1) (λj T=>by
  rcases T with e|e
  ·exact Nat.lt_of_lt_of_le (h.bs.Pf j e) hs
  ·exact e.2.1)
 have ZX:∀b,(b=z.fm.bm \/b∈z.fm.bs)->b<w.heap.size:=h.bs.mlt;have ZY:z.Bb<w.heap.size:=by obtain⟨_,_,hF,_⟩:=h.bs.ex;exact hF.lt
 have ZZ:z.fm.g<w.heap.size:=by obtain⟨_,_,hF,_⟩:=h.bs.ex;exact hF.row.lt _ rfl
 have hI':∀k,k<w.heap.size->V.ownBlock=μ k->z.iv.ownBlock=μ k:=λk Z e=>by
  rcases U k e with X|X
  ·exact X
  ·omega
 refine⟨⟨{z with iv:=V,fm:={z.fm with no:=λk=>z.fm.no k \/(w.heap.size<=k/\k<w'.heap.size/\V.ownBlock=μ k)}},⟨h.n1,h.n3,h.Ma,h.id,nS,λi hi=> ?_,G,G0,h.bl,?_,?_,h.sR,h.sB,h.sV,?_,?_⟩,⟨rfl,rfl,rfl,rfl,rfl,rfl,rfl,rfl⟩,?_,λk Z=>.inl Z⟩,⟨Ff,NI,KY,hs,λk H M _ _=>D k H M⟩⟩
 ·have Y:=h.pt i hi;obtain⟨F,hC,hF⟩:=Y.wC;have A:=h.sR.2.2 i hi;refine⟨⟨F,hC.keep (Z _ Y.lt (λe=>h.sR.1 e.symm) (λe=>(h.sI _ e).2.1 rfl)),hF⟩,Y.lk.keep (Z _ Y.lk.lt A.1 (λe=>((h.sI _ e).2.2 i hi).1 rfl)),Y.ou.keep hs (λx hx=>Z x (Y.ou.lt x hx) (λe=>A.2 (by rw[hx,e])) (λe=>((h.sI x e).2.2 i hi).2 hx)),Y.few,Y.ok,Y.gB,Y.vg,Y.vB,Y.nz⟩
 ·intro k Z;rcases Z with e|e|e|e
  ·exact .inl (h.no k (.inl e))
  ·exact .inl (h.no k (.inr (.inl e)))
  ·exact .inl (h.no k (.inr (.inr (.inl e))))
  ·rcases U k e with X|X
   ·exact .inl (h.no k (J k X))
   ·exact .inr ⟨X,G.lt k e,e⟩
 ·refine⟨λe=> ?_,λe=> ?_,λb hb e=> ?_⟩
  ·rcases e with e|e
   ·exact h.nb.1 e
   ·have y:w.heap.size<=z.Bb:=e.1;omega
  ·rcases e with e|e
   ·exact h.nb.2.1 e
   ·have y:w.heap.size<=z.fm.g:=e.1;omega
  ·rcases e with e|e
   ·exact h.nb.2.2 b hb e
   ·have h9:=ZX b hb;omega
 ·intro k Z;rcases U k Z with X|X
  ·exact h.sI k X
  ·refine⟨λe=> ?_,λe=> ?_,λi hi=>⟨λe=> ?_,λe=> ?_⟩⟩
   ·have e':k=z.R:=e;have:=h.nN.lt;omega
   ·have e':k=z.g:=e;have:=(h.pt 0 h.n1).lt;omega
   ·have e':k=z.B i:=e;have:=(h.pt i hi).lk.lt;omega
   ·have:=(h.pt i hi).ou.lt k e;omega
 ·refine⟨λe=> ?_,h.Pq.2⟩;rcases U 0 e with X|X
  ·exact h.Pq.1 X
  ·have:=h.nN.lt;omega
 ·intro k Z;rcases Z with e|e|e|e
  ·exact .inl (.inl e)
  ·exact .inl (.inr (.inl e))
  ·exact .inl (.inr (.inr (.inl e)))
  ·exact(U k e).imp_left (J k)
theorem lJ.c0 {z:Zt} (h:lJ w z r):w.cell? ⟨z.R,0,ν⟩=μ (ι κ r.id):=h.nN.cell 0
theorem lJ.c1 {z:Zt} (h:lJ w z r):w.cell? ⟨z.R,1,ν⟩=μ (σ (μ ⟨z.g,0,ν⟩) r.n z.cap):=h.nN.cell 1
theorem lJ.c2 {z:Zt} (h:lJ w z r):w.cell? ⟨z.R,2,ν⟩=μ (π (μ ⟨z.Bb,0,ν⟩)):=h.nN.cell 2
theorem lJ.c3 {z:Zt} (h:lJ w z r):w.cell? ⟨z.R,3,ν⟩=μ z.iv:=h.nN.cell 3
theorem lJ.c4 {z:Zt} (h:lJ w z r):w.cell? ⟨z.R,4,ν⟩=μ (ι κ r.drop):=h.nN.cell 4
theorem lJ.lt {w:dR} {z:Zt} {r:iE} (h:lJ w z r):z.R<w.heap.size:=h.nN.lt
theorem lJ.FQ {z:Zt} (h:lJ w z r):z.g<w.heap.size:=(h.pt 0 h.n1).lt
def hasB(i:Int)(n:Nat):Bool:=decide (0<=i)&&decide (i<(n:Int))
theorem tJ(h:i<n):hasB (i:Int) n=true:=by simp[hasB];omega
theorem Mc(i:Int)(n:Nat):hasB i n=false \/ ∃k:Nat,k<n/\i=(k:Int):=by
 by_cases Z:0<=i
 ·by_cases Y:i<(n:Int)
  ·exact .inr ⟨i.toNat,dU,dU⟩
  ·exact .inl (by simp[hasB,Y])
 ·exact .inl (by simp[hasB,Z])
theorem vF(z:Zt)(r:iE)(i:Int)(w:dR)(h:lJ w z r):
 eT eU 72 #[π (μ ⟨z.R,0,ν⟩),ι κ i] w λe w'=>e=ρ (.bool (hasB i r.n))/\w=w':=by
 have hl:=h.lt;have c1:=h.c1;unfold hasB;by_cases Z:0<=i
 ·by_cases Y:i<(r.n:Int)
  ·have hv:(decide (0<=i)&&decide (i<(r.n:Int)))=true:=by simp[Z,Y]
   rw[hv];clear hv h
   go_in
   go_wp2
   go_ret;exact⟨by first|rfl|(simp;omega),rfl⟩
  ·have hv:(decide (0<=i)&&decide (i<(r.n:Int)))=false:=by simp[Y]
   rw[hv];clear hv h
   go_in
   go_wp2
   go_ret;exact⟨by first|rfl|(simp;omega),rfl⟩
 ·have hv:(decide (0<=i)&&decide (i<(r.n:Int)))=false:=by simp[Z]
  rw[hv];clear hv h
  go_in
  go_wp2
  go_ret;exact⟨by first|rfl|(simp;omega),rfl⟩
theorem Tm(z:Zt)(r:iE)(i:Nat)(w:dR)(h:lJ w z r)(hi:i<r.n):
 eT eU 60 #[π (μ ⟨z.R,0,ν⟩),ι κ (i:Int)] w λe w'=>e=ρ (τ #[ι κ (r.P i).L.st,η])/\w=w':=by
 have hh:=vF z r i w h;rw[tJ hi]at hh;have hl:=h.lt;have c1:=h.c1;have g1:=(h.pt i hi).c1;have gl:=h.FQ;have hs:=zV (z.B i) _ (r.P i).L _ [] w (qF.rest (h.pt i hi).lk);have kB:(i:Int)<(r.n:Int):=dU;have KU:(0:Int)<=(i:Int):=dU;clear h
 go_in
 go_wp2_with(fail);refine hh.mono ?_;rintro e w1 ⟨rfl,rfl⟩;clear hh;go_wp2_with(fail);refine hs.mono ?_;rintro e w1 ⟨rfl,rfl⟩;clear hs
 go_wp2
 go_ret2
 exact⟨rfl,rfl⟩
theorem Tn(z:Zt)(r:iE)(i:Nat)(w:dR)(h:lJ w z r)(hi:i<r.n):
 eT eU 61 #[π (μ ⟨z.R,0,ν⟩),.int .i64 (i:Int)] w λe w'=>e=ρ (τ #[.agg #[.int .i64 (r.P i).pe.who,.bool (r.P i).pe.both,.int .i64 (r.P i).pe.left],η])/\eh w w':=by
 have hb:=gN w (γ #[ι κ 0,.bool false,ι κ 0] 116);have Z:=gN w (γ #[.int .i64 (r.P i).pe.who,.bool (r.P i).pe.both,.int .i64 (r.P i).pe.left] 116);have hh:=vF z r i _ (h.below hb);rw[tJ hi]at hh;have hz:=yF;have hl:=h.lt;have c1:=h.c1;have g1:=(h.pt i hi).c67;have g2:=(h.pt i hi).Wo;have g3:=(h.pt i hi).c69;have gl:=h.FQ;have kB:(i:Int)<(r.n:Int):=dU;have KU:(0:Int)<=(i:Int):=dU;clear h
 go_in
 go_wp2_with(fail);refine hh.mono ?_;rintro e w1 ⟨rfl,rfl⟩;clear hh;go_wp2_with(fail);refine aE (v:=τ #[.agg #[.int .i64 (r.P i).pe.who,.bool (r.P i).pe.both,.int .i64 (r.P i).pe.left],η]) (by simp[results,results61,go_sem]) rfl ?_;exact⟨rfl,Z⟩
theorem JK(z:Zt)(r:iE)(w:dR)(h:lJ w z r):
 eT eU 50 #[π (μ ⟨z.R,0,ν⟩)] w λe w'=>∃a n cap S E,e=ρ (σ a n cap)/\qQ w' a n S E/\oH r.K n S E/\n<=6/\Pk w a n cap S/\eh w w':=by
 have hl:=h.lt;have c1:=h.c2;have hs:=A3 z.Bb z.fm 6 r.K r.O w h.bs;clear h
 go_in
 go_wp2_with(fail);refine hs.mono ?_;rintro e w1 ⟨a,n,cap,S,E,rfl,X,Z,U,V,Y⟩;clear hs;have H:Hid _:=fQ X (fQ Z (fQ U (fQ V Y)));clear X Z U V Y
 go_wp2
 go_ret
 first|exact⟨a,n,cap,S,E,rfl,H.out⟩|exact⟨a,n,cap,⟨S,E,rfl,H.out⟩⟩
structure nQ(id:Int)(q:kN):Prop where
 who:0<=q.who/\q.who<=6
 me:q.who≠id
 both:q.both=true->1<=q.who
 left:0<=q.left/\q.left<=4
def Wt(K:Int->Option PS):Prop:=∀x,(K x).isSome=true->1<=x/\x<=6
theorem Wt.sN(h:Wt K) {k:Int} (hk:1<=k/\k<=6)(q:PS):Wt (vD K k q):=λx hx=>by
 unfold vD at hx;split at hx
 ·omega
 ·exact h x hx
structure kU(r:iE):Prop where
 id:1<=r.id/\r.id<=6
 m:∀i,i<r.n->1<=(r.P i).m/\(r.P i).m<=20
 pe:∀i,i<r.n->nQ r.id (r.P i).pe
 own:∃q,r.K r.id=μ q/\oD r.id q.1 q.2=0
 Pr:Wt r.K
theorem nQ.nobody {id:Int} (h:1<=id):nQ id Rt.nobody:=⟨⟨dX,dX⟩,λe=>(by have e2:(0:Int)=id:=e;omega),λe=>absurd e dX,⟨dX,dX⟩⟩
theorem nQ.tick {q:kN} (hi:1<=id)(h:nQ id q):nQ id (iA q):=by
 unfold iA;split
 ·exact nQ.nobody hi
 ·exact⟨h.who,h.me,h.both,by have:=h.left;simp;omega⟩
theorem nQ.Wu {f s:Int} (hi:1<=id)(hf:1<=f/\f<=6):nQ id (iY id f s):=by
 unfold iY;split
 ·exact nQ.nobody hi
 ·rename_i h
  exact⟨by simp;omega,by simpa using h,λ_=>by simp;omega,gO⟩
def Du(P:Nat->jl)(n:Int)(k:Nat):Prop:=(P k).pe.both=true/\(P k).pe.who=n/\(match jX P n k with|none=>true|some b=>decide ((P k).m<(P b).m))=true
instance(P:Nat->jl)(n:Int)(k:Nat):Decidable (Du P n k):=by unfold Du;infer_instance
theorem z8 {n:Int} (h:Du P n k):jX P n (k+1)=μ k:=by
 unfold jX;exact ag h
theorem yT {n:Int} (h:¬Du P n k):jX P n (k+1)=jX P n k:=by
 have:jX P n (k+1)=if Du P n k then μ k else jX P n k:=by
  rw[jX];by_cases hc:Du P n k
  ·rw[ag hc];exact ag hc
  ·rw[ae hc];exact ae hc
 rw[this,ae h]
theorem qe {P:Nat->jl} {n:Int}:∀ {k b:Nat},jX P n k=μ b->b<k/\(P b).pe.both=true/\(P b).pe.who=n
 |0,b,h=>by simp[jX]at h
 |k+1,b,h=>by
  by_cases hc:Du P n k
  ·rw[z8 hc]at h;have:=Option.some.inj h;subst this;exact⟨dU,hc.1,hc.2.1⟩
  ·rw[yT hc]at h;have:=qe h;exact⟨dU,this.2⟩
def og(r:iE)(j n:Nat):List jG:=(List.range' j n).filterMap λ(j:Nat)=>(jX r.P ((j:Int)+1) r.n).map λb=>((j:Int)+1,(r.P b).m)
theorem A5(r:iE):jC r=og r 0 6:=by unfold jC og;rw[cT]
theorem rm {r:iE} (h:kU r):∀(n j:Nat) (Y:Int),Y<=j->j+n<=6->qB r.id Y (og r j n)=0/\(og r j n).length<=n
 |0,j,Y,_,_=>by simp[og,qB]
 |n+1,j,Y,h1,h2=>by
  have ih:=rm h n (j+1) ((j:Int)+1) dU dU;have ih2:=rm h n (j+1) Y dU dU;have e:og r j (n+1)=(match jX r.P ((j:Int)+1) r.n with|none=>og r (j+1) n|some b=>((j:Int)+1,(r.P b).m)::og r (j+1) n):=by
   unfold og;rw[dv,bh];cases jX r.P ((j:Int)+1) r.n<;>simp
  cases hb:jX r.P ((j:Int)+1) r.n with
  |none=>
   rw[hb]at e;simp only at e;rw[e];exact⟨ih2.1,dU⟩
  |some b=>
   rw[hb]at e;simp only at e;rw[e];obtain⟨Z,Tp,U⟩:=qe hb;have hm:=h.m b Z;have X:=h.pe b Z;have V:=X.me;rw[U]at V;refine⟨?_,by simp;omega⟩;unfold qB;rw[ae (by simp only;omega)];simp only
   first
    |exact ih.1
    |(rw[ae dU];exact ih.1)
    |(rw[ae dU,ae dU];exact ih.1)
theorem Dv(h:kU r) {seq:Int} (hs:1<=seq/\seq<=1000000):oD r.id seq (jC r)=0:=by
 have Z:=rm h 6 0 0 dU dU;rw[<-A5]at Z;have qd:=h.id;unfold oD;rw[ae dU,ae dU];exact Z.1
theorem kU.iK {r:iE} (h:kU r)(i:Nat)(p:jl)(X:p.m=(r.P i).m)(Y:i<r.n->nQ r.id p.pe):kU (r.iK i p):=by
 refine⟨h.id,λj Z=> ?_,λj Z=> ?_,h.own,h.Pr⟩
 ·show 1<=(kR r.P i p j).m/\(kR r.P i p j).m<=20;by_cases e:j=i
  ·subst e;simp only[kR,if_true];rw[X];exact h.m j Z
  ·simp only[kR,if_neg e];exact h.m j Z
 ·show nQ r.id (kR r.P i p j).pe;by_cases e:j=i
  ·subst e;simp only[kR,if_true];exact Y Z
  ·simp only[kR,if_neg e];exact h.pe j Z
theorem kU.behind {r:iE} (h:kU r) {seq:Int} (hs:0<=seq):kU (r.behind seq):=by
 unfold iE.behind;split
 ·refine⟨h.id,h.m,h.pe,⟨(seq+1,jC r),by simp[iE.Dq,vD],Dv h dU⟩,h.Pr.sN h.id _⟩
 ·exact h
theorem kU.seq(h:kU r):1<=zX r.K r.id/\zX r.K r.id<=1000000:=by
 obtain⟨q,Z,hs⟩:=h.own;have:=(jw hs).2.1;unfold zX;rw[Z];exact this
theorem kU.change {r:iE} (h:kU r):kU r.change:=by
 unfold iE.change;split
 ·exact h
 ·exact h.behind (by have:=h.seq;omega)
theorem kU.xR(h:kU r)(Z:Nat->Int->Option PS):kU {r with O:=Z}:=⟨h.id,h.m,h.pe,h.own,h.Pr⟩
theorem kU.meet {r:iE} (h:kU r)(i:Nat) {q:kN} (Y:nQ r.id q):kU (r.meet i q):=by
 have Z:kU (r.iK i {r.P i with pe:=q}):=h.iK i _ rfl (λ_=>Y);unfold iE.meet;simp only;split
 ·exact Z
 ·split
  ·exact(Z.xR _).change.xR _
  ·exact(Z.xR _).change
def rowOf(m:Nat)(F:Nat->dT):Array dT:=(Array.range m).map F
theorem lU(m:Nat)(F:Nat->dT):(rowOf m F).size=m:=by simp[rowOf]
theorem rO(m:Nat)(F:Nat->dT)(j:Nat)(h:j<m):(rowOf m F)[j]? =μ (F j):=by simp[rowOf,h]
section
variable {P:Program}
theorem pP.loadAt {w:dR} {g o m:Nat} {F:Nat->dT} (h:pP w g o m F)(t:TypeId)(d:TypeDesc)(U:P.underlying t=some d)(hd:(match d with| .struct _| .array _ _=>true|_=>false)=true)(hi:(P.info? t).map (·.size)=some m):
 (fH t (π (μ ⟨g,o,ν⟩))).run P w=.ok (.agg (rowOf m F)) w:=by
 have hl:(loadCells ⟨g,o,ν⟩ (rowOf m F).toList.length).run P w=.ok (rowOf m F).toList.toArray w:=
  run_loadCells_list (P:=P) w ⟨g,o,ν⟩ (rowOf m F).toList (λj v hv=>by
   have V:(⟨g,o,ν⟩:dQ).add j=⟨g,o+j,ν⟩:=by unfold Addr.add;split<;>simp_all
   have X:j<m:=by
    have:=(aI.1 hv).1;simpa[rowOf]using this
   have T:(rowOf m F).toList[j]? =μ (F j):=by simpa using rO m F j X
   rw[V,h.cell j X];exact T.symm.trans hv)
 cases Y:P.info? t with
 |none=>simp[Y]at hi
 |some i=>
  have hs:i.size=m:=by simpa[Y]using hi
  have Z:(isAgg t).run P w=.ok true w:=by
   unfold isAgg;rw[fJ,run_underlying U w];cases d<;>simp_all
  simp only[Array.length_toList,Array.toArray_toList,lU]at hl;simp[fH,Instr.sureAddr,loadVar,fJ,Z,sizeOf,typeInfo,Y,hs,hl]
theorem BQ(w:dR) {rest:List Oper} {o:Oper} {a:Act} (V:o.guard=ν)(x:Operand)(t:TypeId)(Y:o.op=.load t x)
 (g off m:Nat) (F:Nat->dT) (d:TypeDesc) (hx:a.eval x=.pointer (some ⟨g,off,none⟩)) (hb:pP w g off m F) (U:P.underlying t=some d) (hd:(match d with| .struct _| .array _ _=>true|_=>false)=true) (hi:(P.info? t).map (·.size)=some m)
 (h:wpList P ops Q rest (a.put o.dst (.agg (rowOf m F))) w):wpList P ops Q (o::rest) a w:=by
 refine wpList_plain V λK X=> ?_;have Z:=pP.loadAt hb t d U hd hi;unfold Oper.wp execOp;simp only[Y,fJ,Sem.run_pure,Result.andThen_ok,hx,Z];exact X _ _ h
theorem nO(w:dR) {rest:List Oper} {o:Oper} {a:Act} (X:o.guard=ν)(x y:Operand)(t:TypeId)(Z:o.op=.store t x y)(hd:o.dst=ν)
 (B:Nat) (C D:Array dT) (hx:a.eval x=π (μ ⟨B,0,ν⟩)) (hy:a.eval y=.agg D) (hb:jc w B C t) (hs:C.size=D.size) (hi:(P.info? t).map (·.size)=μ D.size) (Y:D.all (·.oneCell')=true)
 (h:wpList P ops Q rest a (w.setRow B D)):wpList P ops Q (o::rest) a w:=by
 refine lP w X x y t Z B C D hx hy hb hs hi Y ?_;rw[hd];exact h
end
def Z4:Nat->dT:=λj=>if j=0 then ι κ 0 else if j=1 then π ν else if j<67 then LY (j-2)else if j=67 then ι κ 0 else if j=68 then .bool false else if j=69 then ι κ 0 else σ ν 0 0
theorem Tr:(eU.info? 142).map (λi=>(i.zero,i.size))=μ (μ (.agg (rowOf 71 Z4)),71):=gL
theorem Md(w:dR):(zeroValue 142).run eU w=.ok (.agg (rowOf 71 Z4)) w:=(cD Tr).1 w
theorem Me:(eU.info? 142).map (·.size)=μ 71:=(cD Tr).2
theorem Cj.one {l:List UInt8} {e d:Bool} (h:Cj F l e d)(j:Nat)(hj:j<65):(F j).oneCell'=true:=by
 by_cases Z:j<62
 ·obtain⟨x,hx⟩:=h.live j Z;rw[hx];rfl
 ·have:j=62 \/j=63 \/j=64:=dU;rcases this with rfl|rfl|rfl
  ·rw[h.many];rfl
  ·rw[h.esc];rfl
  ·rw[h.bad];rfl
theorem Hm(h:Cj F p.rd.1 p.rd.2.1 p.rd.2.2)(hv:v.oneCell'=true):(rowOf 71 (wB p B v F)).all (·.oneCell')=true:=by
 rw[Array.all_eq_true];intro j M;rw[lU]at M;have e:(rowOf 71 (wB p B v F))[j] =wB p B v F j:=by simp[rowOf]
 rw[e];unfold wB;by_cases Y:j=0
 ·simp[Y];rfl
 by_cases Z:j=1
 ·simp[Z];rfl
 by_cases T:j<67
 ·simp only[Y,Z,T,if_false,if_true];exact Cj.one h (j-2) dU
 by_cases U:j=67
 ·simp[U];rfl
 by_cases X:j=68
 ·simp[X];rfl
 by_cases V:j=69
 ·simp[V];rfl
 ·simp only[Y,Z,T,U,X,V,if_false];exact hv
theorem Row.one {xs:List dT} (h:Row w k v n xs):v.oneCell'=true:=by
 rcases h.2 with⟨e,_⟩|⟨g,c,e,_⟩
 ·rw[e];rfl
 ·rw[e];rfl
def FR:Option Nat->Int
 |none=>0
 |some b=>(b:Int)
theorem JL(P:Nat->jl)(n:Int)(k b:Nat)(h:jX P n k=μ b):b<k:=(qe h).1
theorem Dx(z:Zt)(r:iE)(x:Int)(w:dR)(h:lJ w z r):
 eT eU 200 #[π (μ ⟨z.R,0,ν⟩),ι κ x] w λe w'=>e=ρ (τ #[ι κ (FR (jX r.P x r.n)),.bool (jX r.P x r.n).isSome])/\eh w w':=by
 have hl:=h.lt;have c1:=h.c1;have hz:=Md;have qX:=Me;have xh:=h.n3;have Ce:=h.Ma;obtain⟨n,hn⟩:=fW (r.n);have HR:Hid _:=h;have Y:Hid _:=hn;rw[hn]at c1 xh Ce;rw[hn];obtain⟨Zp,Rb⟩:=fW (rowOf 71 Z4);have Ps:Zp.size=71:=by rw[<-Rb];exact lU _ _
 rw[Rb]at hz;clear h hn Rb
 go_in
 go_wp2
 go_loopw [6,7,15] (λb f i wr=>∃k:Nat,k<=n/\i=ι κ k/\b=ι κ (FR (jX r.P x k))/\f=.bool (jX r.P x k).isSome/\eh w wr) (λ_ _ i _=>n-(eV i).toNat)
 case atStart=>exact⟨0,Nat.zero_le _,rfl,rfl,rfl,au _ _⟩
 case round=>
  obtain⟨k,hk,rfl,rfl,rfl,iG⟩:=hrel;by_cases ka:k<n
  ·have m8:(k:Int)<(n:Int):=dU;have Jh:(0:Int)<=(k:Int):=dU;have R:=HR.out.below iG;have Cg:k<r.n:=by rw[Y.out];exact ka
   have hp:=R.pt k Cg;obtain⟨F,hC,hF⟩:=hp.wC;have oI:=Hm (B:=z.B k) (v:=z.v k) hF (Row.one hp.ou);have gl:=R.FQ;have d1:=R.c1;have dl:=R.lt;rw[Y.out]at d1;have HM:Hid (∀b,jX r.P x k=μ b->wr.cell? ⟨z.g,b*71,ν⟩=μ (ι κ (r.P b).m)):=λb hb=>(R.pt b (by have:=JL _ _ _ _ hb;omega)).c0;obtain⟨D,U⟩:=fW (rowOf 71 (wB (r.P k) (z.B k) (z.v k) F));have IB:D.size=71:=by rw[<-U];exact lU _ _
   have a0:D[0]? =μ (ι κ (r.P k).m):=by rw[<-U];exact rO 71 _ 0 dX
   have A:D[67]? =μ (ι κ (r.P k).pe.who):=by rw[<-U];exact rO 71 _ 67 dX
   have H:D[68]? =μ (.bool (r.P k).pe.both):=by rw[<-U];exact rO 71 _ 68 dX
   rw[U]at oI;have ba:=gN wr (γ D 142);have hB:jc (wr.alloc (γ D 142)) wr.heap.size D 142:=jc.new _ _ _;have M:Hid (eh w (wr.alloc (γ D 142))):=fY iG ba;have ZB:=(ai (a:=⟨z.R,1,ν⟩) (ba.block z.R dl)).trans d1;have dl':z.R<(wr.alloc (γ D 142)).heap.size:=Nat.lt_of_lt_of_le dl ba.size;have Pc:Hid (∀b,jX r.P x k=μ b->(wr.alloc (γ D 142)).cell? ⟨z.g,b*71,ν⟩=μ (ι κ (r.P b).m)):=λb hb=>(ai (a:=⟨z.g,b*71,ν⟩) (ba.block z.g gl)).trans (HM.out b hb);have gl':z.g<(wr.alloc (γ D 142)).heap.size:=Nat.lt_of_lt_of_le gl ba.size;have iZ:=dG wr Zp D 142;go_wp2_with(first
    |(refine BQ _ rfl (.tmp 18) 142 rfl z.g (k*71) 71 (wB (r.P k) (z.B k) (z.v k) F) _ rfl hC underlying142 rfl qX ?_;rw[U])
    |(refine nO _ rfl (.tmp 9) (.tmp 19) 142 rfl rfl wr.heap.size Zp D rfl rfl (jc.new _ _ _) (by rw[Ps,IB]) (by rw[IB];exact qX) oI ?_;rw[iZ]))
   have y0:=(hB.cell 0).trans a0;have G:=(hB.cell 67).trans A;have X:=(hB.cell 68).trans H;have yl:wr.heap.size<(wr.alloc (γ D 142)).heap.size:=af _ _ y0;obtain⟨W,hW⟩:=fW (wr.alloc (γ D 142));obtain⟨Z,hZ⟩:=fW (wr.heap.size);rw[hW]at M Pc ZB dl' gl' y0 G X yl;rw[hZ]at y0 G X yl;rw[hW,hZ];clear hW hZ iZ hB ba HM oI hC hF hp R U a0 A H IB d1 dl gl;cases hb:(r.P k).pe.both with
   |false=>
    have Y:Hid _:=yT (P:=r.P) (n:=x) (k:=k) (λhc=>by have:=hc.1;rw[hb]at this;cases this);rw[hb]at X
    go_wp2
    go_quiet(fail)
    go_wp2
    go_roundw
    case rel=>exact⟨k+1,dU,by go_num,by rw[Y.out],by rw[Y.out],below_drewN M.out _⟩
    case measure=>simp[eV];omega
   |true=>
    rw[hb]at X;cases hw:((r.P k).pe.who==x)with
    |false=>
     have Y:Hid _:=yT (P:=r.P) (n:=x) (k:=k) (λhc=>by have:=hc.2.1;simp[this]at hw)
     go_wp2
     go_quiet(fail)
     go_wp2
     go_roundw
     case rel=>exact⟨k+1,dU,by go_num,by rw[Y.out],by rw[Y.out],below_drewN M.out _⟩
     case measure=>simp[eV];omega
    |true=>
     have Z5:(r.P k).pe.who=x:=by simpa using hw
     cases V:jX r.P x k with
     |none=>
      have J:Hid _:=z8 (P:=r.P) (n:=x) (k:=k) ⟨hb,Z5,by rw[V]⟩;have e1:FR ν=0:=rfl;have y:(ν:Option Nat).isSome=false:=rfl;rw[e1,y]
      go_wp2
      go_quiet(fail)
      go_wp2
      go_roundw
      case rel=>exact⟨k+1,dU,by go_num,by rw[J.out];rfl,by rw[J.out];rfl,below_drewN M.out _⟩
      case measure=>simp[eV];omega
     |some b=>
      have hbk:=JL _ _ _ _ V;have hM:=Pc.out b V;have j7:(b:Int)<(n:Int):=dU;have xH:(0:Int)<=(b:Int):=dU;have e1:FR (μ b)=(b:Int):=rfl;have y:(μ b:Option Nat).isSome=true:=rfl;by_cases T:(r.P k).m<(r.P b).m
      ·have J:Hid _:=z8 (P:=r.P) (n:=x) (k:=k) ⟨hb,Z5,by rw[V];simp[T]⟩;have hmd:decide ((r.P k).m<(r.P b).m)=true:=by simp[T]
       rw[e1,y];clear T V
       go_wp2
       go_quiet(fail)
       go_wp2
       go_roundw
       case rel=>exact⟨k+1,dU,by go_num,by rw[J.out];rfl,by rw[J.out];rfl,below_drewN M.out _⟩
       case measure=>simp[eV];omega
      ·have Y:Hid (jX r.P x (k+1)=μ b):=(yT (P:=r.P) (n:=x) (k:=k) (λhc=>by have:=hc.2.2;rw[V]at this;simp[T]at this)).trans V;have hmd:decide ((r.P k).m<(r.P b).m)=false:=by simp[T]
       rw[e1,y];clear T V
       go_wp2
       go_quiet(fail)
       go_wp2
       go_roundw
       case rel=>exact⟨k+1,dU,by go_num,by rw[Y.out];rfl,by rw[Y.out];rfl,below_drewN M.out _⟩
       case measure=>simp[eV];omega
  ·have Cg:k=n:=dU;subst Cg
   go_wp2
   go_ret2
   exact⟨rfl,iG⟩
def EX(r:iE)(k:Nat):List jG:=(List.range k).filterMap λ(j:Nat)=>(jX r.P ((j:Int)+1) r.n).map λb=>((j:Int)+1,(r.P b).m)
theorem Pt(h:jX r.P ((k:Int)+1) r.n=ν):EX r (k+1)=EX r k:=by
 unfold EX;rw[cy,cF];simp[h]
theorem Pu {b:Nat} (h:jX r.P ((k:Int)+1) r.n=μ b):EX r (k+1)=EX r k++ [((k:Int)+1,(r.P b).m)] :=by
 unfold EX;rw[cy,cF];simp[h]
theorem Dy(z:Zt)(r:iE)(w:dR)(h:lJ w z r):
 eT eU 179 #[π (μ ⟨z.R,0,ν⟩)] w λe w'=>∃v,e=ρ v/\Made w w' v (jC r):=by
 obtain⟨i0,hi,od,mK,mL⟩:=aY CQ;have HR:Hid _:=h;clear h
 go_in
 go_wp2
 go_loopw [3,7] (λout i wr=>∃(k:Nat) (ao:Option dQ) (m cp:Nat),k<=6/\out=σ ao m cp/\i=ι κ k/\m<=k/\Row wr 2 (σ ao m cp) m (iO (EX r k))/\(∀j,dV (σ ao m cp)=μ j->w.heap.size<=j)/\eh w wr) (λ_ i _=>6-(eV i).toNat)
 case atStart=>exact⟨0,ν,0,0,Nat.zero_le _,rfl,rfl,Nat.le_refl _,by simpa[EX,iO]using Row.nil w 2,λj H=>mP H,au _ _⟩
 case round=>
  obtain⟨k,ao,m,cp,hk,rfl,rfl,XM,X,T,V⟩:=hrel;by_cases ka:k<6
  ·have m8:(k:Int)<6:=dU;have Jh:(0:Int)<=(k:Int):=dU;have R:=HR.out.below V;have Z:=Dx z r ((k:Int)+1) wr R;cases hb:jX r.P ((k:Int)+1) r.n with
   |none=>
    have Z:eT eU 200 #[π (μ ⟨z.R,0,ν⟩),ι κ ((k:Int)+1)] wr λe w'=>e=ρ (τ #[ι κ 0,.bool false])/\eh wr w':=by
     rw[hb]at Z;exact Z
    have A:Hid _:=Pt hb;have Y:Hid _:=X;have y:Hid _:=V;clear R hb X V;go_wp2_with(fail);refine Z.mono ?_;rintro e w1 ⟨rfl,b1⟩;clear Z
    go_wp2
    go_roundw
    case rel=>exact⟨k+1,_,m,cp,dU,rfl,by go_num,dU,by rw[A.out];exact Row.below Y.out b1,T,fY y.out b1⟩
    case measure=>simp[eV];omega
   |some b=>
    have Z:eT eU 200 #[π (μ ⟨z.R,0,ν⟩),ι κ ((k:Int)+1)] wr λe w'=>e=ρ (τ #[ι κ (b:Int),.bool true])/\eh wr w':=by
     rw[hb]at Z;exact Z
    have A:Hid _:=Pu hb;have M:=(qe hb).1;have J:Hid _:=R;have Y:Hid _:=X;have y:Hid _:=V;clear R hb X V;go_wp2_with(fail);refine Z.mono ?_;rintro e w1 ⟨rfl,b1⟩;have U:=J.out.below b1;have d1:=U.c1;have dl:=U.lt;have gl:=U.FQ;have g0:=(U.pt b M).c0;have j7:(b:Int)<(r.n:Int):=dU;have xH:(0:Int)<=(b:Int):=dU;have vv:=Row.below Y.out b1;have G:=fY y.out b1;clear Z U;go_wp2_with(at_builtin;go_must(refine iB _ rfl (.tmp 18) (.tmp 30) 38 rfl 123 i0 (.agg #[ι κ 0,ι κ 0]) 2 16 underlying38 hi od mK mL rfl dX (σ ao m cp) m (iO (EX r k)) rfl (vv.alloc _) _ 1 1 [ι κ ((k:Int)+1),ι κ (r.P b).m] rfl rfl dX (nj _ _ _ _ _ gO) (lF _ _ _ _) (by unfold maxLen;omega) dU ?_));intro g' jn w2 kQ ke jv;have lN:=lA (G.alloc G.size _) ke T;have l9:=nt (B:=w.heap.size) jv (by have:=G.size;omega) T;rw[show [dY .i64 ((k:Int)+1),dY .i64 (r.P b).m] =[dY .i64 (((k:Int)+1,(r.P b).m):jG).1,dY .i64 (((k:Int)+1,(r.P b).m):jG).2]from rfl,<-mH,<-A.out]at kQ;clear ke jv
    go_wp2
    go_roundw
    case rel=>exact⟨k+1,_,m+1,jn,dU,rfl,by go_num,dU,kQ,λj H=>kj l9 H,lN⟩
    case measure=>simp[eV];omega
  ·have D:k=6:=dU;subst D;have Oy:m=(jC r).length:=by have:=X.1;rw[lz]at this;show m=(EX r 6).length;omega
   go_wp2
   go_ret;exact⟨_,rfl,⟨by rw[<-Oy];exact X,T,V⟩⟩
theorem zT(a b:Option dQ)(ca cb n m:Nat)(os qs:List jG)(w:dR)(U:iU w a n os)(hb:iU w b m qs)(hn:n<=1000000)(hm:m<=1000000):
 eT eU 178 #[σ a n ca,σ b m cb] w λe w'=>e=ρ (.bool (decide (os=qs)))/\∃k,w'=w.drewN k:=by
 have hl:=U.1;have GQ:=hb.1;by_cases D:n=m
 ·subst D;have heq:((n:Int) !=(n:Int))=false:=gO
  go_in
  go_wp2
  go_loopw [13] (λi wr=>∃k m:Nat,k<=n/\i=ι κ k/\os.take k=qs.take k/\wr=w.drewN m) (λi _=>n-(eV i).toNat)
  case atStart=>exact⟨0,0,Nat.zero_le _,rfl,rfl,rfl⟩
  case round=>
   obtain⟨k,m,hk,rfl,V,rfl⟩:=hrel;have J:Hid _:=V;clear V;by_cases ka:k<n
   ·rcases U.2 with hA|⟨b1,o1,rfl,hA⟩
    ·omega
    rcases hb.2 with X|⟨b2,o2,rfl,X⟩
    ·omega
    obtain⟨c1,c2⟩:=hA k dU;obtain⟨c3,c4⟩:=X k dU;have T:Hid (os.take (k+1)=os.take k++ [os[k]'(by omega)]):=ay dU;have M:Hid (qs.take (k+1)=qs.take k++ [qs[k]'(by omega)]):=ay dU;have Y:Hid (os=qs->os[k]'(by omega)=qs[k]'(by omega)):=λh=>by subst h;rfl
    clear hA X;generalize os[k]'(by omega)=o at c1 c2 T Y;generalize qs[k]'(by omega)=q at c3 c4 M Y;have m8:(k:Int)<(n:Int):=dU;cases q1:(o.1==q.1)
    ·have Z:Hid (decide (os=qs)=false):=by
      show _=_;rw[a7];intro h;have:=Y.out h;rw[this]at q1;simp at q1
     go_wp2
     go_quiet(fail)
     go_wp2_with(fail);rw[Z.out];go_ret;exact⟨rfl,_,drewN_drewN _ _ _⟩
    ·cases q2:(o.2==q.2)
     ·have Z:Hid (decide (os=qs)=false):=by
       show _=_;rw[a7];intro h;have:=Y.out h;rw[this]at q2;simp at q2
      go_wp2
      go_quiet(fail)
      go_wp2_with(fail);rw[Z.out];go_ret;exact⟨rfl,_,drewN_drewN _ _ _⟩
     ·have A:Hid (os.take (k+1)=qs.take (k+1)):=by
       show _=_;rw[T.out,M.out,J.out];simp at q1 q2;congr 2;exact aR q1 q2
      go_wp2
      go_quiet(fail)
      go_wp2
      go_roundw
      case rel=>exact⟨k+1,_,dU,by go_num,A.out,rfl⟩
      case measure=>simp[eV];omega
   ·have H:decide (os=qs)=true:=by
     have y:os.take k=os:=aG dU;have G:qs.take k=qs:=aG dU;have:=J.out;rw[y,G]at this;simp[this]
    go_wp2_with(fail);rw[H];go_ret;exact⟨rfl,m,rfl⟩
 ·have heq:((n:Int) !=(m:Int))=true:=by simp;omega
  have Z:decide (os=qs)=false:=by
   rw[a7];intro h;subst h;omega
  rw[Z]
  go_in
  go_wp2
  go_ret;exact⟨rfl,0,rfl⟩
theorem Pv(C:mU)(o:Nat)(e:jG)(es:List jG):zO C o (e::es)=zO (yC C o e.1.toNat e.2) o es:=rfl
theorem NJ(o:Nat)(own:Int)(x y:Nat):∀(es:List jG) (Y:Int) (C:mU),qB own Y es=0->zO C o es x y=if x=o then((es.find? λe=>e.1==(y:Int)).map (·.2)).getD (C x y)else C x y
 |[],_,C,_=>by
  show C x y=_;split<;>simp
 |e::es,Y,C,h=>by
  unfold qB at h;split at h
  ·simp at h
  ·rename_i h1
   split at h
   ·simp at h
   ·rw[Pv,NJ o own x y es e.1 _ h];by_cases hx:x=o
    ·rw[ag hx,ag hx,List.find?_cons];by_cases hy:e.1=(y:Int)
     ·have Z:(e.1==(y:Int))=true:=by simp[hy]
      rw[Z];have X:es.find? (λe=>e.1==(y:Int))=ν:=by
       rw[List.find?_eq_none];intro f hf;have:=NK own es e.1 h f hf;simp;omega
      rw[X];simp only[Option.map_none,Option.getD_none,Option.map_some,Option.getD_some,yC];rw[ag ⟨hx,dU⟩]
     ·have Z:(e.1==(y:Int))=false:=by simp[hy]
      rw[Z];have:yC C o e.1.toNat e.2 x y=C x y:=by
       simp only[yC];rw[ae dU]
      rw[this]
    ·rw[ae hx,ae hx];simp only[yC];rw[ae dU]
where
 NK (own:Int):∀(es:List jG) (ah:Int),qB own ah es=0->∀f∈es,ah<f.1
  |[],_,_,f,hf=>by simp at hf
  |e::es,ah,h,f,hf=>by
   unfold qB at h;split at h
   ·simp at h
   ·split at h
    ·simp at h
    ·rcases aQ.1 hf with rfl|hf
     ·omega
     ·have:=NK own es e.1 h f hf;omega
def gAt(es:List jG)(y:Nat):Int:=((es.find? λe=>e.1==(y:Int)).map (·.2)).getD 0
theorem JM {K:Int->Option PS} {n:Nat} {S:Nat->SV} {E:Nat->List jG} (h:oH K n S E)(x y:Nat):∀k,k<=n->(∀j,j<k->(S j).own=(x:Int)->lI S E k x y=gAt (E j) y)/\((∀j,j<k->(S j).own≠(x:Int))->lI S E k x y=0)
 |0,_=>⟨λj Z=>dU,λ_=>rfl⟩
 |k+1,hk=>by
  have ih:=JM h x y k dU;have U:=h.ok k dU;obtain⟨ho,_,_,V⟩:=jw U;have T:lI S E (k+1) x y=if x=(S k).own.toNat then(((E k).find? λe=>e.1==(y:Int)).map (·.2)).getD (lI S E k x y)else lI S E k x y:=NJ (S k).own.toNat (S k).own x y (E k) 0 (lI S E k) V
  rw[T];by_cases hx:x=(S k).own.toNat
  ·rw[ag hx];have M:lI S E k x y=0:=ih.2 (λj Z e=>by
    have:=h.KT j k Z dU;omega)
   rw[M];refine⟨λj Z hs=> ?_,λX=>absurd dU (X k dU)⟩;by_cases Y:j=k
   ·subst Y;rfl
   ·have:=h.KT j k dU dU;omega
  ·rw[ae hx];refine⟨λj Z hs=> ?_,λX=>ih.2 (λj Z=>X j dU)⟩;by_cases Y:j=k
   ·subst Y;omega
   ·exact ih.1 j dU hs
theorem oH.grid {S:Nat->SV} {E:Nat->List jG} (h:oH K n S E)(U:Wt K):lI S E n=NG K:=by
 funext x y
 have V:=JM h x y n (Nat.le_refl _);unfold NG;cases Y:K (x:Int)with
 |none=>
  simp only;refine V.2 (λj Z e=> ?_);have:=(h.at_ j Z).2;rw[e,Y]at this;cases this
 |some q=>
  simp only;have hr:=U x (by rw[Y];rfl);obtain⟨j,Z,X⟩:=h.all x ⟨dU,dU⟩ (by rw[Y];rfl);rw[V.1 j Z X];have:=(h.at_ j Z).2;rw[X,Y]at this;have:=(dF (Option.some.inj this)).2;unfold gAt;rw[<-this]
end Rt
variable {ao:Option Addr} {cp j k lo:Nat} {o:Obj} {ok:List jG} {u v:Value} {w w1 wr x1:World}
theorem uu {b:Nat} (Y:∀k,v.ownBlock=μ k->lo+2<=k)(X:(wr.alloc o).drew.grownBy x1 v.ownBlock)(hb:b<lo+2)(Z:b<wr.heap.size):x1.heap[b]? =wr.heap[b]? :=by
 rw[X.block b (by show b<(wr.alloc o).heap.size;simp;omega) (λe=>by have:=Y b e.symm;omega)];exact aT wr o b Z
theorem Pw(Y:∀k,v.ownBlock=μ k->lo+2<=k)(X:(wr.alloc o).drew.grownBy x1 v.ownBlock)(hc:wr.cell? ⟨lo+1,j,ν⟩=μ u):x1.cell? ⟨lo+1,j,ν⟩=μ u:=by
 have Z:lo+1<wr.heap.size:=af wr _ hc;rw[ai (w:=wr) (a:=⟨lo+1,j,ν⟩) (uu (b:=lo+1) Y X dU Z)];exact hc
theorem JN(Y:∀k,v.ownBlock=μ k->lo+2<=k)(X:(wr.alloc o).drew.grownBy x1 v.ownBlock)(hc:wr.cell? ⟨lo+1,j,ν⟩=μ u)(hf:wr.frozen? ⟨lo+1,j,ν⟩=false):x1.frozen? ⟨lo+1,j,ν⟩=false:=by
 have Z:lo+1<wr.heap.size:=af wr _ hc;rw[aJ (w:=wr) (a:=⟨lo+1,j,ν⟩) (uu (b:=lo+1) Y X dU Z)];exact hf
theorem DA(s:ByteArray)(k:Nat)(h:k<s.size):s.data.toList.drop k=s[k] ::s.data.toList.drop (k+1):=by
 rw[aO (by simpa using h)];rfl
theorem yU(Y:wr.heap[w.heap.size]? =μ (γ #[ι κ 0,ι κ 0,σ ν 0 0] 40 (0,0)))(hb:eh wr w1):
 w1.cell? ⟨w.heap.size,0,ν⟩=μ (ι κ 0)/\w1.cell? ⟨w.heap.size,1,ν⟩=μ (ι κ 0)/\w1.cell? ⟨w.heap.size,2,ν⟩=μ (σ ν 0 0)/\∀j,w1.frozen? ⟨w.heap.size,j,ν⟩=false:=by
 have X:w.heap.size<wr.heap.size:=(aw.1 Y).1;have Z:w1.heap[w.heap.size]? =μ (γ #[ι κ 0,ι κ 0,σ ν 0 0] 40 (0,0)):=by rw[hb.block _ X];exact Y
 exact⟨ax w1 _ 0 _ 40 (0,0) Z,ax w1 _ 1 _ 40 (0,0) Z,ax w1 _ 2 _ 40 (0,0) Z,λj=>bu w1 _ j _ 40 Z⟩
theorem Ts(x y k:Nat)(hx:x<2^k)(hs:2^k*y+x<2^62):bits .or .i64 (x:Int) ((2^k*y:Nat):Int)=((2^k*y+x:Nat):Int):=by
 have Z:(eW 64 (x:Int)|||BitVec.ofInt 64 ((2^k*y:Nat):Int)).toNat=2^k*y+x:=by
  rw[BitVec.toNat_or,fZ,fZ,ga,ga,Nat.mod_eq_of_lt dU,Nat.mod_eq_of_lt dU,Nat.or_comm];exact(Nat.two_pow_add_eq_or_of_lt hx y).symm
 show fh.wrap ((eW 64 (x:Int)|||BitVec.ofInt 64 ((2^k*y:Nat):Int)).toNat:Int)=_;rw[Z,IntKind.wrap_i64];omega
theorem ahK(x y:Nat)(hx:x<256)(hy:y<256):bits .or .i64 (x:Int) ((y:Int)*(256:Int))=(x:Int)+(256:Int)*(y:Int):=by
 have h:=Ts x y 8 dU dU;have e:((2^8*y:Nat):Int)=(y:Int)*256:=dU;rw[e]at h;rw[h];omega
theorem ahL(x y:Nat)(hx:x<65536)(hy:y<256):bits .or .i64 (x:Int) ((y:Int)*(65536:Int))=(x:Int)+(65536:Int)*(y:Int):=by
 have h:=Ts x y 16 dU dU;have e:((2^16*y:Nat):Int)=(y:Int)*65536:=dU;rw[e]at h;rw[h];omega
def z9(E:Nat->dT)(l:List UInt8)(w:dR)(e:Ending)(w':dR):Prop:=
 ∃(a:Option dQ) (n cap f:Nat) (own seq:Int) (os:List jG),e=ρ (τ #[.agg #[ι κ own,ι κ seq,σ a n cap],E f])/\iU w' a n os/\n<=cap/\il l=(own,seq,os,f)/\eh w w'/\kt a cap
theorem A7(s:ByteArray)(Q:Int)(h4:4<=s.size)(heq:s.size%2=0)(Z:(s[1].toNat:Int)+(256:Int)*(s[2].toNat:Int)+(65536:Int)*(s[3].toNat:Int)=Q):
 il s.data.toList=if oD (s[0].toNat:Int) Q (pairs (s.data.toList.drop 4))=0 then((s[0].toNat:Int),Q,pairs (s.data.toList.drop 4),0)else(0,0,[],4):=by
 have hl:s.data.toList.length=s.size:=gO;have Y:I1 s.data.toList=Q:=by
  unfold I1;rw[nu s 1 dU,nu s 2 dU,nu s 3 dU,Z]
 unfold il;rw[Y,nu s 0 dU,hl,ae dU]
theorem FU {x y z:dT} (Y:Row w1 2 (σ ao k cp) k (iO ok))(Z:∀j,dV (σ ao k cp)=μ j->w.heap.size+2<=j)(hb:eh w w1):
 iU (((w1.setCell ⟨w.heap.size,0,ν⟩ x).setCell ⟨w.heap.size,1,ν⟩ y).setCell ⟨w.heap.size,2,ν⟩ z) ao k ok/\eh w (((w1.setCell ⟨w.heap.size,0,ν⟩ x).setCell ⟨w.heap.size,1,ν⟩ y).setCell ⟨w.heap.size,2,ν⟩ z):=by
 refine⟨Row.opts (Y.keep gO (λj X=> ?_)),((hb.setCell (Nat.le_refl _) _).setCell (Nat.le_refl _) _).setCell (Nat.le_refl _) _⟩;have:=Z j X;rw[aq _ _ _ _ (by show j≠w.heap.size;omega),aq _ _ _ _ (by show j≠w.heap.size;omega),aq _ _ _ _ (by show j≠w.heap.size;omega)]
theorem EY(w:dR)(a b:Obj):((w.alloc a).alloc b).drew.heap[w.heap.size+1]? =μ b:=by
 have h:=aW (w.alloc a) b;have e:(w.alloc a).heap.size=w.heap.size+1:=gO;rw[e]at h;exact h
theorem DB(w:dR)(a b:Obj):((w.alloc a).alloc b).drew.heap[w.heap.size]? =μ a:=by
 show((w.alloc a).alloc b).heap[w.heap.size]? =μ a;rw[aT (w.alloc a) b w.heap.size gO];exact aW w a
theorem Mf {ob:Obj} {g' jn:Nat} {c d:Int} {x y:Nat}
 (U:wr.heap[w.heap.size+1]? =μ (γ #[ι κ c,ι κ d,σ ao k cp] 40 (0,0)))
 (H:wr.heap[w.heap.size]? =μ (γ #[ι κ 0,ι κ 0,σ ν 0 0] 40 (0,0)))
 (_hrow:Row wr 2 (σ ao k cp) k (iO ok)) (Y:∀j,dV (σ ao k cp)=μ j->w.heap.size+2<=j) (M:eh w wr)
 (V:Row x1 2 (σ (μ ⟨g',0,ν⟩) (k+1) jn) (k+1) (iO ok++ [ι κ (fh.wrap (x:Int)),ι κ (fh.wrap (y:Int))]))
 (X:(wr.alloc ob).drew.grownBy x1 (dV (σ ao k cp))) (G:dV (σ ao k cp)=μ g' \/(wr.alloc ob).drew.heap.size<=g') (hx:x<2^8) (hy:y<2^8):
 Row (x1.setCell ⟨w.heap.size+1,2,ν⟩ (σ (μ ⟨g',0,ν⟩) (k+1) jn)) 2 (σ (μ ⟨g',0,ν⟩) (k+1) jn) (k+1) (iO (ok++ [((x:Int),(y:Int))]))/\
 (x1.setCell ⟨w.heap.size+1,2,ν⟩ (σ (μ ⟨g',0,ν⟩) (k+1) jn)).heap[w.heap.size+1]? =μ (γ #[ι κ c,ι κ d,σ (μ ⟨g',0,ν⟩) (k+1) jn] 40 (0,0))/\
 (x1.setCell ⟨w.heap.size+1,2,ν⟩ (σ (μ ⟨g',0,ν⟩) (k+1) jn)).heap[w.heap.size]? =μ (γ #[ι κ 0,ι κ 0,σ ν 0 0] 40 (0,0))/\
 (∀j,dV (σ (μ ⟨g',0,ν⟩) (k+1) jn)=μ j->w.heap.size+2<=j)/\eh w (x1.setCell ⟨w.heap.size+1,2,ν⟩ (σ (μ ⟨g',0,ν⟩) (k+1) jn)):=by
 have J:w.heap.size+1<wr.heap.size:=(aw.1 U).1;have k1:=uu (b:=w.heap.size+1) Y X dU J;have k0:=uu (b:=w.heap.size) Y X dU dU;have RS:(wr.alloc ob).drew.heap.size=wr.heap.size+1:=by show(wr.alloc ob).heap.size=_;simp
 have Jk:w.heap.size+2<=g':=by
  rcases G with h|h
  ·exact Y g' h
  ·omega
 have T:x1.heap[w.heap.size+1]? =μ (γ #[ι κ c,ι κ d,σ ao k cp] 40 (0,0)):=by rw[k1];exact U
 refine⟨?_,?_,?_,?_,?_⟩
 ·have ex:fh.wrap (x:Int)=(x:Int):=aP _ ⟨dU,dU⟩;have D:fh.wrap (y:Int)=(y:Int):=aP _ ⟨dU,dU⟩;rw[ex,D,<-mH ok ((x:Int),(y:Int))]at V;refine V.keep gO (λj Z=> ?_);have:g'=j:=by simpa[dV]using Z
  exact aq _ _ _ _ (by show j≠w.heap.size+1;omega)
 ·rw[bD x1 (w.heap.size+1) 2 _ 40 (0,0) _ T];exact cz x1 _ _ _ 40 (0,0) T
 ·rw[aq _ _ _ _ (by show w.heap.size≠w.heap.size+1;omega),k0];exact H
 ·intro j Z;have:g'=j:=by simpa[dV]using Z
  omega
 ·have A:eh w (wr.alloc ob).drew:=(M.alloc M.size _).drew;refine bq ?_ (by show w.heap.size<=w.heap.size+1;omega) _;refine A.grown X dU (λj Z=> ?_);have:=Y j Z;omega
theorem Mg(s:ByteArray)(w:dR)(h4:4<=s.size)(hs:s.size<=16)(heq:s.size%2=0):
 eT eU 188 #[.string s] w λe w'=>z9 jb s.data.toList w e w':=by
 obtain⟨i0,hi,od,mK,mL⟩:=aY CQ;have hz:=oZ;have g1:¬(s.size:Int)<4:=dU;have g2:¬(16:Int)<(s.size:Int):=dU;have g3:(((s.size:Int)-4) %2 !=0)=false:=by rw[bne_eq_false_iff_eq];omega
 have HE:Hid _:=heq;clear heq;have b0:0<s.size:=dU;have b1:1<s.size:=dU;have b2:2<s.size:=dU;have b3:3<s.size:=dU;have xH:=s[0].toNat_lt;have Y:=s[1].toNat_lt;have lN:=s[2].toNat_lt;have qO:=s[3].toNat_lt;have z0:(0:Int)<(s.size:Int):=dU;have z1:(1:Int)<(s.size:Int):=dU;have z2:(2:Int)<(s.size:Int):=dU;have z3:(3:Int)<(s.size:Int):=dU;obtain⟨Q,hQ⟩:∃Q:Int,(s[1].toNat:Int)+(256:Int)*(s[2].toNat:Int)+(65536:Int)*(s[3].toNat:Int)=Q:=⟨_,rfl⟩
 have ho1:=ahK s[1].toNat s[2].toNat dU dU;have Tg:bits .or .i64 ((s[1].toNat:Int)+(256:Int)*(s[2].toNat:Int)) ((s[3].toNat:Int)*(65536:Int))=Q:=by
  have:=ahL (s[1].toNat+256*s[2].toNat) s[3].toNat dU dU;push_cast at this;rw[this,hQ]
 have U:Hid _:=hQ
 go_in
 go_wp2
 go_region
 go_wp2_with(fail)
 try rw[U.out]
 try clear hQ
 try clear ho1
 try clear Tg
 obtain⟨Z,Y6⟩:∃Z:Int,(s[0].toNat:Int)=Z:=⟨_,rfl⟩
 have D:Hid _:=Y6;rw[Y6];clear Y6 xH Y lN qO
 go_loopw [5] (λi wr=>∃(k cp:Nat) (ao:Option dQ) (ok:List jG),4+2*k<=s.size/\i=ι κ ((4+2*k:Nat):Int)/\ok.length=k/\pairs (s.data.toList.drop 4)=ok++pairs (s.data.toList.drop (4+2*k))/\Row wr 2 (σ ao k cp) k (iO ok)/\
  wr.heap[w.heap.size+1]? =μ (γ #[ι κ Z,ι κ Q,σ ao k cp] 40 (0,0))/\wr.heap[w.heap.size]? =μ (γ #[ι κ 0,ι κ 0,σ ν 0 0] 40 (0,0))/\
  (∀j,dV (σ ao k cp)=μ j->w.heap.size+2<=j)/\eh w wr)
  (λi _=>s.size-(eV i).toNat)
 case atStart=>
  refine⟨0,0,ν,[],dU,rfl,rfl,rfl,Row.nil _ _,?_,?_,λj hj=>by simp[dV]at hj,(((au _ _).alloc (Nat.le_refl _) _).alloc gO _).drew⟩
  ·exact EY w _ _
  ·exact DB w _ _
 case round=>
  obtain⟨k,cp,ao,ok,hk,rfl,iF,J,X,Jn,Db,A,iG⟩:=hrel;have hP:Hid _:=J;clear J;have cv:wr.cell? ⟨w.heap.size+1,2,ν⟩=μ (σ ao k cp):=ax wr _ 2 _ 40 (0,0) Jn;have fv:wr.frozen? ⟨w.heap.size+1,2,ν⟩=false:=bu wr _ 2 _ 40 Jn;have VU:w.heap.size+1<wr.heap.size:=af wr _ cv;have Zs:Hid _:=Jn;have Zu:Hid _:=Db;clear Jn Db;by_cases ka:4+2*k<s.size
  ·have EM:4+2*k+1<s.size:=by have:=HE.out;omega
   obtain⟨q,hq⟩:∃q,q=4+2*k:=⟨_,rfl⟩
   rw[<-hq]at ka EM;have HQ:Hid _:=hq;have y0:(0:Int)<=(q:Int):=dU;have y1:(q:Int)<(s.size:Int):=dU;have y2:(q:Int)+1<(s.size:Int):=dU;have y3:(0:Int)<=(q:Int)+1:=dU;have yw:fh.wrap ((q:Int)+1)=(q:Int)+1:=aP _ ⟨dU,dU⟩;have hbq:=s[q].toNat_lt;have ahe:=s[q+1].toNat_lt;have m1:k+1<=maxLen:=by unfold maxLen;omega
   have bb1:(k+1)*16<=140737488355328:=dU;rw[<-hq];clear hq;have HP2:Hid (pairs (s.data.toList.drop 4)=(ok++ [((s[q].toNat:Int),(s[q+1].toNat:Int))])++pairs (s.data.toList.drop (4+2*(k+1)))):=by
    show pairs (s.data.toList.drop 4)=_;rw[hP.out,<-HQ.out,DA s q ka,DA s (q+1) EM];have T:q+1+1=4+2*(k+1):=by have:=HQ.out;omega
    rw[T];simp[pairs]
   go_wp2
   go_region_law ((refine lv (by rfl) (.tmp 47) (.tmp 58) 38 (by rfl) 123 i0 (.agg #[ι κ 0,ι κ 0]) 2 16 underlying38 hi od mK mL (by rfl) dX (σ ao k cp) k (iO ok) (by rfl) ((X.alloc _).drew) _ 1 1 [ι κ (fh.wrap (s[q].toNat:Int)),ι κ (fh.wrap (s[q+1].toNat:Int))] (by rfl) (by rfl) dX (Ds _ _ _ _) (lF _ _ _ _) m1 bb1 ?_;intro g' jn x1 kQ h jv;have c1:=Pw A h cv;have f1:=JN A h cv fv))
   all_goals have hS:=Mf (c:=Z) (d:=Q) Zs.out Zu.out X A iG kQ h jv s[q].toNat_lt s[q+1].toNat_lt
   all_goals clear kQ h jv c1 f1
   all_goals go_wp2_with(fail)
   all_goals go_roundw
   all_goals first
    |exact⟨k+1,jn,some ⟨g',0,none⟩,_,by have:=HQ.out;omega,by have:=HQ.out;go_num,by simp[iF],HP2.out,hS⟩
    |(simp[eV];omega)
  ·have H:4+2*k=s.size:=dU;have SC:pairs (s.data.toList.drop 4)=ok:=by
    rw[hP.out,H,aZ (by show s.size<=s.size;omega)];simp[pairs]
   have BJ:=X.opts;have Ce:k<=cp/\kt ao cp:=⟨X.Rm,λe=>by
    rcases X.2 with⟨T,_⟩|⟨g,c,T,_⟩
    ·exact(bG T).2.2
    ·rw[e]at T;cases (bG T).1⟩
   have c0:wr.cell? ⟨w.heap.size+1,0,ν⟩=μ (ι κ Z):=ax wr _ 0 _ 40 (0,0) Zs.out;have c1:wr.cell? ⟨w.heap.size+1,1,ν⟩=μ (ι κ Q):=ax wr _ 1 _ 40 (0,0) Zs.out;have V:=xE Z Q ao k cp ok wr dU BJ;have HK:Hid _:=SC;clear hP SC H;by_cases hf:oD Z Q ok=0
   ·have M:jb 0=η:=rfl;rw[hf,M]at V;clear M;have HF:Hid _:=hf;clear hf;go_wp2_with(fail);refine V.mono ?_;rintro e w1 ⟨rfl,Y⟩;have d0:=(Y.cell (p:=⟨w.heap.size+1,0,ν⟩) VU).trans c0;have d1:=(Y.cell (p:=⟨w.heap.size+1,1,ν⟩) VU).trans c1;have d2:=(Y.cell (p:=⟨w.heap.size+1,2,ν⟩) VU).trans cv;obtain⟨r0,r1,r2,r3⟩:=yU Zu.out Y;have uV:=fY iG Y;have G:=FU (x:=ι κ Z) (y:=ι κ Q) (z:=σ ao k cp) (X.below Y) A uV;have HV:Hid (il s.data.toList=(Z,Q,ok,0)):=by
     show il s.data.toList=_;rw[A7 s Q h4 HE.out U.out,D.out,HK.out,ag HF.out]
    clear V Y c0 c1 cv X;go_wp2_with(fail);refine aE (v:=τ #[.agg #[ι κ Z,ι κ Q,σ ao k cp],η]) (by simp[results,results188,go_sem,r0,r1,r2]) rfl ?_;exact⟨ao,k,cp,0,_,_,ok,rfl,G.1,Ce.1,HV.out,G.2,Ce.2⟩
   ·have M:jb (oD Z Q ok)=.iface 128 (ι κ (oD Z Q ok:Int)):=by simp[jb,hf]
    rw[M]at V;clear M;have HF:Hid _:=hf;clear hf;have HV:Hid (il s.data.toList=(0,0,[],4)):=by
     show il s.data.toList=_;rw[A7 s Q h4 HE.out U.out,D.out,HK.out,ae HF.out]
    generalize oD Z Q ok=ff at V;go_wp2_with(fail);refine V.mono ?_;rintro e w1 ⟨rfl,Y⟩;obtain⟨r0,r1,r2,r3⟩:=yU Zu.out Y;have uV:=fY iG Y;have G:=FU (ok:=[]) (ao:=ν) (k:=0) (cp:=0) (x:=ι κ 0) (y:=ι κ 0) (z:=σ ν 0 0) (Row.nil w1 2) (λj hj=>by simp[dV]at hj) uV;clear V Y c0 c1 cv X BJ;go_wp2_with(fail);refine aE (v:=τ #[.agg #[ι κ 0,ι κ 0,σ ν 0 0],.iface 128 (ι κ 4)]) (by simp[results,results188,go_sem,r0,r1,r2]) rfl ?_;exact⟨ν,0,0,4,0,0,[],rfl,G.1,Nat.le_refl _,HV.out,G.2,λ_=>rfl⟩
theorem Px(s:ByteArray)(w:dR)(hs:s.size<=maxLen)(h:il s.data.toList=(0,0,[],4))(hb:s.size<4 \/16<s.size \/s.size%2=1):
 eT eU 188 #[.string s] w λe w'=>z9 jb s.data.toList w e w':=by
 have hz:=oZ;have Y:Hid _:=h;clear h;unfold maxLen at hs;have X:=gN w (γ #[ι κ 0,ι κ 0,σ ν 0 0] 40);have V:iU (w.alloc (γ #[ι κ 0,ι κ 0,σ ν 0 0] 40)) ν 0 [] :=⟨rfl,.inl rfl⟩
 have g0:(0:Int)<=(s.size:Int):=dU;rcases(show s.size<4 \/(4<=s.size/\16<s.size) \/(4<=s.size/\s.size<=16/\s.size%2=1) by omega)with Z|Z|Z
 ·have g1:(s.size:Int)<4:=dU
  go_in
  go_wp2_with(fail);refine aE (v:=τ #[.agg #[ι κ 0,ι κ 0,σ ν 0 0],.iface 128 (ι κ 4)]) (by simp[results,results188,go_sem]) rfl ?_;exact⟨ν,0,0,4,0,0,[],rfl,V,Nat.le_refl _,Y.out,X,λ_=>rfl⟩
 ·have g1:¬(s.size:Int)<4:=dU;have U:(16:Int)<(s.size:Int):=dU
  go_in
  go_wp2_with(fail);refine aE (v:=τ #[.agg #[ι κ 0,ι κ 0,σ ν 0 0],.iface 128 (ι κ 4)]) (by simp[results,results188,go_sem]) rfl ?_;exact⟨ν,0,0,4,0,0,[],rfl,V,Nat.le_refl _,Y.out,X,λ_=>rfl⟩
 ·have g1:¬(s.size:Int)<4:=dU;have U:¬(16:Int)<(s.size:Int):=dU;have g3:(((s.size:Int)-4) %2 !=0)=true:=by rw[dM];omega
  clear hb Z
  go_in
  go_wp2_with(fail);refine aE (v:=τ #[.agg #[ι κ 0,ι κ 0,σ ν 0 0],.iface 128 (ι κ 4)]) (by simp[results,results188,go_sem]) rfl ?_;exact⟨ν,0,0,4,0,0,[],rfl,V,Nat.le_refl _,Y.out,X,λ_=>rfl⟩
theorem DC(s:ByteArray)(w:dR)(hs:s.size<=maxLen):eT eU 188 #[.string s] w λe w'=>z9 jb s.data.toList w e w':=by
 have hl:s.data.toList.length=s.size:=gO;by_cases Z:s.size<4 \/16<s.size \/s.size%2=1
 ·refine Px s w hs ?_ Z;by_cases h16:16<s.size
  ·exact I2 _ dU
  ·unfold il;rw[hl,ag dU]
 ·exact Mg s w dU dU dU
