import Derived.Test.YtieklnlbljejdaaGreatDoorT01
import Derived.Test.YtieklnlbljejdaaGreatDoorT03
open Go.Value renaming int → ι, slice → σ, pointer → π, tuple → τ, nilIface → η
open Go.IntKind renaming i64 → κ
open Go.Ending renaming returned → ρ
open Go.Obj renaming cells → γ
open Option renaming none → ν, some → μ
open Go renaming Value → dO, Addr → dM, World → dN, Calls → eM, TypeId → dR
open Go.Proofs.Tryz renaming prog → eN
open Go.RowKit renaming intOf → eP
open Go.Value renaming cells → eZ, int → dT, ownBlock → dQ
open ByteArray renaming empty → fa
open Go.World renaming setRow → fc
open Go.Instr renaming loadAt → fe, sureAddr → fh, storeAt → ft
open Go.Sem renaming run_bind → fj, run_pure → fk
open Go.Result renaming andThen → fq, andThen_ok → dZ
open Array renaming range → fA, mem_map → fB
set_option maxRecDepth 100000
set_option maxHeartbeats 4000000
open Go.Proofs.Tryz
namespace Go.Proofs.YtieklnlbljejdaaGreatDoor
open Go.RowKit
variable {B B' cap n:Nat} {H:Type} {Q:Exit->Act->World->Prop} {W w w':World} {a:Option Addr} {m s:Int} {o:Oper} {ops:Array Oper} {ps:List MemPlace} {rest:List Oper} {t:TypeId} {v:Value}
theorem I2.set(h:I2 w B s m)(s' m':Int):I2 ((w.setCell ⟨B,0,ν⟩ (ι κ s')).setCell ⟨B,1,ν⟩ (ι κ m')) B s' m':=by
 refine⟨?_,?_,?_,?_⟩
 ·exact(aP _ ⟨B,1,ν⟩ ⟨B,0,ν⟩ _ gN).trans (dm _ _ _ (by rw[h.c0];rfl))
 ·exact dm _ _ _ (by rw[aP _ ⟨B,0,ν⟩ ⟨B,1,ν⟩ _ gN,h.c1];rfl)
 ·simp[h.f0]
 ·simp[h.f1]
theorem I2.other(h:I2 w B s m)(Z:B'≠B)(x y:dO):I2 ((w.setCell ⟨B',0,ν⟩ x).setCell ⟨B',1,ν⟩ y) B s m:=by
 refine⟨?_,?_,?_,?_⟩
 ·rw[aI _ _ _ _ Z,aI _ _ _ _ Z];exact h.c0
 ·rw[aI _ _ _ _ Z,aI _ _ _ _ Z];exact h.c1
 ·simp[h.f0]
 ·simp[h.f1]
theorem PF(sz mg code:Int)(a:Option dM)(n cap:Nat)(os:List jv)(w:dN)(hn:n<=1000000)(A:iK w a n os):
 eM eN 231 #[.agg #[ι κ sz,ι κ mg],ι κ code,σ a n cap] w λe w'=>
  e=ρ (.agg #[ι κ (nX code os (sz,mg)).1,ι κ (nX code os (sz,mg)).2])/\dV w w':=by
 have hz:=wW;have P0:I2 ((w.alloc (γ #[ι κ sz,ι κ mg] 252)).alloc (γ #[ι κ 0,ι κ 0] 252)) w.heap.size sz mg:=by
  have hA:=λj=>aj w #[ι κ sz,ι κ mg] 252 (0,0) j;have hF:=λj=>cJ w #[ι κ sz,ι κ mg] 252 0 0 j;exact I2.below ⟨hA 0,hA 1,by rw[hF];rfl,by rw[hF];rfl⟩ (gM _ _)
 have P1:I2 ((w.alloc (γ #[ι κ sz,ι κ mg] 252)).alloc (γ #[ι κ 0,ι κ 0] 252)) (w.heap.size+1) 0 0:=by
  have hA:=λj=>aj (w.alloc (γ #[ι κ sz,ι κ mg] 252)) #[ι κ 0,ι κ 0] 252 (0,0) j;have hF:=λj=>cJ (w.alloc (γ #[ι κ sz,ι κ mg] 252)) #[ι κ 0,ι κ 0] 252 0 0 j;have e:(w.alloc (γ #[ι κ sz,ι κ mg] 252)).heap.size=w.heap.size+1:=gN;rw[e]at hA hF;exact⟨hA 0,hA 1,by rw[hF];rfl,by rw[hF];rfl⟩
 have oW:dV w ((w.alloc (γ #[ι κ sz,ι κ mg] 252)).alloc (γ #[ι κ 0,ι κ 0] 252)):=(gM _ _).alloc gN _
 go_in
 go_wp2
 go_loopw [11] (λi wr=>∃(k:Nat) (s m:Int),k<=n/\i=ι κ k/\nX code os (sz,mg)=nX code (os.drop k) (s,m)/\I2 wr w.heap.size s m/\I2 wr (w.heap.size+1) 0 0/\dV w wr) (λi _=>n-(eP i).toNat)
 case atStart=>exact⟨0,sz,mg,Nat.zero_le _,rfl,rfl,P0,P1,oW⟩
 case round=>
  obtain⟨k,s,m,hk,rfl,Vr,hP,Vs,y⟩:=hrel;have E:Hid _:=Vr;clear Vr P0 P1;have S:=hP;have Q1:=Vs;obtain⟨c0,c1,f0,f1⟩:=hP;obtain⟨d0,d1,g0,g1⟩:=Vs;have vv:w.heap.size<wr.heap.size:=af wr _ c0;have Pn:w.heap.size+1<wr.heap.size:=af wr _ d0;by_cases kc:k<n
  ·have CJ:=A.below y;rcases CJ.2 with h0|⟨b,off,rfl,hc⟩
   ·omega
   have ph:k<os.length:=by rw[A.1];exact kc
   obtain⟨e1,e2⟩:=hc k ph;have HD:Hid (os.drop k=os[k] ::os.drop (k+1)):=aO ph;generalize os[k] =o at e1 e2 HD;clear hc;have nh:(k:Int)<(n:Int):=dP;have V:nX code os (sz,mg)=nX code (os.drop (k+1)) (jL code (s,m) o):=by rw[E.out,HD.out];rfl
   have Z:=gM wr (γ #[ι κ o.1,ι κ o.2] 276);have u:=gD y Z;cases q4:(code==4)
   ·cases q3:(code==3)
    ·have hv:jL code (s,m) o=(s,m):=by simp at q3 q4;simp[jL,q3,q4]
     rw[hv]at V;have X:Hid _:=V;clear V hv
     go_wp2
     go_roundw
     case rel=>exact⟨k+1,s,m,dP,by go_num,X.out,S.below Z,Q1.below Z,u⟩
     case measure=>simp[eP];omega
    ·have T:code=3:=by simpa using q3
     have X:Hid (nX code os (sz,mg)=nX code (os.drop (k+1)) ((jL 3 (s,m) o).1,(jL 3 (s,m) o).2)):=by
      show _=_;rw[V,T]
     clear V T;go_wp2_with(fail);refine(Pr s m o.1 o.2 _).mono ?_;rintro e U ⟨rfl,Y⟩;have h:=gD u Y;obtain⟨c0,c1,f0,f1⟩:=(S.below Z).below Y;obtain⟨d0,d1,g0,g1⟩:=(Q1.below Z).below Y;have vv:w.heap.size<U.heap.size:=af U _ c0;have D:=(((S.below Z).below Y).set (jL 3 (s,m) (o.1,o.2)).1 (jL 3 (s,m) (o.1,o.2)).2)
     have M:=(((Q1.below Z).below Y).other (B':=w.heap.size) dP (ι κ (jL 3 (s,m) (o.1,o.2)).1) (ι κ (jL 3 (s,m) (o.1,o.2)).2))
     have G:dV w ((U.setCell ⟨w.heap.size,0,ν⟩ (ι κ (jL 3 (s,m) (o.1,o.2)).1)).setCell ⟨w.heap.size,1,ν⟩ (ι κ (jL 3 (s,m) (o.1,o.2)).2)):=(h.setCell (Nat.le_refl _) _).setCell (Nat.le_refl _) _
     go_wp2
     go_roundw
     case rel=>exact⟨k+1,_,_,dP,by go_num,X.out,D,M,G⟩
     case measure=>simp[eP];omega
   ·have T:code=4:=by simpa using q4
    have J:jL 4 (s,m) o=jL 4 (s,m) (o.1,0):=by simp[jL]
    have X:Hid (nX code os (sz,mg)=nX code (os.drop (k+1)) ((jL 4 (s,m) (o.1,0)).1,(jL 4 (s,m) (o.1,0)).2)):=by
     show _=_;rw[V,T,J]
    clear V T J;go_wp2_with(fail);refine(Ge s m o.1 _).mono ?_;rintro e U ⟨rfl,Y⟩;have h:=gD u Y;obtain⟨c0,c1,f0,f1⟩:=(S.below Z).below Y;obtain⟨d0,d1,g0,g1⟩:=(Q1.below Z).below Y;have vv:w.heap.size<U.heap.size:=af U _ c0;have D:=(((S.below Z).below Y).set (jL 4 (s,m) (o.1,0)).1 (jL 4 (s,m) (o.1,0)).2)
    have M:=(((Q1.below Z).below Y).other (B':=w.heap.size) dP (ι κ (jL 4 (s,m) (o.1,0)).1) (ι κ (jL 4 (s,m) (o.1,0)).2))
    have G:dV w ((U.setCell ⟨w.heap.size,0,ν⟩ (ι κ (jL 4 (s,m) (o.1,0)).1)).setCell ⟨w.heap.size,1,ν⟩ (ι κ (jL 4 (s,m) (o.1,0)).2)):=(h.setCell (Nat.le_refl _) _).setCell (Nat.le_refl _) _
    go_wp2
    go_roundw
    case rel=>exact⟨k+1,_,_,dP,by go_num,X.out,D,M,G⟩
    case measure=>simp[eP];omega
  ·have Lg:os.drop k=[] :=aU (by rw[A.1];omega);have X:Hid (nX code os (sz,mg)=(s,m)):=by
    show _=_;rw[E.out,Lg];rfl
   clear E Lg;have G:dV w ((wr.setCell ⟨w.heap.size+1,0,ν⟩ (ι κ s)).setCell ⟨w.heap.size+1,1,ν⟩ (ι κ m)):=(y.setCell gN _).setCell gN _;have M:=Q1.set s m;go_wp2_with(fail);rw[X.out];obtain⟨r0,r1,_,_⟩:=M;refine aA (v:=.agg #[ι κ s,ι κ m]) (by simp[results,results231,go_sem,r0,r1]) rfl ?_;exact⟨rfl,G⟩
open Go.ChangeShapes Go.WideShapes Go.ChangeAt
theorem MP {enc:dR×dO->H} {d:DataW H} 
 (h:DataW.Trod enc eN W 0 (λ_=>true) true 35 (σ a n cap) d ps):
 ∃os:List jv,iK W a n os/\kd a cap/\n<=maxLen:=by
 obtain⟨fuel,hf⟩:=h;rcases dt underlying35 underlying276 gJ rfl rfl gJ gJ hf with⟨hcs,_⟩|⟨x,len,cp,m',n',Y,X,D0,D1,P0,P1,hcs,_,hl,hm,S,_,hx⟩
 ·simp[eZ]at hcs;obtain⟨rfl,rfl,rfl⟩:=hcs;exact⟨[],⟨rfl,.inl rfl⟩,λ_=>rfl,dS⟩
 ·simp[eZ]at hcs;obtain⟨rfl,rfl,rfl⟩:=hcs;simp at S;have each:∀i,i<n->W.cell? (x.add (i*2))=μ (ι κ (eP (Y i)))/\W.cell? (x.add (i*2+1))=μ (ι κ (eP (X i))):=by
   intro i hi;obtain⟨q1,q2,G,E⟩:=hx i dP;obtain⟨k,f0,_,_⟩:=aW underlying3 G;obtain⟨n,f1,_,_⟩:=aW underlying3 E;simp at f0 f1;exact⟨by rw[q1,f0];rfl,by rw[q2,f1];rfl⟩
  refine⟨(List.range n).map (λi=>(eP (Y i),eP (X i))),⟨gN,?_⟩,λh=>by simp at h,dP⟩;by_cases M:n=0
  ·exact .inl M
  ·obtain⟨b,off,Z⟩:=x;have hc:=(each 0 dP).1;have U:Z=ν:=by simpa[Addr.add]using cQ hc
   subst U;refine .inr ⟨b,off,rfl,λj J=> ?_⟩;have T:j<n:=by simpa using J
   have V:=each j T;rw[lW,lW]at V;simpa[Nat.add_assoc]using V
open St
structure AV where
 kind:ByteArray
 a:Int
 b:Int
 c:Int
 d:Int
 s:ByteArray
 Lh:Int
 pid:Int
 po:Option dM
 pn:Nat
 A7:Nat
 x:SV
instance:Inhabited AV:=⟨⟨fa,0,0,0,0,fa,0,0,ν,0,0,SV.zero⟩⟩
def AV.at_(v:AV)(w:dN)(b o:Nat):Prop:=
 w.cell? ⟨b,o,ν⟩=μ (.string v.kind)/\w.cell? ⟨b,o+1,ν⟩=μ (ι κ v.a)/\w.cell? ⟨b,o+2,ν⟩=μ (ι κ v.b)/\w.cell? ⟨b,o+3,ν⟩=μ (ι κ v.c)/\w.cell? ⟨b,o+4,ν⟩=μ (ι κ v.d)/\w.cell? ⟨b,o+5,ν⟩=μ (.string v.s)/\
 w.cell? ⟨b,o+6,ν⟩=μ (ι κ v.Lh)/\w.cell? ⟨b,o+7,ν⟩=μ (ι κ v.pid)/\w.cell? ⟨b,o+8,ν⟩=μ (σ v.po v.pn v.A7)/\
 w.cell? ⟨b,o+9,ν⟩=μ (ι κ v.x.own)/\w.cell? ⟨b,o+10,ν⟩=μ (ι κ v.x.seq)/\w.cell? ⟨b,o+11,ν⟩=μ (σ v.x.a v.x.n v.x.cap)
structure Du(w:dN)(a:Option dM)(n:Nat)(V:Nat->AV)(E:Nat->List jv):Prop where
 row:n=0 \/ ∃b off,a=μ ⟨b,off,ν⟩/\∀j,j<n->(V j).at_ w b (off+j*12)
 opt:∀j,j<n->iK w (V j).x.a (V j).x.n (E j)/\kd (V j).x.a (V j).x.cap/\(V j).x.n<=maxLen/\(V j).pn<=maxLen
 pk:∀j,j<n->∃os:List jv,iK w (V j).po (V j).pn os/\kd (V j).po (V j).A7/\(V j).pn<=(V j).A7
theorem AV.at_.below {v:AV} {b o:Nat} (h:v.at_ w b o)(hb:dV w w'):v.at_ w' b o:=by
 obtain⟨c0,c1,c2,c3,c4,X,V,U,T,c9,Z,Y⟩:=h;have l:=af w _ c0;have k:∀i u,w.cell? ⟨b,i,ν⟩=μ u->w'.cell? ⟨b,i,ν⟩=μ u:=λi u S=>(hb.cell (p:=⟨b,i,ν⟩) l).trans S;exact⟨k _ _ c0,k _ _ c1,k _ _ c2,k _ _ c3,k _ _ c4,k _ _ X,k _ _ V,k _ _ U,k _ _ T,k _ _ c9,k _ _ Z,k _ _ Y⟩
theorem Du.below {w w':dN} {a:Option dM} {n:Nat} {V:Nat->AV} {E:Nat->List jv} (h:Du w a n V E)(hb:dV w w'):Du w' a n V E:=by
 refine⟨?_,λj Z=>⟨(h.opt j Z).1.below hb,(h.opt j Z).2⟩,λj Z=>by obtain⟨os,o1,o2⟩:=h.pk j Z;exact⟨os,o1.below hb,o2⟩⟩;rcases h.row with Y|⟨b,off,rfl,Y⟩
 ·exact .inl Y
 ·exact .inr ⟨b,off,rfl,λj Z=>(Y j Z).below hb⟩
theorem A8 {enc:dR×dO->H} {m:Nat} {e:dR} {y:DataW H×List MemPlace} (Y:eN.underlying t=μ (.slice e))
 (Z:DataW.trod enc eN W 0 (λ_=>true) true m t [v] =μ y):∃(a:Option dM) (n cap:Nat),v=σ a n cap/\n<=maxLen/\n<=cap:=by
 rcases dc Y Z with⟨hcs,_⟩|⟨a,len,cap,m',n',D,Pl,hcs,_,hl,hm,_,_,_⟩
 ·simp at hcs;subst hcs;exact⟨ν,0,0,rfl,dS,Nat.le_refl _⟩
 ·simp at hcs;subst hcs;exact⟨μ a,len,cap,rfl,dP,hl⟩
theorem MQ {enc:dR×dO->H} {d:DataW H} 
 (h:DataW.Trod enc eN W 0 (λ_=>true) true 23 (σ a n cap) d ps):
 ∃(V:Nat->AV) (E:Nat->List jv),Du W a n V E/\n<=maxLen:=by
 obtain⟨fuel,hf⟩:=h;rcases dc underlying23 hf with⟨hcs,_⟩|⟨x,len,cp,m',n',D,Pl,hcs,_,hl,hm,Gm,_,hx⟩
 ·simp[eZ]at hcs;obtain⟨rfl,rfl,rfl⟩:=hcs;exact⟨λ_=>default,λ_=>[],⟨.inl rfl,λj Z=>dP,λj Z=>dP⟩,dS⟩
 ·simp[eZ]at hcs;obtain⟨rfl,rfl,rfl⟩:=hcs;simp at Gm;have ce:(eN).cellsOf 42=12:=gJ;rw[ce]at hx;have each:∀i,i<n->∃q:AV×List jv,(∀b off,x=⟨b,off,ν⟩->q.1.at_ W b (off+i*12))/\(W.cell? (x.add (i*12))).isSome=true/\iK W q.1.x.a q.1.x.n q.2/\kd q.1.x.a q.1.x.cap/\q.1.x.n<=maxLen/\q.1.pn<=maxLen/\∃os:List jv,iK W q.1.po q.1.pn os/\kd q.1.po q.1.A7/\q.1.pn<=q.1.A7:=by
   intro i hi;obtain⟨cs',h1,h2⟩:=hx i dP;obtain⟨_,hlen,hcell⟩:=World.cells?_some h1;obtain⟨xs,k,hk,hxy,_,Mu,Y⟩:=cN underlying42 h2
   match xs,Mu,cs',hlen with
   |[y0,y1,y2,y3,y4,y5,y6,y7],_,[v0,v1,v2,v3,v4,v5,v6,v7,v8,v9,v10,v11],_=>
    have g0:=Y 0 _ rfl;have g1:=Y 1 _ rfl;have g2:=Y 2 _ rfl;have g3:=Y 3 _ rfl;have g4:=Y 4 _ rfl;have g5:=Y 5 _ rfl;have g6:=Y 6 _ rfl;have g7:=Y 7 _ rfl;have ci:(eN).cellsOf 3=1:=gJ;have J:(eN).cellsOf 9=1:=gJ;have y:(eN).cellsOf 37=3:=gJ;have cx3:(eN).cellsOf 40=3:=gJ;have cse:(eN).cellsOf 38=1:=gJ;have cso:(eN).cellsOf 35=1:=gJ;simp[ci,J,y,cx3]at g0 g1 g2 g3 g4 g5 g6 g7;obtain⟨s0,f0,_,_⟩:=dh underlying9 g0;obtain⟨i1,f1,_,_⟩:=aW underlying3 g1;obtain⟨i2,f2,_,_⟩:=aW underlying3 g2;obtain⟨i3,f3,_,_⟩:=aW underlying3 g3;obtain⟨i4,f4,_,_⟩:=aW underlying3 g4;obtain⟨s5,f5,_,_⟩:=dh underlying9 g5;obtain⟨xp,kp,_,_,_,G,X⟩:=cN underlying37 g6;obtain⟨xq,kq,_,_,_,A,U⟩:=cN underlying40 g7
    match xp,G,xq,A with
    |[p0,p1,p2],_,[z0,z1,z2],_=>
     have e0:=X 0 _ rfl;have e1:=X 1 _ rfl;have e2:=X 2 _ rfl;have e3:=U 0 _ rfl;have e4:=U 1 _ rfl;have e5:=U 2 _ rfl;simp[ci,cse,cso]at e0 e1 e2 e3 e4 e5;obtain⟨i6,f6,_,_⟩:=aW underlying3 e0;obtain⟨i7,f7,_,_⟩:=aW underlying3 e1;obtain⟨pa,pn,A7,f8,hpn,hpc⟩:=A8 underlying35 e2;obtain⟨i9,f9,_,_⟩:=aW underlying3 e3;obtain⟨i10,S,_,_⟩:=aW underlying3 e4;obtain⟨ea,en,ec,es,f11,eo,ez,em⟩:=Js e5;simp at f0 f1 f2 f3 f4 f5 f6 f7 f9 S;subst f0 f1 f2 f3 f4 f5 f6 f7 f8 f9 S f11;obtain⟨pos,po1,po2,_⟩:=MP (a:=pa) (n:=pn) (cap:=A7) (W:=W) ⟨_,e2⟩;have pT:=hcell 0 dP;rw[Go.Deep.add_add]at pT;refine⟨(⟨s0,i1,i2,i3,i4,s5,i6,i7,pa,pn,A7,⟨i9,i10,ea,en,ec⟩⟩,es),λb off he=> ?_,by rw[show i*12+0=i*12 by omega]at pT;rw[pT];rfl,eo,ez,em,hpn,pos,po1,po2,hpc⟩;subst he;have c:=λj (Z:j<12)=>hcell j Z;simp only[lW]at c;have r:∀j,off+i*12+j=off+(i*12)+j:=λj=>rfl;exact⟨c 0 dP,c 1 dP,c 2 dP,c 3 dP,c 4 dP,c 5 dP,c 6 dP,c 7 dP,c 8 dP,c 9 dP,c 10 dP,c 11 dP⟩
  obtain⟨q,T⟩:=Go.Deep.choose_lt each;refine⟨λi=>(q i).1,λi=>(q i).2,⟨?_,λj Z=>⟨(T j Z).2.2.1,(T j Z).2.2.2.1,(T j Z).2.2.2.2.1,(T j Z).2.2.2.2.2.1⟩,λj Z=>(T j Z).2.2.2.2.2.2⟩,dP⟩;by_cases h0:n=0
  ·exact .inl h0
  ·obtain⟨b,off,M⟩:=x;obtain⟨u,hu⟩:=Option.isSome_iff_exists.1 (T 0 dP).2.1;have A6:M=ν:=by simpa[Addr.add]using cQ hu
   subst A6;exact .inr ⟨b,off,rfl,λj Z=>(T j Z).1 b off rfl⟩
theorem zT(c i:Int)(a:Option dM)(n cap:Nat)(w:dN):
 eM eN 65 #[.agg #[ι κ c,ι κ i,σ a n cap]] w λe w'=>e=ρ (.bool (decide ((n:Int)<=12)))/\dV w w':=by
 go_in
 go_wp2
 go_ret;exact⟨rfl,(aq _ _).alloc (Nat.le_refl _) _⟩
theorem CR(a:Option dM)(n cap:Nat)(V:Nat->AV)(E:Nat->List jv)(most:Int)(w:dN)(h:Du w a n V E)(hm:most<=1000):
 eM eN 16 #[σ a n cap,ι κ most] w λe w'=>(∃b:Bool,e=ρ (.bool b)/\(b=true->(n:Int)<=most/\∀j,j<n->(V j).x.n<=9/\(V j).pn<=12/\(V j).s.size<=200))/\dV w w':=by
 by_cases h0:most<(n:Int)
 ·go_in
  go_wp2
  go_ret;exact⟨⟨false,rfl,λh=>by cases h⟩,aq _ _⟩
 go_in
 go_wp2
 go_loopw [5] (λi wr=>∃k:Nat,k<=n/\i=ι κ k/\(∀j,j<k->(V j).x.n<=9/\(V j).pn<=12/\(V j).s.size<=200)/\dV w wr) (λi _=>n-(eP i).toNat)
 case atStart=>exact⟨0,Nat.zero_le _,rfl,λj M=>dP,aq _ _⟩
 case round=>
  obtain⟨k,hk,rfl,hA,U⟩:=hrel;have S:Hid _:=hA;clear hA;by_cases kc:k<n
  ·have nh:(k:Int)<(n:Int):=dP;obtain⟨_,_,D,Y⟩:=h.opt k kc;rcases h.row with h1|⟨b,off,rfl,hcs⟩
   ·omega
   have Z:Hid (∀W,dV w W->(V k).at_ W b (off+k*12)):=λW hW=>(hcs k kc).below hW;obtain⟨v,hv⟩:=fP (V k);rw[hv]at Z D Y;have Zl:Hid _:=hv;obtain⟨vk,va,vb,vc,vd,vs,Vt,Vu,Vv,G,zd,vx⟩:=v;obtain⟨xo,xq,xa,xn,xc⟩:=vx;simp only at D Y;obtain⟨c0,c1,c2,c3,c4,c5,c6,c7,c8,c9,OY,u⟩:=Z.out wr U;simp only at c5 c6 c7 c8 u;have X:=zT Vt Vu Vv G zd wr;unfold maxLen at D Y;have J:Hid _:=U;clear hcs hv U c0 c1 c2 c3 c4 c9 OY;by_cases hs:200<(vs.size:Int)
   ·go_wp2
    go_ret;exact⟨⟨false,rfl,λh=>by cases h⟩,J.out⟩
   ·by_cases hp:(G:Int)<=12
    ·rw[dG hp]at X;go_wp2_with(fail);refine X.mono ?_;rintro e w1 ⟨rfl,k1⟩;have y:=gD J.out k1;obtain⟨_,_,_,_,_,_,_,_,_,_,_,A⟩:=Z.out w1 y;simp only at A;have T:Hid _:=y;clear X k1 y c5 c6 c7 c8 u;by_cases h9:9<(xn:Int)
     ·go_wp2
      go_ret;exact⟨⟨false,rfl,λh=>by cases h⟩,T.out⟩
     ·go_wp2
      go_roundw
      case rel=>
       refine⟨k+1,dP,by go_num,λj M=> ?_,T.out⟩;by_cases SL:j=k
       ·rw[SL,Zl.out];show xn<=9/\G<=12/\vs.size<=200;omega
       ·exact S.out j dP
      case measure=>simp[eP];omega
    ·rw[cT hp]at X;go_wp2_with(fail);refine X.mono ?_;rintro e w1 ⟨rfl,k1⟩;have T:Hid _:=gD J.out k1;clear X k1
     go_wp2
     go_ret;exact⟨⟨false,rfl,λh=>by cases h⟩,T.out⟩
  ·have zN:¬(k:Int)<(n:Int):=dP
   go_wp2
   go_ret
   first|exact⟨.inr ⟨rfl,λj M=>S.out j dP⟩,U⟩|exact⟨⟨true,rfl,λ_=>⟨dP,λj M=>S.out j dP⟩⟩,U⟩|exact⟨.inr ⟨rfl,dP,λj M=>S.out j dP⟩,U⟩
theorem iM.setRow {w:dN} {B:Nat} {C D:Array dO} {t:dR} (h:iM w B C t):iM (w.setRow B D) B D t:=by
 unfold iM at*;simp only[fc];rw[cu,ag rfl,h];rfl
theorem nK {a:dN} (h:Below n w a)(hB:n<=B)(D:Array dO):Below n w (a.setRow B D):=by
 refine⟨h.os,h.tape,h.output,by simpa[fc]using h.size,λi hi=> ?_⟩;rw[<-h.block i hi];simp only[fc];rw[cu,ae dP]
theorem iM.PG {C D:Array dO} (h:iM w B C t)(Z:B≠B'):iM (w.setRow B' D) B C t:=by
 unfold iM at*;simp only[fc];rw[cu,ae (λe=>Z e.symm)];exact h
section
variable {P:Program}
theorem iM.loadAt {w:dN} {B:Nat} {C:Array dO} {t:dR} (h:iM w B C t)(n:Nat)(e:dR)(Z:P.underlying t=μ (.array n e))(hi:(P.info? t).map (·.size)=μ C.size):(fe t (π (μ ⟨B,0,ν⟩))).run P w=.ok (.agg C) w:=by
 simp only[fe,fh,fj,fk,fq];exact bI w B t t C (0,0) _ h Z rfl hi
theorem iM.storeAt {w:dN} {B:Nat} {C D:Array dO} {t:dR} (h:iM w B C t)(hs:C.size=D.size)(hi:(P.info? t).map (·.size)=μ D.size)(Z:D.all (·.oneCell')=true):(ft t (π (μ ⟨B,0,ν⟩)) (.agg D)).run P w=.ok () (w.setRow B D):=by
 simp only[ft,fh,fj,fk,fq];exact run_storeVar_row w B t t C D h hi hs Z
theorem mV(w:dN) {a:Act} (Z:o.guard=ν)(x:Operand)(t:dR)(X:o.op=.load t x)
 (B:Nat) (C:Array dO) (n:Nat) (e:dR) (hx:a.eval x=π (μ ⟨B,0,ν⟩)) (hb:iM w B C t) (U:P.underlying t=μ (.array n e)) (hi:(P.info? t).map (·.size)=μ C.size)
 (h:wpList P ops Q rest (a.put o.dst (.agg C)) w):wpList P ops Q (o::rest) a w:=by
 refine wpList_plain Z λK Y=> ?_;have V:=hb.loadAt n e U hi;unfold Oper.wp execOp;simp only[X,fj,fk,dZ,hx,V];exact Y _ _ h
theorem lp(w:dN) {a:Act} (Z:o.guard=ν)(x y:Operand)(t:dR)(V:o.op=.store t x y)
 (B:Nat) (C D:Array dO) (hx:a.eval x=π (μ ⟨B,0,ν⟩)) (hy:a.eval y=.agg D) (hb:iM w B C t) (hs:C.size=D.size) (hi:(P.info? t).map (·.size)=μ D.size) (Y:D.all (·.oneCell')=true)
 (h:wpList P ops Q rest (a.put o.dst undef) (w.setRow B D)):wpList P ops Q (o::rest) a w:=by
 refine wpList_plain Z λK X=> ?_;have U:=hb.storeAt hs hi Y;unfold Oper.wp execOp;simp only[V,fj,fk,dZ,hx,hy,U];exact X _ _ h
end
abbrev mK:=Nat->Nat->Int
def gC(C:mK):Array dO:=(fA 49).map λi=>ι κ (C (i/7) (i%7))
theorem oJ(C:mK):(gC C).size=49:=by simp[gC]
theorem Gp(C:mK)(i:Nat)(h:i<49):(gC C)[i]? =μ (ι κ (C (i/7) (i%7))):=by simp[gC,h]
theorem yj(C:mK)(a b:Nat)(ha:a<7)(hb:b<7):(gC C)[a*7+b]? =μ (ι κ (C a b)):=by
 rw[Gp C _ dP];rw[show(a*7+b)/7=a by omega,show(a*7+b) %7=b by omega]
def xb(C:mK)(a b:Nat)(v:Int):mK:=λx y=>if x=a/\y=b then v else C x y
theorem PH(C:mK)(a b:Nat)(v:Int)(hb:b<7):(gC C).setIfInBounds (a*7+b) (ι κ v)=gC (xb C a b v):=by
 apply bq;intro i;rw[aX];by_cases hi:i<49
 ·rw[Gp _ i hi,Gp _ i hi,oJ];by_cases e:a*7+b=i
  ·rw[ag e,ag dP];have Z:i/7=a:=dP;have Y:i%7=b:=dP;simp[xb,Z,Y]
  ·rw[ae e];have:¬(i/7=a/\i%7=b):=dP;simp only[xb,if_neg this]
 ·have hs:∀D:mK,(gC D)[i]? =ν:=λD=>aV (by rw[oJ];omega);rw[hs,hs];split
  ·rw[ae (by rw[oJ];omega)]
  ·rfl
theorem Jt(C:mK):(gC C).all (·.oneCell')=true:=by
 rw[bR];intro v hv;obtain⟨i,_,rfl⟩:=fB.1 hv;rfl
structure HP where
 dst:Int
 far:Int
 tf:Int
def HP.zero:HP:=⟨0,0,0⟩
def Gq(H:Nat->HP)(i:Nat):dO:=ι κ (if i%3=0 then(H (i/3)).dst else if i%3=1 then(H (i/3)).far else(H (i/3)).tf)
def hC(H:Nat->HP):Array dO:=(fA 21).map (Gq H)
theorem rh(H:Nat->HP):(hC H).size=21:=by simp[hC]
theorem Ba(H:Nat->HP)(i:Nat)(h:i<21):(hC H)[i]? =μ (Gq H i):=by simp[hC,h]
theorem EK(H:Nat->HP)(n:Nat)(hn:n<7):(hC H)[n*3]? =μ (ι κ (H n).dst)/\(hC H)[n*3+1]? =μ (ι κ (H n).far)/\(hC H)[n*3+2]? =μ (ι κ (H n).tf):=by
 rw[Ba _ _ dP,Ba _ _ dP,Ba _ _ dP];unfold Gq;rw[show n*3%3=0 by omega,show n*3/3=n by omega,show(n*3+1) %3=1 by omega,show(n*3+1)/3=n by omega,show(n*3+2) %3=2 by omega,show(n*3+2)/3=n by omega];exact⟨rfl,rfl,rfl⟩
theorem PI(H:Nat->HP):(hC H).all (·.oneCell')=true:=by
 rw[bR];intro v hv;obtain⟨i,_,rfl⟩:=fB.1 hv;rfl
def Bc(H:Nat->HP)(n:Nat)(p:HP):Nat->HP:=λx=>if x=n then p else H x
theorem PJ(H:Nat->HP)(n:Nat)(p:HP)(hn:n<7):(((hC H).setIfInBounds (n*3) (ι κ p.dst)).setIfInBounds (n*3+1) (ι κ p.far)).setIfInBounds (n*3+2) (ι κ p.tf)=hC (Bc H n p):=by
 apply bq;intro i;rw[aX,aX,aX];simp only[Array.size_setIfInBounds,rh];by_cases hi:i<21
 ·rw[Ba _ i hi,Ba _ i hi];unfold Gq;by_cases e:i/3=n
  ·have Y:Bc H n p (i/3)=p:=by simp[Bc,e]
   rw[Y];rcases(show i%3=0 \/i%3=1 \/i%3=2 by omega)with Z|Z|Z
   ·rw[ae (show¬n*3+2=i by omega),ae (show¬n*3+1=i by omega),ag (show n*3=i by omega),ag dP,ag Z]
   ·rw[ae (show¬n*3+2=i by omega),ag (show n*3+1=i by omega),ag dP,ae dP,ag Z]
   ·rw[ag (show n*3+2=i by omega),ag dP,ae dP,ae dP]
  ·have Y:Bc H n p (i/3)=H (i/3):=by simp[Bc,e]
   rw[Y,ae (show¬n*3+2=i by omega),ae (show¬n*3+1=i by omega),ae (show¬n*3=i by omega)]
 ·have hs:∀D:Nat->HP,(hC D)[i]? =ν:=λD=>aV (by rw[rh];omega);rw[hs,hs,ae (show¬n*3+2=i by omega),ae (show¬n*3+1=i by omega),ae (show¬n*3=i by omega)]
theorem Li:(eN.info? 256).map (λi=>(i.zero,i.size))=μ (μ (.agg (gC λ_ _=>0)),49):=gJ
theorem Lj:(eN.info? 259).map (λi=>(i.zero,i.size))=μ (μ (.agg (hC λ_=>HP.zero)),21):=gJ
theorem yk(w:dN):(zeroValue 256).run eN w=.ok (.agg (gC λ_ _=>0)) w:=(bS Li).1 w
theorem Gr(w:dN):(zeroValue 259).run eN w=.ok (.agg (hC λ_=>HP.zero)) w:=(bS Lj).1 w
theorem uR:(eN.info? 256).map (·.size)=μ 49:=(bS Li).2
theorem EL:(eN.info? 259).map (·.size)=μ 21:=(bS Lj).2
structure PL(w:dN)(a:Option dM)(n:Nat)(L:List HP):Prop where
 len:L.length=n
 row:n=0 \/ ∃b off,a=μ ⟨b,off,ν⟩/\∀j h,L[j]? =μ h->w.cell? ⟨b,off+j*3,ν⟩=μ (ι κ h.dst)/\w.cell? ⟨b,off+j*3+1,ν⟩=μ (ι κ h.far)/\w.cell? ⟨b,off+j*3+2,ν⟩=μ (ι κ h.tf)
theorem PL.below {L:List HP} (h:PL w a n L)(hb:dV w w'):PL w' a n L:=by
 refine⟨h.len,?_⟩;rcases h.row with Z|⟨b,off,rfl,Z⟩
 ·exact .inl Z
 ·refine .inr ⟨b,off,rfl,λj s e=> ?_⟩;obtain⟨c1,c2,c3⟩:=Z j s e;have l:=af w _ c1;exact⟨(hb.cell (p:=⟨b,off+j*3,ν⟩) l).trans c1,(hb.cell (p:=⟨b,off+j*3+1,ν⟩) l).trans c2,(hb.cell (p:=⟨b,off+j*3+2,ν⟩) l).trans c3⟩
structure Zm(w w':dN)(a:Option dM)(n:Nat)(L:List HP):Prop where
 r:PL w' a n L
 nw:∀x,a=μ x->w.heap.size<=x.block
def vS(L:List HP)(n:Int):Nat->Option Nat
 |0=>none
 |k+1=>match vS L n k with|some i=>some i|none=>(match L[k]? with|some h=>if h.dst=n then some k else none|none=>none)
def WJ:Option Nat->Int
 |none=> -1
 |some i=>(i:Int)
theorem PN(pd pf V x:Int)(X:Nat)(w:dN)(Z:w.cell? ⟨X,0,ν⟩=μ (ι κ x)):
 eM eN 219 #[.agg #[ι κ pd,ι κ pf,ι κ V],π (μ ⟨X,0,ν⟩)] w λe w'=>e=ρ (.bool (pd==x))/\dV w w':=by
 have U:X<w.heap.size:=af w _ Z;have Y:=gM w (γ #[ι κ pd,ι κ pf,ι κ V] 98);have pU:=(Y.cell (p:=⟨X,0,ν⟩) U).trans Z
 go_in
 go_wp2
 go_ret;exact⟨rfl,Y⟩
theorem CT(a:Option dM)(n cap:Nat)(L:List HP)(x:Int)(X:Nat)(w:dN)(h:PL w a n L)(hn:n<=1000)(y:w.cell? ⟨X,0,ν⟩=μ (ι κ x)):
 eM eN 218 #[σ a n cap,.func (.func 219) #[] #[π (μ ⟨X,0,ν⟩)]] w λe w'=>e=ρ (ι κ (WJ (vS L x n)))/\dV w w':=by
 go_in
 go_wp2
 go_loopw [8] (λv wr=>∃k:Nat,k<=n/\v=ι κ k/\vS L x k=ν/\dV w wr) (λv _=>n-(eP v).toNat)
 case atStart=>exact⟨0,Nat.zero_le _,rfl,rfl,aq _ _⟩
 case round=>
  obtain⟨k,hk,rfl,A,T⟩:=hrel;have D:Hid _:=A;clear A;by_cases kc:k<n
  ·have nh:(k:Int)<(n:Int):=dP;have u:=h.below T;have hl:=h.len;rcases u.row with h1|⟨b,off,rfl,hc⟩
   ·omega
   have M:L[k]? =μ (L[k]'(by omega)):=av dP;obtain⟨c0,c1,c2⟩:=hc k _ M;have S:Hid (vS L x (k+1)=if(L[k]'(by omega)).dst=x then μ k else ν):=by
    show _=_;simp only[vS,D.out,M]
   generalize L[k]'(by omega)=p at c0 c1 c2 S M;obtain⟨pd,pf,px⟩:=p;simp only at c0 c1 c2 S;have j:X<w.heap.size:=af w _ y;have Y:=PN pd pf px x X wr ((T.cell (p:=⟨X,0,ν⟩) j).trans y);have E:Hid _:=T;clear hc u M T;by_cases Z:pd=x
   ·have U:(pd==x)=true:=by simpa using Z
    rw[U]at Y;have V:Hid (vS L x n=μ k):=by
     have mono:∀d,vS L x (k+1+d)=μ k:=by
      intro d
      induction d with
      |zero=>rw[Nat.add_zero,S.out,ag Z]
      |succ d ih=>rw[<-Nat.add_assoc];simp only[vS,ih]
     have:=mono (n-(k+1))
     rwa [show k+1+(n-(k+1))=n by omega]at this
    clear Z U;go_wp2_with(fail);refine Y.mono ?_;rintro e w1 ⟨rfl,k1⟩;have J:Hid _:=gD E.out k1;clear Y k1
    go_wp2
    go_ret;exact⟨by rw[V.out];rfl,J.out⟩
   ·have U:(pd==x)=false:=by simpa using Z
    rw[U]at Y;have V:Hid (vS L x (k+1)=ν):=by show _=_;rw[S.out,ae Z]
    clear Z U;go_wp2_with(fail);refine Y.mono ?_;rintro e w1 ⟨rfl,k1⟩;have J:Hid _:=gD E.out k1;clear Y k1
    go_wp2
    go_roundw
    case rel=>exact⟨k+1,dP,by go_num,V.out,J.out⟩
    case measure=>simp[eP];omega
  ·have zN:¬(k:Int)<(n:Int):=dP;have G:k=n:=dP;have V:Hid (vS L x n=ν):=by rw[<-G];exact D.out
   clear G
   go_wp2
   go_ret;exact⟨by rw[V.out];rfl,T⟩
def ym(L:List HP)(n:Int):Option HP:=L.find? λh=>h.dst==n
theorem Dw(L:List HP)(n:Int):∀k,k<=L.length->(match vS L n k with|some i=>i<k/\L[i]? =ym (L.take k) n/\(ym (L.take k) n).isSome=true|none=>ym (L.take k) n=none)
 |0,_=>by simp[vS,ym]
 |k+1,hk=>by
  have ih:=Dw L n k dP;have X:ym (L.take (k+1)) n=(ym (L.take k) n).or (if(L[k]'(by omega)).dst=n then μ (L[k]'(by omega))else ν):=by
   unfold ym;rw[aw dP,List.find?_append];congr 1;by_cases e:(L[k]'(by omega)).dst=n<;>simp[e]
  simp only[vS];cases hi:vS L n k with
  |some i=>
   rw[hi]at ih;obtain⟨h1,Z,Y⟩:=ih;simp only;rw[X];cases e:ym (L.take k) n with
   |none=>rw[e]at Y;cases Y
   |some q=>rw[e]at Z;exact⟨dP,by simpa using Z,rfl⟩
  |none=>
   rw[hi]at ih;simp only at ih⊢;have V:L[k]? =μ (L[k]'(by omega)):=av dP;rw[X,ih,V];by_cases e:(L[k]'(by omega)).dst=n
   ·simp[e]
   ·simp[e]
theorem WK(a:Option dM)(n cap:Nat)(L:List HP)(x:Int)(w:dN)(h:PL w a n L)(hn:n<=1000):
 eM eN 199 #[σ a n cap,ι κ x] w λe w'=>e=ρ (τ #[.agg #[ι κ ((ym L x).getD HP.zero).dst,ι κ ((ym L x).getD HP.zero).far,ι κ ((ym L x).getD HP.zero).tf],.bool (ym L x).isSome])/\dV w w':=by
 obtain⟨U,V⟩:=fP ((w.alloc (γ #[ι κ x] 3)).alloc (γ #[ι κ 0,ι κ 0,ι κ 0] 98));have E:dV w U:=by rw[<-V];exact(gM _ _).alloc gN _
 have hX:iM U w.heap.size #[ι κ x] 3:=by rw[<-V];exact(iM.new w _ _).below (gM _ _)
 have hY:iM U (w.heap.size+1) #[ι κ 0,ι κ 0,ι κ 0] 98:=by rw[<-V];exact iM.F8 _ _ _ _ gN
 have X:=CT a n cap L x w.heap.size U (h.below E) hn (hX.cell 0);have Y:=Dw L x L.length (Nat.le_refl _);rw[cR,h.len]at Y;have j:Hid _:=V;clear V
 go_in
 go_wp2_with(fail);rw[j.out];refine X.mono ?_;rintro e A ⟨rfl,k2⟩;have Z:=hY.below k2;have D:=gD E k2;have y0:A.cell? ⟨w.heap.size+1,0,ν⟩=μ (ι κ 0):=Z.cell 0;have y1:A.cell? ⟨w.heap.size+1,1,ν⟩=μ (ι κ 0):=Z.cell 1;have y2:A.cell? ⟨w.heap.size+1,2,ν⟩=μ (ι κ 0):=Z.cell 2;have f0:=Z.frozen 0;have f1:=Z.frozen 1;have f2:=Z.frozen 2;have lY:=Z.lt;have G:=h.below D;have HY2:Hid _:=Z;have y:Hid _:=D;clear X hX hY k2 E j Z D;cases hi:vS L x n with
 |none=>
  rw[hi]at Y;simp only at Y;have M:Hid ((ym L x).getD HP.zero=HP.zero):=by show _=_;rw[Y];rfl
  have J:Hid ((ym L x).isSome=false):=by show _=_;rw[Y];rfl
  have hv:WJ ν= -1:=rfl;rw[hv];clear Y G hv;go_wp2_with(fail);refine aA (v:=τ #[.agg #[ι κ 0,ι κ 0,ι κ 0],.bool false]) (by simp[results,results199,go_sem,y0,y1,y2]) rfl ?_;exact⟨by rw[M.out,J.out];rfl,a8 (a8 (a8 y.out (by show w.heap.size<=w.heap.size+1;omega) _) (by show w.heap.size<=w.heap.size+1;omega) _) (by show w.heap.size<=w.heap.size+1;omega) _⟩
 |some i=>
  rw[hi]at Y;obtain⟨h1,T,u⟩:=Y;have kV:(i:Int)<(n:Int):=dP;have Jv:¬(i:Int)<0:=dP;obtain⟨p,S⟩:∃p,ym L x=μ p:=Option.isSome_iff_exists.1 u;rw[S]at T;have M:Hid ((ym L x).getD HP.zero=p):=by show _=_;rw[S];rfl
  have J:Hid ((ym L x).isSome=true):=by show _=_;rw[S];rfl
  have hv:WJ (μ i)=(i:Int):=rfl;rw[hv];clear hv;rcases G.row with e|⟨b,off,rfl,hc⟩
  ·omega
  obtain⟨c0,c1,c2⟩:=hc i p T;obtain⟨pd,pf,px⟩:=p;simp only at c0 c1 c2;have jq:b≠w.heap.size+1:=by
   rcases h.row with e|⟨b',WA,e',kh⟩
   ·omega
   ·cases e';have:=af w _ (kh i _ T).1;simp only at this;omega
  clear h1 T u S hc G;go_wp2_with(fail);refine aA (v:=τ #[.agg #[ι κ pd,ι κ pf,ι κ px],.bool true]) (by simp[results,results199,go_sem,y0,y1,y2]) rfl ?_;exact⟨by rw[M.out,J.out],a8 (a8 (a8 y.out (by show w.heap.size<=w.heap.size+1;omega) _) (by show w.heap.size<=w.heap.size+1;omega) _) (by show w.heap.size<=w.heap.size+1;omega) _⟩
def yn(C:mK)(o:Nat)(es:List jv):mK:=es.foldl (λC e=>xb C o e.1.toNat e.2) C
theorem MR(C:mK)(o:Nat)(es:List jv)(k:Nat)(h:k<es.length):yn C o (es.take (k+1))=xb (yn C o (es.take k)) o (es[k].1.toNat) (es[k].2):=by
 unfold yn;rw[aw h,cO];rfl
def kZ(S:Nat->SV)(E:Nat->List jv):Nat->mK
 |0=>λ_ _=>0
 |i+1=>yn (kZ S E i) (S i).own.toNat (E i)
theorem MS(a:Option dM)(n cap:Nat)(S:Nat->SV)(E:Nat->List jv)(w:dN)(h:vm w a n S E)(hn:n<=1000)(iC:∀j,j<n->ox (S j).own (S j).seq (E j)=0):
 eM eN 162 #[σ a n cap] w λe w'=>e=ρ (.agg (gC (kZ S E n)))/\dV w w':=by
 have hz:=yk;have PO:Hid _:=iC;clear iC;obtain⟨Z,hZ⟩:=fP (gC (λ_ _=>0));rw[hZ]at hz
 go_in
 go_wp2_with(fail);obtain⟨W0,mL⟩:=fP ((w.alloc (γ Z 256)).alloc (γ Z 256));have vT:dV w W0:=by rw[<-mL];exact(gM _ _).alloc gN _
 have Ak:iM W0 w.heap.size Z 256:=by rw[<-mL];exact(iM.new w Z _).below (gM _ _)
 have vp:iM W0 (w.heap.size+1) (gC (kZ S E 0)) 256:=by rw[<-mL];show iM _ _ (gC λ_ _=>0) _;rw[hZ];exact iM.F8 _ _ _ _ gN
 rw[mL];clear mL;obtain⟨V,Gt⟩:=fP (w.heap.size);have vv:w.heap.size<=V:=dP;rw[Gt]at Ak vp;rw[Gt];clear Gt
 go_loopw [10] (λv wr=>∃i:Nat,i<=n/\v=ι κ i/\iM wr (V+1) (gC (kZ S E i)) 256/\iM wr V Z 256/\dV w wr) (λv _=>n-(eP v).toNat)
 case atStart=>exact⟨0,Nat.zero_le _,rfl,vp,Ak,vT⟩
 case round=>
  clear Ak vp vT;obtain⟨i,hi,rfl,T,M,U⟩:=hrel;by_cases kc:i<n
  ·have nh:(i:Int)<(n:Int):=dP;have hw:=h.below U;obtain⟨ho,l8,hx⟩:=hw.opt i kc;have iJ:=hw.row;rcases iJ with h1|⟨sb,off,rfl,hcs⟩
   ·omega
   obtain⟨c0,c1,c2⟩:=hcs i kc;have J:=PO.out i kc;have HOW:=(h.opt i kc).1;have HT:Hid (kZ S E (i+1)=yn (kZ S E i) (S i).own.toNat (E i)):=rfl;obtain⟨s,hs⟩:=fP (S i);obtain⟨es,he⟩:=fP (E i);rw[hs]at c0 c1 c2 ho l8 hx J HT HOW;rw[he]at ho J HT HOW;clear hs he hcs hw;obtain⟨so,sq,sa,sn,A⟩:=s;simp only at c0 c1 c2 ho l8 hx J HT HOW;have WL:=(jk J).1;obtain⟨o,rfl⟩:∃o:Nat,so=(o:Int):=⟨so.toNat,dP⟩
   rw[Int.toNat_natCast]at HT;have Zn:=qF _ es 0 (jk J).2.2.2;have HES:Hid _:=Zn;have HOL:=ho.1;have hsn:sn<=6:=by have:=(jk J).2.2.1;omega
   have WM:=U.alloc U.size (γ #[ι κ (o:Int),ι κ sq,σ sa sn A] 40);have qG:=yi (o:Int) sq sa sn A es _ hx (HOW.below WM);have tg:Hid (iP (ox (o:Int) sq es)=η):=by show _=_;rw[J];rfl
   rw[tg.out]at qG;have D:=iM.new wr #[ι κ (o:Int),ι κ sq,σ sa sn A] 40;have hG2:=T.below (gM wr (γ #[ι κ (o:Int),ι κ sq,σ sa sn A] 40));have Zo:=M.below (gM wr (γ #[ι κ (o:Int),ι κ sq,σ sa sn A] 40));have Hba:Hid _:=WM;have Hwl:Hid (V+1<wr.heap.size):=T.lt;have Hlw:Hid _:=U.size;have HX:Hid _:=D;have HG2:Hid _:=hG2;have HZ2:Hid _:=Zo;clear Zn J U T M D hG2 Zo ho l8 hx WM;go_wp2_with(fail);refine qG.mono ?_;rintro e w1 ⟨rfl,k1⟩;have y:=iM.below HX.out k1;have u:Hid _:=iM.below HG2.out k1;have HZ1:Hid _:=iM.below HZ2.out k1;have Hb1:Hid _:=gD Hba.out k1;obtain⟨X,I6⟩:=fP (wr.heap.size);rw[I6]at y;have aeG:Hid (V+1<X):=by show _<_;rw[<-I6];exact Hwl.out
   have ajF:Hid (w.heap.size<=X):=by show _<=_;rw[<-I6];exact Hlw.out
   rw[I6];have x0:w1.cell? ⟨X,0,ν⟩=μ (ι κ (o:Int)):=y.cell 0;have x1:w1.cell? ⟨X,1,ν⟩=μ (ι κ sq):=y.cell 1;have x2:w1.cell? ⟨X,2,ν⟩=μ (σ sa sn A):=y.cell 2;have HX1:Hid _:=y;clear qG k1 I6 y HX HG2 HZ2 Hba Hwl Hlw c0 c1 c2;go_wp2_with(fail);obtain⟨W1,rfl⟩:∃W1,W1=w1:=⟨_,rfl⟩
   clear x0 x1 x2
   go_loopw [20] (λv wr=>∃k:Nat,k<=sn/\v=ι κ k/\iM wr (V+1) (gC (yn (kZ S E i) o (es.take k))) 256/\iM wr V Z 256/\iM wr X #[ι κ (o:Int),ι κ sq,σ sa sn A] 40/\dV w wr) (λv _=>sn-(eP v).toNat)
   case atStart=>exact⟨0,Nat.zero_le _,rfl,u.out,HZ1.out,HX1.out,Hb1.out⟩
   case round=>
    clear u HZ1 HX1 Hb1;obtain⟨k,hk,rfl,T,M,D,U⟩:=hrel;by_cases Gs:k<sn
    ·have aeH:(k:Int)<(sn:Int):=dP;have hoe:=HOW.below U;rcases hoe.2 with h1|⟨eb,ajG,rfl,hec⟩
     ·omega
     obtain⟨d0,d1⟩:=hec k dP;have Gv:=HES.out _ (aD (show k<es.length by omega));have HP:Hid (yn (kZ S E i) o (es.take (k+1))=xb (yn (kZ S E i) o (es.take k)) o ((es[k]'(by omega)).1.toNat) ((es[k]'(by omega)).2)):=MR _ o es k dP;obtain⟨p,hp⟩:=fP (es[k]'(by omega));rw[hp]at d0 d1 Gv HP;obtain⟨pt,pm⟩:=p;simp only at d0 d1 Gv HP;obtain⟨t,rfl⟩:∃t:Nat,pt=(t:Int):=⟨pt.toNat,dP⟩
     rw[Int.toNat_natCast]at HP;obtain⟨G,mW⟩:=fP (wr.alloc (γ #[ι κ (t:Int),ι κ pm] 123));have kb:dV wr G:=by rw[<-mW];exact gM _ _
     have hY:iM G wr.heap.size #[ι κ (t:Int),ι κ pm] 123:=by rw[<-mW];exact iM.new _ _ _
     have WN:=T.below kb;have ya:=D.below kb;have Hb3:Hid _:=gD U kb;have HZ3:Hid _:=M.below kb;have Tx:Hid _:=mW;clear hec hp hoe mW;obtain⟨Y,MT⟩:=fP (wr.heap.size);have HYl:Hid (X<Y):=by show _<_;rw[<-MT];exact D.lt
     rw[MT]at hY;have HYe:Hid _:=MT;clear MT kb T D M U;have y0:G.drew.cell? ⟨Y,0,ν⟩=μ (ι κ (t:Int)):=hY.cell 0;have y1:G.drew.cell? ⟨Y,1,ν⟩=μ (ι κ pm):=hY.cell 1;have z0:G.drew.cell? ⟨X,0,ν⟩=μ (ι κ (o:Int)):=ya.cell 0;have g0:G.drew.cell? ⟨V+1,o*7+t,ν⟩=μ (ι κ (yn (kZ S E i) o (es.take k) o t)):=(WN.cell _).trans (yj _ o t dP dP);have g1:G.drew.frozen? ⟨V+1,o*7+t,ν⟩=false:=WN.frozen _;have o7:(o:Int)<7:=dP;have t7:(t:Int)<7:=dP;have Zq:Hid _:=WN;have HX3:Hid _:=ya;have HY3:Hid _:=hY;clear WN ya hY Gv WL
     go_upto_region 9 with fail
     rw[Tx.out,HYe.out]
     go_region
     all_goals
      go_wp2
      go_roundw
      case rel=>
       have jq:X≠V+1:=by have:=aeG.out;omega
       refine⟨k+1,dP,by go_num,?_,?_,?_,?_⟩
       ·rw[HP.out,<-PH _ o t pm dP];exact iM.set Zq.out _ _
       ·exact iM.other HZ3.out dP _
       ·exact iM.other HX3.out jq _
       ·exact below_drewN (a8 Hb3.out (by show w.heap.size<=V+1;omega) _) 1
      case measure=>simp[eP];omega
    ·have zN:¬(k:Int)<(sn:Int):=dP;have HG:Hid _:=T;have HZ:Hid _:=M;have HB:Hid _:=U;clear T M D U
     go_wp2
     go_roundw
     case rel=>
      refine⟨i+1,dP,by go_num,?_,HZ.out,HB.out⟩;have e1:es.take k=es:=aC dP;rw[HT.out,<-e1];exact HG.out
     case measure=>simp[eP];omega
  ·have oE:i=n:=dP;subst oE;have zN:¬(i:Int)<(i:Int):=dP;clear kc;obtain⟨g,hg⟩:=fP (gC (kZ S E i));have gs:g.size=49:=by rw[<-hg];exact oJ _
   have g1:g.all (·.oneCell')=true:=by rw[<-hg];exact Jt _
   have zs:Z.size=49:=by rw[<-hZ];exact oJ _
   rw[hg]at T;have Zr:Hid (g=gC (kZ S E i)):=hg.symm;have hR:iM (wr.setRow V g) V g 256:=M.setRow;have l6:=bI (P:=eN) (wr.setRow V g) V 256 256 g (0,0) _ hR underlying256 rfl (by rw[gs];exact uR);have HBE:Hid (dV w (wr.setRow V g)):=nK U vv g;have tO:(eN.info? 256).map (·.size)=μ g.size:=by rw[gs];exact uR
   have pY:Z.size=g.size:=by rw[gs,zs]
   clear hR hg hZ U;go_wp2_with(first
    |refine mV _ rfl (.tmp 3) 256 rfl (V+1) g _ _ rfl T underlying256 tO ?_
    |refine lp _ rfl (.tmp 2) (.tmp 34) 256 rfl V Z g rfl rfl M pY tO g1 ?_)
   refine aA (v:=.agg g) (by simp[results,results162,asAddr,l6]) rfl ?_;exact⟨by rw[Zr.out],HBE.out⟩
theorem tP {C D:mK} (h:∀x y,x<7->y<7->C x y=D x y):gC C=gC D:=by
 apply bq;intro i;by_cases hi:i<49
 ·rw[Gp _ i hi,Gp _ i hi,h (i/7) (i%7) dP dP]
 ·rw[aV (by rw[oJ];omega),aV (by rw[oJ];omega)]
def nY(C:mK):mK:=λx y=>if 0<C y x then C x y else 0
def FN(C:mK)(a b:Nat):mK:=λx y=>if x<a \/(x=a/\y<b)then nY C x y else 0
theorem PQ(C:mK)(a b:Nat):gC (FN C a (b+1))=gC (xb (FN C a b) a b (nY C a b)):=by
 refine tP λx y hx hy=> ?_;simp only[FN,xb];by_cases Z:x=a/\y=b
 ·rw[ag Z,ag dP,Z.1,Z.2]
 ·rw[ae Z];by_cases Y:x<a \/(x=a/\y<b)
  ·rw[ag Y,ag dP]
  ·rw[ae Y,ae dP]
theorem PR(C:mK)(a b:Nat)(h:nY C a b=0):gC (FN C a (b+1))=gC (FN C a b):=by
 refine tP λx y hx hy=> ?_;simp only[FN];by_cases Z:x=a/\y=b
 ·rw[ag dP,ae dP,Z.1,Z.2,h]
 ·by_cases Y:x<a \/(x=a/\y<b)
  ·rw[ag Y,ag dP]
  ·rw[ae Y,ae dP]
theorem Tz(C:mK)(a:Nat):gC (FN C a 7)=gC (FN C (a+1) 0):=by
 refine tP λx y hx hy=> ?_;simp only[FN];by_cases Z:x<a \/(x=a/\y<7)
 ·rw[ag Z,ag dP]
 ·rw[ae Z,ae dP]
theorem PT(C:mK)(w:dN):
 eM eN 163 #[.agg (gC C)] w λe w'=>e=ρ (.agg (gC (nY C)))/\dV w w':=by
 have hz:=yk;obtain⟨Z,j⟩:=fP (gC (λ_ _=>0));rw[j]at hz;obtain⟨c,hc⟩:=fP (gC C);rw[hc]
 go_in
 go_wp2_with(fail);obtain⟨A,D⟩:=fP (((w.alloc (γ c 256)).alloc (γ Z 256)).alloc (γ Z 256));have vT:dV w A:=by rw[<-D];exact((gM _ _).alloc gN _).alloc (by simp;omega) _
 have Ak:iM A w.heap.size c 256:=by rw[<-D];exact((iM.new w c _).below (gM _ _)).below (gM _ _)
 have vp:iM A (w.heap.size+1) Z 256:=by rw[<-D];exact(iM.F8 _ Z _ _ gN).below (gM _ _)
 have CK:iM A (w.heap.size+2) (gC (FN C 0 0)) 256:=by
  rw[<-D];have:gC (FN C 0 0)=Z:=by rw[<-j];exact tP λx y _ _=>by simp[FN]
  rw[this];exact iM.F8 _ _ _ _ gN
 rw[D];clear D;obtain⟨Y,Gt⟩:=fP (w.heap.size);have vv:w.heap.size<=Y:=dP;rw[Gt]at Ak vp CK;rw[Gt];clear Gt
 go_loopw [6] (λv wr=>∃a:Nat,a<=7/\v=ι κ a/\iM wr (Y+2) (gC (FN C a 0)) 256/\iM wr Y c 256/\iM wr (Y+1) Z 256/\dV w wr) (λv _=>7-(eP v).toNat)
 case atStart=>exact⟨0,dP,rfl,CK,Ak,vp,vT⟩
 case round=>
  clear Ak vp CK vT;obtain⟨a,ha,rfl,X,V,U,T⟩:=hrel;by_cases E:a<7
  ·have aeJ:(a:Int)<7:=dP;have J:Hid _:=X;have S:Hid _:=V;have G:Hid _:=U;have M:Hid _:=T;clear X V U T
   go_wp2
   go_loopw [9] (λv wr=>∃b:Nat,b<=7/\v=ι κ b/\iM wr (Y+2) (gC (FN C a b)) 256/\iM wr Y c 256/\iM wr (Y+1) Z 256/\dV w wr) (λv _=>7-(eP v).toNat)
   case atStart=>exact⟨0,dP,rfl,J.out,S.out,G.out,M.out⟩
   case round=>
    clear J S G M;obtain⟨b,hb,rfl,X,V,U,T⟩:=hrel;by_cases u:b<7
    ·have WQ:(b:Int)<7:=dP;have r1:wr.cell? ⟨Y,b*7+a,ν⟩=μ (ι κ (C b a)):=(V.cell _).trans (by rw[<-hc];exact yj C b a u E);have r2:wr.cell? ⟨Y,a*7+b,ν⟩=μ (ι κ (C a b)):=(V.cell _).trans (by rw[<-hc];exact yj C a b E u);have r3:wr.cell? ⟨Y+2,a*7+b,ν⟩=μ (ι κ (FN C a b a b)):=(X.cell _).trans (yj _ a b E u);have r4:=X.frozen (a*7+b);have J:Hid _:=X;have S:Hid _:=V;have G:Hid _:=U;have M:Hid _:=T;clear X V U T;by_cases rK:0<C b a
     ·have HS:Hid (nY C a b=C a b):=by show _=_;simp[nY,rK]
      go_wp2
      go_region
      all_goals
       go_wp2
       go_roundw
       case rel=>
        refine⟨b+1,dP,by go_num,?_,iM.other S.out dP _,iM.other G.out dP _,below_drewN (a8 M.out (by show w.heap.size<=Y+2;omega) _) 1⟩;rw[PQ,HS.out,<-PH _ a b _ u];exact iM.set J.out _ _
       case measure=>simp[eP];omega
     ·have HS:Hid (nY C a b=0):=by show _=_;simp[nY,rK]
      go_wp2
      go_roundw
      case rel=>exact⟨b+1,dP,by go_num,by rw[PR _ _ _ HS.out];exact J.out,S.out,G.out,M.out⟩
      case measure=>simp[eP];omega
    ·have WQ:¬(b:Int)<7:=dP;have Vw:b=7:=dP;have J:Hid _:=X;have S:Hid _:=V;have G:Hid _:=U;have M:Hid _:=T;clear X V U T
     go_wp2
     go_roundw
     case rel=>exact⟨a+1,dP,by go_num,by rw[<-Tz,<-Vw];exact J.out,S.out,G.out,M.out⟩
     case measure=>simp[eP];omega
  ·have aeJ:¬(a:Int)<7:=dP;have Zr:Hid (gC (FN C a 0)=gC (nY C)):=tP λx y hx hy=>by simp only[FN];rw[ag dP]
   obtain⟨g,h⟩:=fP (gC (FN C a 0));have gs:g.size=49:=by rw[<-h];exact oJ _
   have g1:g.all (·.oneCell')=true:=by rw[<-h];exact Jt _
   have zs:Z.size=49:=by rw[<-j];exact oJ _
   rw[h]at X Zr;have hR:iM (wr.setRow (Y+1) g) (Y+1) g 256:=U.setRow;have l6:=bI (P:=eN) (wr.setRow (Y+1) g) (Y+1) 256 256 g (0,0) _ hR underlying256 rfl (by rw[gs];exact uR);have HBE:Hid (dV w (wr.setRow (Y+1) g)):=nK T dP g;have tO:(eN.info? 256).map (·.size)=μ g.size:=by rw[gs];exact uR
   have pY:Z.size=g.size:=by rw[gs,zs]
   clear hR h j T V;go_wp2_with(first
    |refine mV _ rfl (.tmp 3) 256 rfl (Y+2) g _ _ rfl X underlying256 tO ?_
    |refine lp _ rfl (.tmp 2) (.tmp 29) 256 rfl (Y+1) Z g rfl rfl U pY tO g1 ?_)
   refine aA (v:=.agg g) (by simp[results,results163,asAddr,l6]) rfl ?_;exact⟨by rw[Zr.out],HBE.out⟩
theorem ze(S:Nat->SV)(E:Nat->List jv):∀n,(∀j,j<n->ox (S j).own (S j).seq (E j)=0)->∀x y,0<=kZ S E n x y/\kZ S E n x y<=20
 |0,_,x,y=>by simp[kZ]
 |n+1,h,x,y=>by
  have ih:=ze S E n (λj hj=>h j dP);have Z:=qF _ (E n) 0 (jk (h n dP)).2.2.2;simp only[kZ,yn];generalize E n=es at Z;generalize kZ S E n=C at ih
  induction es generalizing C with
  |nil=>exact ih x y
  |cons e es ihs=>
   rw[bJ];refine ihs (λq Y=>Z q (by simp[Y])) _ (λu v=> ?_);simp only[xb];have:=Z e gN;split
   ·omega
   ·exact ih u v
def m7(C:mK)(r n:Nat):Nat->HP:=λx=>if x<n/\0<C r x then⟨x,C r x,x⟩else HP.zero
theorem Be {H K:Nat->HP} (h:∀x,x<7->H x=K x):hC H=hC K:=by
 apply bq;intro i;by_cases hi:i<21
 ·rw[Ba _ i hi,Ba _ i hi];unfold Gq;rw[h (i/3) dP]
 ·rw[aV (by rw[rh];omega),aV (by rw[rh];omega)]
theorem Jw(C:mK)(r n:Nat)(h:0<C r n):hC (m7 C r (n+1))=hC (Bc (m7 C r n) n ⟨n,C r n,n⟩):=by
 refine Be λx hx=> ?_;simp only[m7,Bc];by_cases e:x=n
 ·subst e;rw[ag ⟨dP,h⟩,ag rfl]
 ·rw[ae e];by_cases Z:x<n/\0<C r x
  ·rw[ag Z,ag ⟨dP,Z.2⟩]
  ·rw[ae Z,ae (λY=>Z ⟨dP,Y.2⟩)]
theorem MU(C:mK)(r n:Nat)(h:¬0<C r n):hC (m7 C r (n+1))=hC (m7 C r n):=by
 refine Be λx hx=> ?_;simp only[m7];by_cases e:x=n
 ·subst e;rw[ae (λZ=>h Z.2),ae (λZ=>h Z.2)]
 ·by_cases Y:x<n/\0<C r x
  ·rw[ag Y,ag ⟨dP,Y.2⟩]
  ·rw[ae Y,ae (λZ=>Y ⟨dP,Z.2⟩)]
theorem MV(C:mK)(r:Nat)(hr:r<7)(w:dN):
 eM eN 164 #[.agg (gC C),ι κ (r:Int)] w λe w'=>e=ρ (.agg (hC (m7 C r 7)))/\dV w w':=by
 have hz:=Gr;obtain⟨Z,M⟩:=fP (hC (λ_=>HP.zero));rw[M]at hz;obtain⟨c,hc⟩:=fP (gC C);rw[hc];have hr7:(r:Int)<7:=dP
 go_in
 go_wp2_with(fail);obtain⟨S,V⟩:=fP (((w.alloc (γ c 256)).alloc (γ Z 259)).alloc (γ Z 259));have vT:dV w S:=by rw[<-V];exact((gM _ _).alloc gN _).alloc (by simp;omega) _
 have E:iM S w.heap.size c 256:=by rw[<-V];exact((iM.new w c _).below (gM _ _)).below (gM _ _)
 have vp:iM S (w.heap.size+1) Z 259:=by rw[<-V];exact(iM.F8 _ Z _ _ gN).below (gM _ _)
 have D:iM S (w.heap.size+2) (hC (m7 C r 0)) 259:=by
  rw[<-V];have:hC (m7 C r 0)=Z:=by rw[<-M];exact Be λx _=>by simp[m7]
  rw[this];exact iM.F8 _ _ _ _ gN
 rw[V];clear V;obtain⟨Y,A⟩:=fP (w.heap.size);have vv:w.heap.size<=Y:=dP;rw[A]at E vp D;rw[A];clear A
 go_loopw [8] (λv wr=>∃n:Nat,n<=7/\v=ι κ n/\iM wr (Y+2) (hC (m7 C r n)) 259/\iM wr Y c 256/\iM wr (Y+1) Z 259/\dV w wr) (λv _=>7-(eP v).toNat)
 case atStart=>exact⟨0,dP,rfl,D,E,vp,vT⟩
 case round=>
  clear E vp D vT;obtain⟨n,hn,rfl,X,G,T,J⟩:=hrel;by_cases h:n<7
  ·have PU:(n:Int)<7:=dP;have r1:wr.cell? ⟨Y,r*7+n,ν⟩=μ (ι κ (C r n)):=(G.cell _).trans (by rw[<-hc];exact yj C r n hr h);obtain⟨q0,q1,q2⟩:=EK (m7 C r n) n h;have s0:=(X.cell (n*3)).trans q0;have s1:=(X.cell (n*3+1)).trans q1;have s2:=(X.cell (n*3+2)).trans q2;have f0:=X.frozen (n*3);have f1:=X.frozen (n*3+1);have f2:=X.frozen (n*3+2);have lG:=X.lt;have HG:Hid _:=X;have CU:Hid _:=G;have SM:Hid _:=T;have HB:Hid _:=J;clear X G T J q0 q1 q2;have HY:=Jw C r n;have HN:=MU C r n;have j:Hid _:=HY;have u:Hid _:=HN;clear HY HN;by_cases rK:0<C r n
   ·go_wp2
    go_roundw
    case rel=>
     refine⟨n+1,dP,by go_num,?_,iM.other (iM.other (iM.other CU.out dP _) dP _) dP _,iM.other (iM.other (iM.other SM.out dP _) dP _) dP _,a8 (a8 (a8 HB.out (by show w.heap.size<=Y+2;omega) _) (by show w.heap.size<=Y+2;omega) _) (by show w.heap.size<=Y+2;omega) _⟩;rw[j.out rK,<-PJ _ n _ h];exact iM.set (iM.set (iM.set HG.out _ _) _ _) _ _
    case measure=>simp[eP];omega
   ·go_wp2
    go_roundw
    case rel=>exact⟨n+1,dP,by go_num,by rw[u.out rK];exact HG.out,CU.out,SM.out,HB.out⟩
    case measure=>simp[eP];omega
  ·have PU:¬(n:Int)<7:=dP;have jq:n=7:=dP;obtain⟨g,U⟩:=fP (hC (m7 C r n));have gs:g.size=21:=by rw[<-U];exact rh _
   have g1:g.all (·.oneCell')=true:=by rw[<-U];exact PI _
   have zs:Z.size=21:=by rw[<-M];exact rh _
   have Zr:Hid (g=hC (m7 C r 7)):=by show _=_;rw[<-U,jq]
   rw[U]at X;have hR:iM (wr.setRow (Y+1) g) (Y+1) g 259:=T.setRow;have l6:=bI (P:=eN) (wr.setRow (Y+1) g) (Y+1) 259 259 g (0,0) _ hR underlying259 rfl (by rw[gs];exact EL);have y:Hid (dV w (wr.setRow (Y+1) g)):=nK J dP g;have tO:(eN.info? 259).map (·.size)=μ g.size:=by rw[gs];exact EL
   have pY:Z.size=g.size:=by rw[gs,zs]
   clear hR U M J G jq;go_wp2_with(first
    |refine mV _ rfl (.tmp 5) 259 rfl (Y+2) g _ _ rfl X underlying259 tO ?_
    |refine lp _ rfl (.tmp 4) (.tmp 25) 259 rfl (Y+1) Z g rfl rfl T pY tO g1 ?_)
   refine aA (v:=.agg g) (by simp[results,results164,asAddr,l6]) rfl ?_;exact⟨by rw[Zr.out],y.out⟩
def EM(a b:HP):Bool:=b.far==0||decide (a.far<b.far)||(a.far==b.far&&decide (a.tf<b.tf))
theorem Gw(a b:HP)(w:dN):
 eM eN 205 #[.agg #[ι κ a.dst,ι κ a.far,ι κ a.tf],.agg #[ι κ b.dst,ι κ b.far,ι κ b.tf]] w λe w'=>e=ρ (.bool (EM a b))/\dV w w':=by
 obtain⟨V,Z,Y⟩:=a;obtain⟨b0,b1,b2⟩:=b;simp only;have S:dV w ((w.alloc (γ #[ι κ V,ι κ Z,ι κ Y] 98)).alloc (γ #[ι κ b0,ι κ b1,ι κ b2] 98)):=(gM _ _).alloc gN _;have T:Hid (EM ⟨V,Z,Y⟩ ⟨b0,b1,b2⟩=(b1==0||decide (Z<b1)||(Z==b1&&decide (Y<b2)))):=rfl;by_cases J:(b1==0)=true
 ·have X:Hid (EM ⟨V,Z,Y⟩ ⟨b0,b1,b2⟩=true):=by show _=_;rw[T.out,J];rfl
  go_in
  go_wp2_with(fail);rw[X.out];go_ret;exact⟨rfl,S⟩
 have U:(b1==0)=false:=by simpa using J
 by_cases M:Z<b1
 ·have X:Hid (EM ⟨V,Z,Y⟩ ⟨b0,b1,b2⟩=true):=by show _=_;rw[T.out,dG M];simp
  go_in
  go_wp2_with(fail);rw[X.out];go_ret;exact⟨rfl,S⟩
 by_cases G:(Z==b1)=true
 ·have X:Hid (EM ⟨V,Z,Y⟩ ⟨b0,b1,b2⟩=decide (Y<b2)):=by show _=_;rw[T.out,U,cT M,G];simp
  rw[X.out]
  go_in
  go_wp2
  go_ret;exact⟨rfl,S⟩
 have E:(Z==b1)=false:=by simpa using G
 have X:Hid (EM ⟨V,Z,Y⟩ ⟨b0,b1,b2⟩=false):=by show _=_;rw[T.out,U,cT M,E];simp
 go_in
 go_wp2_with(fail);rw[X.out];go_ret;exact⟨rfl,S⟩
def tQ(H:Nat->HP):Nat->List HP
 |0=>[]
 |n+1=>if 0<(H n).far then tQ H n++ [H n]else tQ H n
theorem tR(H:Nat->HP):∀n,(tQ H n).length<=n
 |0=>Nat.le_refl _
 |n+1=>by
  have:=tR H n;simp only[tQ];split
  ·simp;omega
  ·omega
def OZ(L:List HP):List dO:=L.flatMap λh=>[ι κ h.dst,ι κ h.far,ι κ h.tf]
theorem PX(L:List HP)(h:HP):OZ (L++ [h])=OZ L++ [ι κ h.dst,ι κ h.far,ι κ h.tf] :=by simp[OZ]
theorem Ln:∀(L:List HP) (j:Nat) (h:HP),L[j]? =μ h->(OZ L)[j*3]? =μ (ι κ h.dst)/\(OZ L)[j*3+1]? =μ (ι κ h.far)/\(OZ L)[j*3+2]? =μ (ι κ h.tf)
 |[],j,s,h=>by simp at h
 |x::l,0,s,h=>by
  have:x=s:=by simpa using h
  subst this;exact⟨rfl,rfl,rfl⟩
 |x::l,j+1,s,h=>by
  have V:l[j]? =μ s:=by simpa using h
  obtain⟨a,b,c⟩:=Ln l j s V;have e:OZ (x::l)=ι κ x.dst::ι κ x.far::ι κ x.tf::OZ l:=rfl;have Z:(j+1)*3=j*3+3:=dP;have Y:(j+1)*3+1=j*3+1+3:=dP;have X:(j+1)*3+2=j*3+2+3:=dP;rw[e,Y,X,Z];simp only[List.getElem?_cons_succ];exact⟨a,b,c⟩
theorem Row.hs {L:List HP} (h:Row w 3 v L.length (OZ L)):∃a cap,v=σ a L.length cap/\PL w a L.length L:=by
 rcases h.2 with⟨rfl,e⟩|⟨g,cap,rfl,_⟩
 ·rw[e];exact⟨ν,0,rfl,⟨e,.inl rfl⟩⟩
 ·refine⟨_,cap,rfl,⟨rfl,.inr ⟨g,0,rfl,λj s e=> ?_⟩⟩⟩;obtain⟨a,b,c⟩:=Ln L j s e;rw[show 0+j*3=j*3 by omega];exact⟨Row.cell h _ _ a,Row.cell h _ _ b,Row.cell h _ _ c⟩
theorem EN(w:dN)(x y z:dO)(t:dR)(g:Nat)(Z:w.heap.size=g):∀(j:Nat) (u:dO),[x,y,z][j]? =μ u->(w.alloc (γ #[x,y,z] t)).cell? ((⟨g,0,ν⟩:dM).add j)=μ u:=by
 subst Z;intro j u Y;rw[add_plain,aj];simpa using Y
theorem WR(x y z:Int):∀u∈ [dT .i64 x,dT .i64 y,dT .i64 z],u.oneCell'=true:=by simp[Value.oneCell']
theorem TB:(eN.info? 98).map (λi=>(i.zero,i.size,i.bytes))=μ (μ (.agg #[ι κ 0,ι κ 0,ι κ 0]),3,24):=gJ
theorem PY(H:Nat->HP)(B:Nat)(w:dN)(hB:iM w B (hC H) 259):
 eM eN 166 #[π (μ ⟨B,0,ν⟩)] w λe w'=>∃a cap,e=ρ (σ a (tQ H 7).length cap)/\Zm w w' a (tQ H 7).length (tQ H 7)/\dV w w':=by
 obtain⟨i0,hi,nH,l8,mZ⟩:=aT TB
 go_in
 go_wp2
 go_loopw [3,8] (λs v wr=>∃n:Nat,n<=7/\v=ι κ n/\Row wr 3 s (tQ H n).length (OZ (tQ H n))/\(∀g,s.ownBlock=μ g->w.heap.size<=g)/\dV w wr) (λ_ v _=>7-(eP v).toNat)
 case atStart=>exact⟨0,dP,rfl,Row.nil _ _,λg h=>by simp[dQ]at h,aq _ _⟩
 case round=>
  obtain⟨n,hn,rfl,J,G,Y⟩:=hrel;have HL:Hid _:=tR H n;have V:Hid (tQ H (n+1)=if 0<(H n).far then tQ H n++ [H n]else tQ H n):=rfl;by_cases TA:n<7
  ·have PU:(n:Int)<7:=dP;obtain⟨p0,p1,p2⟩:=EK H n TA;have Z:=hB.below Y;have c0:=(Z.cell (n*3)).trans p0;have c1:=(Z.cell (n*3+1)).trans p1;have c2:=(Z.cell (n*3+2)).trans p2;clear p0 p1 p2 Z;obtain⟨p,hp⟩:=fP (H n);rw[hp]at c0 c1 c2 V;clear hp;obtain⟨pd,pf,T⟩:=p;simp only at c0 c1 c2 V;have y:=Y.alloc Y.size (γ #[ι κ pd,ι κ pf,ι κ T] 98);have X:Hid _:=y;have hws:Hid (w.heap.size<=wr.heap.size):=Y.size;have E:=J.alloc (γ #[ι κ pd,ι κ pf,ι κ T] 98);have u:Hid _:=G;by_cases hf:0<pf
   ·rw[ag hf]at V;obtain⟨L,M⟩:=fP (tQ H n);rw[M]at V HL E;have hLl:L.length<=n:=HL.out;clear M J G Y y;go_wp2_with(at_builtin;go_must(refine iu _ rfl (.tmp 16) (.tmp 18) 94 rfl 98 i0 (.agg #[ι κ 0,ι κ 0,ι κ 0]) 3 24 underlying94 hi nH l8 mZ rfl dS u3 L.length (OZ L) rfl (E.alloc _) _ 1 1 [ι κ pd,ι κ pf,ι κ T] rfl rfl dS (EN _ _ _ _ _ _ gN) (WR _ _ _) (by unfold maxLen;omega) dP ?_));intro j jd w3 rP S ti;have A:Hid (Row w3 3 (σ (μ ⟨j,0,ν⟩) (L.length+1) jd) (L++ [(⟨pd,pf,T⟩:HP)]).length (OZ (L++ [(⟨pd,pf,T⟩:HP)]))):=by
     show Row _ _ _ _ _;rw[PX,ay];exact rP
    have U:dV w ((wr.alloc (γ #[ι κ pd,ι κ pf,ι κ T] 98)).alloc (γ #[ι κ pd,ι κ pf,ι κ T] 98)):=Below.alloc X.out X.out.size _;have I7:Hid (dV w w3):=⟨S.os.trans U.os,S.tape.trans U.tape,S.output.trans U.output,Nat.le_trans U.size S.size,λi hi=>(S.block i (Nat.lt_of_lt_of_le hi U.size) (λe=>by have:=u.out i e.symm;omega)).trans (U.block i hi)⟩
    have Zq:Hid (∀g,dQ (σ (μ ⟨j,0,ν⟩) (L.length+1) jd)=μ g->w.heap.size<=g):=by
     intro g h;have Pt:j=g:=by simpa[dQ]using h
     subst Pt;rcases ti with e|e
     ·exact u.out _ e
     ·have:=hws.out;omega
    clear rP S ti U E c0 c1 c2
    go_wp2
    go_roundw
    case rel=>exact⟨n+1,dP,by go_num,by rw[V.out];exact A.out,Zq.out,I7.out⟩
    case measure=>simp[eP];omega
   ·rw[ae hf]at V;have D:Hid _:=E;clear J G Y y E
    go_wp2
    go_roundw
    case rel=>exact⟨n+1,dP,by go_num,by rw[V.out];exact D.out,u.out,X.out⟩
    case measure=>simp[eP];omega
  ·have PU:¬(n:Int)<7:=dP;have jq:n=7:=dP;subst jq;obtain⟨a,cap,rfl,hR⟩:=Row.hs J;have HR:Hid (Zm w wr a (tQ H 7).length (tQ H 7)):=⟨hR,λx e=>by subst e;exact G _ rfl⟩
   clear hR J G
   go_wp2
   go_ret
   first|exact⟨a,cap,rfl,HR.out,Y⟩|exact⟨a,⟨cap,rfl⟩,HR.out,Y⟩
