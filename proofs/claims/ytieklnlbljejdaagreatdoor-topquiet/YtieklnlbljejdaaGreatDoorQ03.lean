import Derived.Test.YtieklnlbljejdaaGreatDoorQ02
open Go.Value renaming int → ι, slice → σ, pointer → π, tuple → τ, nilIface → η
open Go.IntKind renaming i64 → κ
open Go.Ending renaming returned → ρ
open Go.Obj renaming cells → γ
open Option renaming none → ν, some → μ
open Go renaming World → dR, Addr → dQ, TypeId → dW, Value → dT, Calls → eT
open Go.Proofs.Tryz renaming prog → eU
open Go.RowKit renaming intOf → eV
open ByteArray renaming empty → fF
open Go.Value renaming cells → fj
open Go.World renaming setRow → fG
open Go.Instr renaming loadAt → fH, sureAddr → fI, storeAt → fM
open Go.Sem renaming run_bind → fJ, run_pure → fK
open Go.Result renaming andThen → fL, andThen_ok → eB
open Array renaming range → fN, mem_map → fO
open Go.IntKind renaming i64 → fh
set_option maxRecDepth 100000
set_option maxHeartbeats 8000000
open Go.Proofs.Tryz
namespace Go.Proofs.YtieklnlbljejdaaGreatDoor
open Go.RowKit St
open Go.ChangeShapes Go.WideShapes Go.ChangeAt
variable {B b m n:Nat} {H:Type} {Q:Exit->Act->World->Prop} {W w w':World} {a:Option Addr} {o:Oper} {ops:Array Oper} {rest:List Oper} {t:TypeId} {v:Value}
structure qQ(w:dR)(a:Option dQ)(n:Nat)(S:Nat->SV)(E:Nat->List jG):Prop where
 row:n=0 \/ ∃b off,a=μ ⟨b,off,ν⟩/\∀j,j<n->w.cell? ⟨b,off+j*3,ν⟩=μ (ι κ (S j).own)/\w.cell? ⟨b,off+j*3+1,ν⟩=μ (ι κ (S j).seq)/\w.cell? ⟨b,off+j*3+2,ν⟩=μ (σ (S j).a (S j).n (S j).cap)
 opt:∀j,j<n->iU w (S j).a (S j).n (E j)/\kt (S j).a (S j).cap/\(S j).n<=maxLen
theorem qQ.below {w w':dR} {a:Option dQ} {n:Nat} {S:Nat->SV} {E:Nat->List jG} (h:qQ w a n S E)(hb:eh w w'):qQ w' a n S E:=by
 refine⟨?_,λj Z=>⟨(h.opt j Z).1.below hb,(h.opt j Z).2⟩⟩;rcases h.row with Y|⟨b,off,rfl,Y⟩
 ·exact .inl Y
 ·refine .inr ⟨b,off,rfl,λj Z=> ?_⟩;obtain⟨c1,c2,c3⟩:=Y j Z;have l:=af w _ c1;exact⟨(hb.cell (p:=⟨b,off+j*3,ν⟩) l).trans c1,(hb.cell (p:=⟨b,off+j*3+1,ν⟩) l).trans c2,(hb.cell (p:=⟨b,off+j*3+2,ν⟩) l).trans c3⟩
theorem Lz {enc:dW×dT->H} {y:DataW H×List MemPlace}
 (U:DataW.trod enc eU W 0 (λ_=>true) true m 38 [v] =μ y):
 ∃(a:Option dQ) (n cap:Nat) (os:List jG),v=σ a n cap/\iU W a n os/\kt a cap/\n<=maxLen:=by
 rcases du underlying38 underlying123 gL rfl rfl gL gL U with⟨hcs,_⟩|⟨a,len,cap,m',n',V,Y,D0,D1,P0,P1,hcs,_,hl,hm,G,_,hx⟩
 ·simp at hcs;subst hcs;exact⟨ν,0,0,[],rfl,⟨rfl,.inl rfl⟩,λ_=>rfl,dX⟩
 ·simp at hcs;subst hcs;simp at G;have each:∀i,i<len->W.cell? (a.add (i*2))=μ (ι κ (eV (V i)))/\W.cell? (a.add (i*2+1))=μ (ι κ (eV (Y i))):=by
   intro i hi;obtain⟨q1,q2,J,A⟩:=hx i dU;obtain⟨k,f0,_,_⟩:=bg underlying3 J;obtain⟨n,f1,_,_⟩:=bg underlying3 A;simp at f0 f1;exact⟨by rw[q1,f0];rfl,by rw[q2,f1];rfl⟩
  refine⟨μ a,len,cap,(List.range len).map (λi=>(eV (V i),eV (Y i))),rfl,⟨gO,?_⟩,λh=>by simp at h,dU⟩;by_cases D:len=0
  ·exact .inl D
  ·obtain⟨b,off,Z⟩:=a;have hc:=(each 0 dU).1;have T:Z=ν:=by simpa[Addr.add]using cR hc
   subst T;refine .inr ⟨b,off,rfl,λj u=> ?_⟩;have M:j<len:=by simpa using u
   have X:=each j M;rw[mG,mG]at X;simpa[Nat.add_assoc]using X
structure AV where
 kind:ByteArray
 a:Int
 b:Int
 c:Int
 d:Int
 s:ByteArray
 Nr:Int
 pid:Int
 po:Option dQ
 pn:Nat
 CZ:Nat
 x:SV
instance:Inhabited AV:=⟨⟨fF,0,0,0,0,fF,0,0,ν,0,0,SV.zero⟩⟩
def AV.at_(v:AV)(w:dR)(b o:Nat):Prop:=
 w.cell? ⟨b,o,ν⟩=μ (.string v.kind)/\w.cell? ⟨b,o+1,ν⟩=μ (ι κ v.a)/\w.cell? ⟨b,o+2,ν⟩=μ (ι κ v.b)/\w.cell? ⟨b,o+3,ν⟩=μ (ι κ v.c)/\w.cell? ⟨b,o+4,ν⟩=μ (ι κ v.d)/\w.cell? ⟨b,o+5,ν⟩=μ (.string v.s)/\
 w.cell? ⟨b,o+6,ν⟩=μ (ι κ v.Nr)/\w.cell? ⟨b,o+7,ν⟩=μ (ι κ v.pid)/\w.cell? ⟨b,o+8,ν⟩=μ (σ v.po v.pn v.CZ)/\
 w.cell? ⟨b,o+9,ν⟩=μ (ι κ v.x.own)/\w.cell? ⟨b,o+10,ν⟩=μ (ι κ v.x.seq)/\w.cell? ⟨b,o+11,ν⟩=μ (σ v.x.a v.x.n v.x.cap)
structure C2(w:dR)(a:Option dQ)(n:Nat)(V:Nat->AV)(E:Nat->List jG):Prop where
 row:n=0 \/ ∃b off,a=μ ⟨b,off,ν⟩/\∀j,j<n->(V j).at_ w b (off+j*12)
 opt:∀j,j<n->iU w (V j).x.a (V j).x.n (E j)/\kt (V j).x.a (V j).x.cap/\(V j).x.n<=maxLen/\(V j).pn<=maxLen
 pk:∀j,j<n->∃os:List jG,iU w (V j).po (V j).pn os/\kt (V j).po (V j).CZ/\(V j).pn<=(V j).CZ
theorem AV.at_.below {v:AV} {o:Nat} (h:v.at_ w b o)(hb:eh w w'):v.at_ w' b o:=by
 obtain⟨c0,c1,c2,c3,c4,X,Y,T,M,c9,Z,V⟩:=h;have l:=af w _ c0;have k:∀i u,w.cell? ⟨b,i,ν⟩=μ u->w'.cell? ⟨b,i,ν⟩=μ u:=λi u U=>(hb.cell (p:=⟨b,i,ν⟩) l).trans U;exact⟨k _ _ c0,k _ _ c1,k _ _ c2,k _ _ c3,k _ _ c4,k _ _ X,k _ _ Y,k _ _ T,k _ _ M,k _ _ c9,k _ _ Z,k _ _ V⟩
theorem C2.below {w w':dR} {a:Option dQ} {n:Nat} {V:Nat->AV} {E:Nat->List jG} (h:C2 w a n V E)(hb:eh w w'):C2 w' a n V E:=by
 refine⟨?_,λj Z=>⟨(h.opt j Z).1.below hb,(h.opt j Z).2⟩,λj Z=>by obtain⟨os,o1,o2⟩:=h.pk j Z;exact⟨os,o1.below hb,o2⟩⟩;rcases h.row with Y|⟨b,off,rfl,Y⟩
 ·exact .inl Y
 ·exact .inr ⟨b,off,rfl,λj Z=>(Y j Z).below hb⟩
theorem C4 {enc:dW×dT->H} {e:dW} {y:DataW H×List MemPlace} (Y:eU.underlying t=μ (.slice e))
 (Z:DataW.trod enc eU W 0 (λ_=>true) true m t [v] =μ y):∃(a:Option dQ) (n cap:Nat),v=σ a n cap/\n<=maxLen/\n<=cap:=by
 rcases de Y Z with⟨hcs,_⟩|⟨a,len,cap,m',n',D,Pl,hcs,_,hl,hm,_,_,_⟩
 ·simp at hcs;subst hcs;exact⟨ν,0,0,rfl,dX,Nat.le_refl _⟩
 ·simp at hcs;subst hcs;exact⟨μ a,len,cap,rfl,dU,hl⟩
theorem OT {enc:dW×dT->H} {cap:Nat} {d:DataW H} {ps:List MemPlace}
 (h:DataW.Trod enc eU W 0 (λ_=>true) true 23 (σ a n cap) d ps):
 ∃(V:Nat->AV) (E:Nat->List jG),C2 W a n V E/\n<=maxLen:=by
 obtain⟨fuel,hf⟩:=h;rcases de underlying23 hf with⟨hcs,_⟩|⟨x,len,cp,m',n',D,Pl,hcs,_,hl,hm,Ja,_,hx⟩
 ·simp[fj]at hcs;obtain⟨rfl,rfl,rfl⟩:=hcs;exact⟨λ_=>default,λ_=>[],⟨.inl rfl,λj Z=>dU,λj Z=>dU⟩,dX⟩
 ·simp[fj]at hcs;obtain⟨rfl,rfl,rfl⟩:=hcs;simp at Ja;have ce:(eU).cellsOf 42=12:=gL;rw[ce]at hx;have each:∀i,i<n->∃q:AV×List jG,(∀b off,x=⟨b,off,ν⟩->q.1.at_ W b (off+i*12))/\(W.cell? (x.add (i*12))).isSome=true/\iU W q.1.x.a q.1.x.n q.2/\kt q.1.x.a q.1.x.cap/\q.1.x.n<=maxLen/\q.1.pn<=maxLen/\∃os:List jG,iU W q.1.po q.1.pn os/\kt q.1.po q.1.CZ/\q.1.pn<=q.1.CZ:=by
   intro i hi;obtain⟨cs',h1,h2⟩:=hx i dU;obtain⟨_,hlen,hcell⟩:=World.cells?_some h1;obtain⟨xs,k,hk,hxy,_,Oq,Y⟩:=cP underlying42 h2
   match xs,Oq,cs',hlen with
   |[y0,y1,y2,y3,y4,y5,y6,y7],_,[v0,v1,v2,v3,v4,v5,v6,v7,v8,v9,v10,v11],_=>
    have g0:=Y 0 _ rfl;have g1:=Y 1 _ rfl;have g2:=Y 2 _ rfl;have g3:=Y 3 _ rfl;have g4:=Y 4 _ rfl;have g5:=Y 5 _ rfl;have g6:=Y 6 _ rfl;have g7:=Y 7 _ rfl;have ci:(eU).cellsOf 3=1:=gL;have G:(eU).cellsOf 9=1:=gL;have cp3:(eU).cellsOf 37=3:=gL;have y:(eU).cellsOf 40=3:=gL;have cse:(eU).cellsOf 38=1:=gL;have cso:(eU).cellsOf 35=1:=gL;simp[ci,G,cp3,y]at g0 g1 g2 g3 g4 g5 g6 g7;obtain⟨s0,f0,_,_⟩:=di underlying9 g0;obtain⟨i1,f1,_,_⟩:=bg underlying3 g1;obtain⟨i2,f2,_,_⟩:=bg underlying3 g2;obtain⟨i3,f3,_,_⟩:=bg underlying3 g3;obtain⟨i4,f4,_,_⟩:=bg underlying3 g4;obtain⟨s5,f5,_,_⟩:=di underlying9 g5;obtain⟨xp,kp,_,_,_,agX,T⟩:=cP underlying37 g6;obtain⟨xq,kq,_,_,_,A,X⟩:=cP underlying40 g7
    match xp,agX,xq,A with
    |[p0,p1,p2],_,[z0,z1,z2],_=>
     have e0:=T 0 _ rfl;have e1:=T 1 _ rfl;have e2:=T 2 _ rfl;have e3:=X 0 _ rfl;have e4:=X 1 _ rfl;have e5:=X 2 _ rfl;simp[ci,cse,cso]at e0 e1 e2 e3 e4 e5;obtain⟨i6,f6,_,_⟩:=bg underlying3 e0;obtain⟨i7,f7,_,_⟩:=bg underlying3 e1;obtain⟨pa,pn,CZ,f8,hpn,hpc⟩:=C4 underlying35 e2;obtain⟨i9,f9,_,_⟩:=bg underlying3 e3;obtain⟨i10,M,_,_⟩:=bg underlying3 e4;obtain⟨ea,en,ec,es,f11,eo,ez,em⟩:=Lz e5;simp at f0 f1 f2 f3 f4 f5 f6 f7 f9 M;subst f0 f1 f2 f3 f4 f5 f6 f7 f8 f9 M f11;obtain⟨pos,po1,po2,_⟩:=OQ (a:=pa) (n:=pn) (cap:=CZ) (W:=W) ⟨_,e2⟩;have qD:=hcell 0 dU;rw[Go.Deep.add_add]at qD;refine⟨(⟨s0,i1,i2,i3,i4,s5,i6,i7,pa,pn,CZ,⟨i9,i10,ea,en,ec⟩⟩,es),λb off he=> ?_,by rw[show i*12+0=i*12 by omega]at qD;rw[qD];rfl,eo,ez,em,hpn,pos,po1,po2,hpc⟩;subst he;have c:=λj (Z:j<12)=>hcell j Z;simp only[mG]at c;have r:∀j,off+i*12+j=off+(i*12)+j:=λj=>rfl;exact⟨c 0 dU,c 1 dU,c 2 dU,c 3 dU,c 4 dU,c 5 dU,c 6 dU,c 7 dU,c 8 dU,c 9 dU,c 10 dU,c 11 dU⟩
  obtain⟨q,U⟩:=Go.Deep.choose_lt each;refine⟨λi=>(q i).1,λi=>(q i).2,⟨?_,λj Z=>⟨(U j Z).2.2.1,(U j Z).2.2.2.1,(U j Z).2.2.2.2.1,(U j Z).2.2.2.2.2.1⟩,λj Z=>(U j Z).2.2.2.2.2.2⟩,dU⟩;by_cases h0:n=0
  ·exact .inl h0
  ·obtain⟨b,off,J⟩:=x;obtain⟨u,hu⟩:=Option.isSome_iff_exists.1 (U 0 dU).2.1;have CY:J=ν:=by simpa[Addr.add]using cR hu
   subst CY;exact .inr ⟨b,off,rfl,λj Z=>(U j Z).1 b off rfl⟩
theorem BK(c i:Int)(a:Option dQ)(n cap:Nat)(w:dR):
 eT eU 65 #[.agg #[ι κ c,ι κ i,σ a n cap]] w λe w'=>e=ρ (.bool (decide ((n:Int)<=12)))/\eh w w':=by
 go_in
 go_wp2
 go_ret;exact⟨rfl,(au _ _).alloc (Nat.le_refl _) _⟩
theorem EO(a:Option dQ)(n cap:Nat)(V:Nat->AV)(E:Nat->List jG)(most:Int)(w:dR)(h:C2 w a n V E)(hm:most<=1000):
 eT eU 16 #[σ a n cap,ι κ most] w λe w'=>(∃b:Bool,e=ρ (.bool b)/\(b=true->(n:Int)<=most/\∀j,j<n->(V j).x.n<=9/\(V j).pn<=12/\(V j).s.size<=200))/\eh w w':=by
 by_cases h0:most<(n:Int)
 ·go_in
  go_wp2
  go_ret;exact⟨⟨false,rfl,λh=>by cases h⟩,au _ _⟩
 go_in
 go_wp2
 go_loopw [5] (λi wr=>∃k:Nat,k<=n/\i=ι κ k/\(∀j,j<k->(V j).x.n<=9/\(V j).pn<=12/\(V j).s.size<=200)/\eh w wr) (λi _=>n-(eV i).toNat)
 case atStart=>exact⟨0,Nat.zero_le _,rfl,λj M=>dU,au _ _⟩
 case round=>
  obtain⟨k,hk,rfl,hA,T⟩:=hrel;have G:Hid _:=hA;clear hA;by_cases ka:k<n
  ·have m8:(k:Int)<(n:Int):=dU;obtain⟨_,_,U,Y⟩:=h.opt k ka;rcases h.row with h1|⟨b,off,rfl,hcs⟩
   ·omega
   have X:Hid (∀W,eh w W->(V k).at_ W b (off+k*12)):=λW hW=>(hcs k ka).below hW;obtain⟨v,hv⟩:=fW (V k);rw[hv]at X U Y;have u:Hid _:=hv;obtain⟨vk,va,vb,vc,vd,vs,XY,XZ,X2,A,AP,vx⟩:=v;obtain⟨xo,xq,xa,xn,xc⟩:=vx;simp only at U Y;obtain⟨c0,c1,c2,c3,c4,c5,c6,c7,c8,c9,Sc,VM⟩:=X.out wr T;simp only at c5 c6 c7 c8 VM;have Z:=BK XY XZ X2 A AP wr;unfold maxLen at U Y;have HB:Hid _:=T;clear hcs hv T c0 c1 c2 c3 c4 c9 Sc;by_cases hs:200<(vs.size:Int)
   ·go_wp2
    go_ret;exact⟨⟨false,rfl,λh=>by cases h⟩,HB.out⟩
   ·by_cases hp:(A:Int)<=12
    ·rw[dL hp]at Z;go_wp2_with(fail);refine Z.mono ?_;rintro e w1 ⟨rfl,k1⟩;have y:=fY HB.out k1;obtain⟨_,_,_,_,_,_,_,_,_,_,_,D⟩:=X.out w1 y;simp only at D;have J:Hid _:=y;clear Z k1 y c5 c6 c7 c8 VM;by_cases h9:9<(xn:Int)
     ·go_wp2
      go_ret;exact⟨⟨false,rfl,λh=>by cases h⟩,J.out⟩
     ·go_wp2
      go_roundw
      case rel=>
       refine⟨k+1,dU,by go_num,λj M=> ?_,J.out⟩;by_cases XX:j=k
       ·rw[XX,u.out];show xn<=9/\A<=12/\vs.size<=200;omega
       ·exact G.out j dU
      case measure=>simp[eV];omega
    ·rw[dA hp]at Z;go_wp2_with(fail);refine Z.mono ?_;rintro e w1 ⟨rfl,k1⟩;have J:Hid _:=fY HB.out k1;clear Z k1
     go_wp2
     go_ret;exact⟨⟨false,rfl,λh=>by cases h⟩,J.out⟩
  ·have yt:¬(k:Int)<(n:Int):=dU
   go_wp2
   go_ret
   first|exact⟨.inr ⟨rfl,λj M=>G.out j dU⟩,T⟩|exact⟨⟨true,rfl,λ_=>⟨dU,λj M=>G.out j dU⟩⟩,T⟩|exact⟨.inr ⟨rfl,dU,λj M=>G.out j dU⟩,T⟩
theorem jc.setRow {w:dR} {B:Nat} {C D:Array dT} {t:dW} (h:jc w B C t):jc (w.setRow B D) B D t:=by
 unfold jc at*;simp only[fG];rw[cC,ag rfl,h];rfl
theorem oe {a:dR} (h:Below n w a)(hB:n<=B)(D:Array dT):Below n w (a.setRow B D):=by
 refine⟨h.os,h.tape,h.output,by simpa[fG]using h.size,λi hi=> ?_⟩;rw[<-h.block i hi];simp only[fG];rw[cC,ae dU]
theorem jc.Sd {B':Nat} {C D:Array dT} (h:jc w B C t)(Z:B≠B'):jc (w.setRow B' D) B C t:=by
 unfold jc at*;simp only[fG];rw[cC,ae (λe=>Z e.symm)];exact h
section
variable {P:Program}
theorem jc.loadAt {w:dR} {B:Nat} {C:Array dT} {t:dW} (h:jc w B C t)(n:Nat)(e:dW)(Z:P.underlying t=μ (.array n e))(hi:(P.info? t).map (·.size)=μ C.size):(fH t (π (μ ⟨B,0,ν⟩))).run P w=.ok (.agg C) w:=by
 simp only[fH,fI,fJ,fK,fL];exact bL w B t t C (0,0) _ h Z rfl hi
theorem jc.storeAt {w:dR} {B:Nat} {C D:Array dT} {t:dW} (h:jc w B C t)(hs:C.size=D.size)(hi:(P.info? t).map (·.size)=μ D.size)(Z:D.all (·.oneCell')=true):(fM t (π (μ ⟨B,0,ν⟩)) (.agg D)).run P w=.ok () (w.setRow B D):=by
 simp only[fM,fI,fJ,fK,fL];exact run_storeVar_row w B t t C D h hi hs Z
theorem nA(w:dR) {a:Act} (V:o.guard=ν)(x:Operand)(t:dW)(X:o.op=.load t x)
 (B:Nat) (C:Array dT) (n:Nat) (e:dW) (hx:a.eval x=π (μ ⟨B,0,ν⟩)) (hb:jc w B C t) (U:P.underlying t=μ (.array n e)) (hi:(P.info? t).map (·.size)=μ C.size)
 (h:wpList P ops Q rest (a.put o.dst (.agg C)) w):wpList P ops Q (o::rest) a w:=by
 refine wpList_plain V λK Y=> ?_;have Z:=hb.loadAt n e U hi;unfold Oper.wp execOp;simp only[X,fJ,fK,eB,hx,Z];exact Y _ _ h
theorem lP(w:dR) {a:Act} (U:o.guard=ν)(x y:Operand)(t:dW)(X:o.op=.store t x y)
 (B:Nat) (C D:Array dT) (hx:a.eval x=π (μ ⟨B,0,ν⟩)) (hy:a.eval y=.agg D) (hb:jc w B C t) (hs:C.size=D.size) (hi:(P.info? t).map (·.size)=μ D.size) (V:D.all (·.oneCell')=true)
 (h:wpList P ops Q rest (a.put o.dst undef) (w.setRow B D)):wpList P ops Q (o::rest) a w:=by
 refine wpList_plain U λK Y=> ?_;have Z:=hb.storeAt hs hi V;unfold Oper.wp execOp;simp only[X,fJ,fK,eB,hx,hy,Z];exact Y _ _ h
end
abbrev mU:=Nat->Nat->Int
def gC(C:mU):Array dT:=(fN 49).map λi=>ι κ (C (i/7) (i%7))
theorem pC(C:mU):(gC C).size=49:=by simp[gC]
theorem Jb(C:mU)(i:Nat)(h:i<49):(gC C)[i]? =μ (ι κ (C (i/7) (i%7))):=by simp[gC,h]
theorem zL(C:mU)(a b:Nat)(ha:a<7)(hb:b<7):(gC C)[a*7+b]? =μ (ι κ (C a b)):=by
 rw[Jb C _ dU];rw[show(a*7+b)/7=a by omega,show(a*7+b) %7=b by omega]
def yC(C:mU)(a b:Nat)(v:Int):mU:=λx y=>if x=a/\y=b then v else C x y
theorem Se(C:mU)(a b:Nat)(v:Int)(hb:b<7):(gC C).setIfInBounds (a*7+b) (ι κ v)=gC (yC C a b v):=by
 apply bS;intro i;rw[bn];by_cases hi:i<49
 ·rw[Jb _ i hi,Jb _ i hi,pC];by_cases e:a*7+b=i
  ·rw[ag e,ag dU];have Y:i/7=a:=dU;have Z:i%7=b:=dU;simp[yC,Y,Z]
  ·rw[ae e];have:¬(i/7=a/\i%7=b):=dU;simp only[yC,if_neg this]
 ·have hs:∀D:mU,(gC D)[i]? =ν:=λD=>a8 (by rw[pC];omega);rw[hs,hs];split
  ·rw[ae (by rw[pC];omega)]
  ·rfl
theorem LA(C:mU):(gC C).all (·.oneCell')=true:=by
 rw[bW];intro v hv;obtain⟨i,_,rfl⟩:=fO.1 hv;rfl
structure HP where
 dst:Int
 far:Int
 uF:Int
def HP.zero:HP:=⟨0,0,0⟩
def Jc(H:Nat->HP)(i:Nat):dT:=ι κ (if i%3=0 then(H (i/3)).dst else if i%3=1 then(H (i/3)).far else(H (i/3)).uF)
def hC(H:Nat->HP):Array dT:=(fN 21).map (Jc H)
theorem sD(H:Nat->HP):(hC H).size=21:=by simp[hC]
theorem C6(H:Nat->HP)(i:Nat)(h:i<21):(hC H)[i]? =μ (Jc H i):=by simp[hC,h]
theorem G5(H:Nat->HP)(n:Nat)(hn:n<7):(hC H)[n*3]? =μ (ι κ (H n).dst)/\(hC H)[n*3+1]? =μ (ι κ (H n).far)/\(hC H)[n*3+2]? =μ (ι κ (H n).uF):=by
 rw[C6 _ _ dU,C6 _ _ dU,C6 _ _ dU];unfold Jc;rw[show n*3%3=0 by omega,show n*3/3=n by omega,show(n*3+1) %3=1 by omega,show(n*3+1)/3=n by omega,show(n*3+2) %3=2 by omega,show(n*3+2)/3=n by omega];exact⟨rfl,rfl,rfl⟩
theorem Sf(H:Nat->HP):(hC H).all (·.oneCell')=true:=by
 rw[bW];intro v hv;obtain⟨i,_,rfl⟩:=fO.1 hv;rfl
def C8(H:Nat->HP)(n:Nat)(p:HP):Nat->HP:=λx=>if x=n then p else H x
theorem Sg(H:Nat->HP)(n:Nat)(p:HP)(hn:n<7):(((hC H).setIfInBounds (n*3) (ι κ p.dst)).setIfInBounds (n*3+1) (ι κ p.far)).setIfInBounds (n*3+2) (ι κ p.uF)=hC (C8 H n p):=by
 apply bS;intro i;rw[bn,bn,bn];simp only[Array.size_setIfInBounds,sD];by_cases hi:i<21
 ·rw[C6 _ i hi,C6 _ i hi];unfold Jc;by_cases e:i/3=n
  ·have Y:C8 H n p (i/3)=p:=by simp[C8,e]
   rw[Y];rcases(show i%3=0 \/i%3=1 \/i%3=2 by omega)with Z|Z|Z
   ·rw[ae (show¬n*3+2=i by omega),ae (show¬n*3+1=i by omega),ag (show n*3=i by omega),ag dU,ag Z]
   ·rw[ae (show¬n*3+2=i by omega),ag (show n*3+1=i by omega),ag dU,ae dU,ag Z]
   ·rw[ag (show n*3+2=i by omega),ag dU,ae dU,ae dU]
  ·have Y:C8 H n p (i/3)=H (i/3):=by simp[C8,e]
   rw[Y,ae (show¬n*3+2=i by omega),ae (show¬n*3+1=i by omega),ae (show¬n*3=i by omega)]
 ·have hs:∀D:Nat->HP,(hC D)[i]? =ν:=λD=>a8 (by rw[sD];omega);rw[hs,hs,ae (show¬n*3+2=i by omega),ae (show¬n*3+1=i by omega),ae (show¬n*3=i by omega)]
theorem Ns:(eU.info? 256).map (λi=>(i.zero,i.size))=μ (μ (.agg (gC λ_ _=>0)),49):=gL
theorem Nt:(eU.info? 259).map (λi=>(i.zero,i.size))=μ (μ (.agg (hC λ_=>HP.zero)),21):=gL
theorem zM(w:dR):(zeroValue 256).run eU w=.ok (.agg (gC λ_ _=>0)) w:=(cD Ns).1 w
theorem Jd(w:dR):(zeroValue 259).run eU w=.ok (.agg (hC λ_=>HP.zero)) w:=(cD Nt).1 w
theorem wy:(eU.info? 256).map (·.size)=μ 49:=(cD Ns).2
theorem G6:(eU.info? 259).map (·.size)=μ 21:=(cD Nt).2
structure Sh(w:dR)(a:Option dQ)(n:Nat)(L:List HP):Prop where
 len:L.length=n
 row:n=0 \/ ∃b off,a=μ ⟨b,off,ν⟩/\∀j h,L[j]? =μ h->w.cell? ⟨b,off+j*3,ν⟩=μ (ι κ h.dst)/\w.cell? ⟨b,off+j*3+1,ν⟩=μ (ι κ h.far)/\w.cell? ⟨b,off+j*3+2,ν⟩=μ (ι κ h.uF)
theorem Sh.below {L:List HP} (h:Sh w a n L)(hb:eh w w'):Sh w' a n L:=by
 refine⟨h.len,?_⟩;rcases h.row with Z|⟨b,off,rfl,Z⟩
 ·exact .inl Z
 ·refine .inr ⟨b,off,rfl,λj s e=> ?_⟩;obtain⟨c1,c2,c3⟩:=Z j s e;have l:=af w _ c1;exact⟨(hb.cell (p:=⟨b,off+j*3,ν⟩) l).trans c1,(hb.cell (p:=⟨b,off+j*3+1,ν⟩) l).trans c2,(hb.cell (p:=⟨b,off+j*3+2,ν⟩) l).trans c3⟩
structure HsN(w w':dR)(a:Option dQ)(n:Nat)(L:List HP):Prop where
 r:Sh w' a n L
 nw:∀x,a=μ x->w.heap.size<=x.block
def xG(L:List HP)(n:Int):Nat->Option Nat
 |0=>none
 |k+1=>match xG L n k with|some i=>some i|none=>(match L[k]? with|some h=>if h.dst=n then some k else none|none=>none)
def Zg:Option Nat->Int
 |none=> -1
 |some i=>(i:Int)
theorem Si(pd pf Z x:Int)(X:Nat)(w:dR)(V:w.cell? ⟨X,0,ν⟩=μ (ι κ x)):
 eT eU 219 #[.agg #[ι κ pd,ι κ pf,ι κ Z],π (μ ⟨X,0,ν⟩)] w λe w'=>e=ρ (.bool (pd==x))/\eh w w':=by
 have U:X<w.heap.size:=af w _ V;have Y:=gN w (γ #[ι κ pd,ι κ pf,ι κ Z] 98);have qP:=(Y.cell (p:=⟨X,0,ν⟩) U).trans V
 go_in
 go_wp2
 go_ret;exact⟨rfl,Y⟩
theorem EP(a:Option dQ)(n cap:Nat)(L:List HP)(x:Int)(X:Nat)(w:dR)(h:Sh w a n L)(hn:n<=1000)(hX:w.cell? ⟨X,0,ν⟩=μ (ι κ x)):
 eT eU 218 #[σ a n cap,.func (.func 219) #[] #[π (μ ⟨X,0,ν⟩)]] w λe w'=>e=ρ (ι κ (Zg (xG L x n)))/\eh w w':=by
 go_in
 go_wp2
 go_loopw [8] (λv wr=>∃k:Nat,k<=n/\v=ι κ k/\xG L x k=ν/\eh w wr) (λv _=>n-(eV v).toNat)
 case atStart=>exact⟨0,Nat.zero_le _,rfl,rfl,au _ _⟩
 case round=>
  obtain⟨k,hk,rfl,A,U⟩:=hrel;have D:Hid _:=A;clear A;by_cases ka:k<n
  ·have m8:(k:Int)<(n:Int):=dU;have u:=h.below U;have hl:=h.len;rcases u.row with h1|⟨b,off,rfl,hc⟩
   ·omega
   have M:L[k]? =μ (L[k]'(by omega)):=aA dU;obtain⟨c0,c1,c2⟩:=hc k _ M;have J:Hid (xG L x (k+1)=if(L[k]'(by omega)).dst=x then μ k else ν):=by
    show _=_;simp only[xG,D.out,M]
   generalize L[k]'(by omega)=p at c0 c1 c2 J M;obtain⟨pd,pf,px⟩:=p;simp only at c0 c1 c2 J;have lX:X<w.heap.size:=af w _ hX;have Y:=Si pd pf px x X wr ((U.cell (p:=⟨X,0,ν⟩) lX).trans hX);have j:Hid _:=U;clear hc u M U;by_cases Z:pd=x
   ·have T:(pd==x)=true:=by simpa using Z
    rw[T]at Y;have V:Hid (xG L x n=μ k):=by
     have mono:∀d,xG L x (k+1+d)=μ k:=by
      intro d
      induction d with
      |zero=>rw[Nat.add_zero,J.out,ag Z]
      |succ d ih=>rw[<-Nat.add_assoc];simp only[xG,ih]
     have:=mono (n-(k+1))
     rwa [show k+1+(n-(k+1))=n by omega]at this
    clear Z T;go_wp2_with(fail);refine Y.mono ?_;rintro e w1 ⟨rfl,k1⟩;have G:Hid _:=fY j.out k1;clear Y k1
    go_wp2
    go_ret;exact⟨by rw[V.out];rfl,G.out⟩
   ·have T:(pd==x)=false:=by simpa using Z
    rw[T]at Y;have V:Hid (xG L x (k+1)=ν):=by show _=_;rw[J.out,ae Z]
    clear Z T;go_wp2_with(fail);refine Y.mono ?_;rintro e w1 ⟨rfl,k1⟩;have G:Hid _:=fY j.out k1;clear Y k1
    go_wp2
    go_roundw
    case rel=>exact⟨k+1,dU,by go_num,V.out,G.out⟩
    case measure=>simp[eV];omega
  ·have yt:¬(k:Int)<(n:Int):=dU;have y:k=n:=dU;have V:Hid (xG L x n=ν):=by rw[<-y];exact D.out
   clear y
   go_wp2
   go_ret;exact⟨by rw[V.out];rfl,U⟩
def zN(L:List HP)(n:Int):Option HP:=L.find? λh=>h.dst==n
theorem Fz(L:List HP)(n:Int):∀k,k<=L.length->(match xG L n k with|some i=>i<k/\L[i]? =zN (L.take k) n/\(zN (L.take k) n).isSome=true|none=>zN (L.take k) n=none)
 |0,_=>by simp[xG,zN]
 |k+1,hk=>by
  have ih:=Fz L n k dU;have X:zN (L.take (k+1)) n=(zN (L.take k) n).or (if(L[k]'(by omega)).dst=n then μ (L[k]'(by omega))else ν):=by
   unfold zN;rw[ay dU,List.find?_append];congr 1;by_cases e:(L[k]'(by omega)).dst=n<;>simp[e]
  simp only[xG];cases hi:xG L n k with
  |some i=>
   rw[hi]at ih;obtain⟨h1,Z,Y⟩:=ih;simp only;rw[X];cases e:zN (L.take k) n with
   |none=>rw[e]at Y;cases Y
   |some q=>rw[e]at Z;exact⟨dU,by simpa using Z,rfl⟩
  |none=>
   rw[hi]at ih;simp only at ih⊢;have V:L[k]? =μ (L[k]'(by omega)):=aA dU;rw[X,ih,V];by_cases e:(L[k]'(by omega)).dst=n
   ·simp[e]
   ·simp[e]
theorem Zh(a:Option dQ)(n cap:Nat)(L:List HP)(x:Int)(w:dR)(h:Sh w a n L)(hn:n<=1000):
 eT eU 199 #[σ a n cap,ι κ x] w λe w'=>e=ρ (τ #[.agg #[ι κ ((zN L x).getD HP.zero).dst,ι κ ((zN L x).getD HP.zero).far,ι κ ((zN L x).getD HP.zero).uF],.bool (zN L x).isSome])/\eh w w':=by
 obtain⟨T,X⟩:=fW ((w.alloc (γ #[ι κ x] 3)).alloc (γ #[ι κ 0,ι κ 0,ι κ 0] 98));have y:eh w T:=by rw[<-X];exact(gN _ _).alloc gO _
 have hX:jc T w.heap.size #[ι κ x] 3:=by rw[<-X];exact(jc.new w _ _).below (gN _ _)
 have j:jc T (w.heap.size+1) #[ι κ 0,ι κ 0,ι κ 0] 98:=by rw[<-X];exact jc.IP _ _ _ _ gO
 have V:=EP a n cap L x w.heap.size T (h.below y) hn (hX.cell 0);have Y:=Fz L x L.length (Nat.le_refl _);rw[bX,h.len]at Y;have hW:Hid _:=X;clear X
 go_in
 go_wp2_with(fail);rw[hW.out];refine V.mono ?_;rintro e G ⟨rfl,k2⟩;have Z:=j.below k2;have u:=fY y k2;have y0:G.cell? ⟨w.heap.size+1,0,ν⟩=μ (ι κ 0):=Z.cell 0;have y1:G.cell? ⟨w.heap.size+1,1,ν⟩=μ (ι κ 0):=Z.cell 1;have y2:G.cell? ⟨w.heap.size+1,2,ν⟩=μ (ι κ 0):=Z.cell 2;have f0:=Z.frozen 0;have f1:=Z.frozen 1;have f2:=Z.frozen 2;have lY:=Z.lt;have J:=h.below u;have HY2:Hid _:=Z;have FA:Hid _:=u;clear V hX j k2 y hW Z u;cases hi:xG L x n with
 |none=>
  rw[hi]at Y;simp only at Y;have D:Hid ((zN L x).getD HP.zero=HP.zero):=by show _=_;rw[Y];rfl
  have A:Hid ((zN L x).isSome=false):=by show _=_;rw[Y];rfl
  have hv:Zg ν= -1:=rfl;rw[hv];clear Y J hv;go_wp2_with(fail);refine aE (v:=τ #[.agg #[ι κ 0,ι κ 0,ι κ 0],.bool false]) (by simp[results,results199,go_sem,y0,y1,y2]) rfl ?_;exact⟨by rw[D.out,A.out];rfl,bq (bq (bq FA.out (by show w.heap.size<=w.heap.size+1;omega) _) (by show w.heap.size<=w.heap.size+1;omega) _) (by show w.heap.size<=w.heap.size+1;omega) _⟩
 |some i=>
  rw[hi]at Y;obtain⟨h1,U,h3⟩:=Y;have kB:(i:Int)<(n:Int):=dU;have KU:¬(i:Int)<0:=dU;obtain⟨p,M⟩:∃p,zN L x=μ p:=Option.isSome_iff_exists.1 h3;rw[M]at U;have D:Hid ((zN L x).getD HP.zero=p):=by show _=_;rw[M];rfl
  have A:Hid ((zN L x).isSome=true):=by show _=_;rw[M];rfl
  have hv:Zg (μ i)=(i:Int):=rfl;rw[hv];clear hv;rcases J.row with e|⟨b,off,rfl,hc⟩
  ·omega
  obtain⟨c0,c1,c2⟩:=hc i p U;obtain⟨pd,pf,px⟩:=p;simp only at c0 c1 c2;have jm:b≠w.heap.size+1:=by
   rcases h.row with e|⟨b',agE,e',jN⟩
   ·omega
   ·cases e';have:=af w _ (jN i _ U).1;simp only at this;omega
  clear h1 U h3 M hc J;go_wp2_with(fail);refine aE (v:=τ #[.agg #[ι κ pd,ι κ pf,ι κ px],.bool true]) (by simp[results,results199,go_sem,y0,y1,y2]) rfl ?_;exact⟨by rw[D.out,A.out],bq (bq (bq FA.out (by show w.heap.size<=w.heap.size+1;omega) _) (by show w.heap.size<=w.heap.size+1;omega) _) (by show w.heap.size<=w.heap.size+1;omega) _⟩
def zO(C:mU)(o:Nat)(es:List jG):mU:=es.foldl (λC e=>yC C o e.1.toNat e.2) C
theorem OU(C:mU)(o:Nat)(es:List jG)(k:Nat)(h:k<es.length):zO C o (es.take (k+1))=yC (zO C o (es.take k)) o (es[k].1.toNat) (es[k].2):=by
 unfold zO;rw[ay h,cQ];rfl
def lI(S:Nat->SV)(E:Nat->List jG):Nat->mU
 |0=>λ_ _=>0
 |i+1=>zO (lI S E i) (S i).own.toNat (E i)
theorem OV(a:Option dQ)(n cap:Nat)(S:Nat->SV)(E:Nat->List jG)(w:dR)(h:qQ w a n S E)(hn:n<=1000)(iF:∀j,j<n->oD (S j).own (S j).seq (E j)=0):
 eT eU 162 #[σ a n cap] w λe w'=>e=ρ (.agg (gC (lI S E n)))/\eh w w':=by
 have hz:=zM;have Sj:Hid _:=iF;clear iF;obtain⟨Z,hZ⟩:=fW (gC (λ_ _=>0));rw[hZ]at hz
 go_in
 go_wp2_with(fail);obtain⟨W0,mT⟩:=fW ((w.alloc (γ Z 256)).alloc (γ Z 256));have xH:eh w W0:=by rw[<-mT];exact(gN _ _).alloc gO _
 have yk:jc W0 w.heap.size Z 256:=by rw[<-mT];exact(jc.new w Z _).below (gN _ _)
 have wQ:jc W0 (w.heap.size+1) (gC (lI S E 0)) 256:=by rw[<-mT];show jc _ _ (gC λ_ _=>0) _;rw[hZ];exact jc.IP _ _ _ _ gO
 rw[mT];clear mT;obtain⟨V,Je⟩:=fW (w.heap.size);have wZ:w.heap.size<=V:=dU;rw[Je]at yk wQ;rw[Je];clear Je
 go_loopw [10] (λv wr=>∃i:Nat,i<=n/\v=ι κ i/\jc wr (V+1) (gC (lI S E i)) 256/\jc wr V Z 256/\eh w wr) (λv _=>n-(eV v).toNat)
 case atStart=>exact⟨0,Nat.zero_le _,rfl,wQ,yk,xH⟩
 case round=>
  clear yk wQ xH;obtain⟨i,hi,rfl,T,M,U⟩:=hrel;by_cases ka:i<n
  ·have m8:(i:Int)<(n:Int):=dU;have hw:=h.below U;obtain⟨ho,mK,hx⟩:=hw.opt i ka;have iQ:=hw.row;rcases iQ with h1|⟨sb,off,rfl,hcs⟩
   ·omega
   obtain⟨c0,c1,c2⟩:=hcs i ka;have J:=Sj.out i ka;have HOW:=(h.opt i ka).1;have HT:Hid (lI S E (i+1)=zO (lI S E i) (S i).own.toNat (E i)):=rfl;obtain⟨s,hs⟩:=fW (S i);obtain⟨es,he⟩:=fW (E i);rw[hs]at c0 c1 c2 ho mK hx J HT HOW;rw[he]at ho J HT HOW;clear hs he hcs hw;obtain⟨so,sq,sa,sn,G⟩:=s;simp only at c0 c1 c2 ho mK hx J HT HOW;have Zi:=(jw J).1;obtain⟨o,rfl⟩:∃o:Nat,so=(o:Int):=⟨so.toNat,dU⟩
   rw[Int.toNat_natCast]at HT;have hes:=rJ _ es 0 (jw J).2.2.2;have HES:Hid _:=hes;have HOL:=ho.1;have hsn:sn<=6:=by have:=(jw J).2.2.1;omega
   have Zj:=U.alloc U.size (γ #[ι κ (o:Int),ι κ sq,σ sa sn G] 40);have rK:=zI (o:Int) sq sa sn G es _ hx (HOW.below Zj);have tC:Hid (jb (oD (o:Int) sq es)=η):=by show _=_;rw[J];rfl
   rw[tC.out]at rK;have A:=jc.new wr #[ι κ (o:Int),ι κ sq,σ sa sn G] 40;have Zk:=T.below (gN wr (γ #[ι κ (o:Int),ι κ sq,σ sa sn G] 40));have hZ2:=M.below (gN wr (γ #[ι κ (o:Int),ι κ sq,σ sa sn G] 40));have Hba:Hid _:=Zj;have Hwl:Hid (V+1<wr.heap.size):=T.lt;have Hlw:Hid _:=U.size;have HX:Hid _:=A;have HG2:Hid _:=Zk;have HZ2:Hid _:=hZ2;clear hes J U T M A Zk hZ2 ho mK hx Zj;go_wp2_with(fail);refine rK.mono ?_;rintro e w1 ⟨rfl,k1⟩;have y:=jc.below HX.out k1;have HG1:Hid _:=jc.below HG2.out k1;have u:Hid _:=jc.below HZ2.out k1;have Hb1:Hid _:=fY Hba.out k1;obtain⟨X,KW⟩:=fW (wr.heap.size);rw[KW]at y;have ag3:Hid (V+1<X):=by show _<_;rw[<-KW];exact Hwl.out
   have amc:Hid (w.heap.size<=X):=by show _<=_;rw[<-KW];exact Hlw.out
   rw[KW];have x0:w1.cell? ⟨X,0,ν⟩=μ (ι κ (o:Int)):=y.cell 0;have x1:w1.cell? ⟨X,1,ν⟩=μ (ι κ sq):=y.cell 1;have x2:w1.cell? ⟨X,2,ν⟩=μ (σ sa sn G):=y.cell 2;have HX1:Hid _:=y;clear rK k1 KW y HX HG2 HZ2 Hba Hwl Hlw c0 c1 c2;go_wp2_with(fail);obtain⟨W1,rfl⟩:∃W1,W1=w1:=⟨_,rfl⟩
   clear x0 x1 x2
   go_loopw [20] (λv wr=>∃k:Nat,k<=sn/\v=ι κ k/\jc wr (V+1) (gC (zO (lI S E i) o (es.take k))) 256/\jc wr V Z 256/\jc wr X #[ι κ (o:Int),ι κ sq,σ sa sn G] 40/\eh w wr) (λv _=>sn-(eV v).toNat)
   case atStart=>exact⟨0,Nat.zero_le _,rfl,HG1.out,u.out,HX1.out,Hb1.out⟩
   case round=>
    clear HG1 u HX1 Hb1;obtain⟨k,hk,rfl,T,M,A,U⟩:=hrel;by_cases Cg:k<sn
    ·have amd:(k:Int)<(sn:Int):=dU;have hoe:=HOW.below U;rcases hoe.2 with h1|⟨eb,ame,rfl,hec⟩
     ·omega
     obtain⟨d0,d1⟩:=hec k dU;have I7:=HES.out _ (aK (show k<es.length by omega));have HP:Hid (zO (lI S E i) o (es.take (k+1))=yC (zO (lI S E i) o (es.take k)) o ((es[k]'(by omega)).1.toNat) ((es[k]'(by omega)).2)):=OU _ o es k dU;obtain⟨p,hp⟩:=fW (es[k]'(by omega));rw[hp]at d0 d1 I7 HP;obtain⟨pt,pm⟩:=p;simp only at d0 d1 I7 HP;obtain⟨t,rfl⟩:∃t:Nat,pt=(t:Int):=⟨pt.toNat,dU⟩
     rw[Int.toNat_natCast]at HP;obtain⟨D,nC⟩:=fW (wr.alloc (γ #[ι κ (t:Int),ι κ pm] 123));have kb:eh wr D:=by rw[<-nC];exact gN _ _
     have hY:jc D wr.heap.size #[ι κ (t:Int),ι κ pm] 123:=by rw[<-nC];exact jc.new _ _ _
     have Zl:=T.below kb;have yj:=A.below kb;have Hb3:Hid _:=fY U kb;have HZ3:Hid _:=M.below kb;have VN:Hid _:=nC;clear hec hp hoe nC;obtain⟨Y,OW⟩:=fW (wr.heap.size);have HYl:Hid (X<Y):=by show _<_;rw[<-OW];exact A.lt
     rw[OW]at hY;have HYe:Hid _:=OW;clear OW kb T A M U;have y0:D.drew.cell? ⟨Y,0,ν⟩=μ (ι κ (t:Int)):=hY.cell 0;have y1:D.drew.cell? ⟨Y,1,ν⟩=μ (ι κ pm):=hY.cell 1;have z0:D.drew.cell? ⟨X,0,ν⟩=μ (ι κ (o:Int)):=yj.cell 0;have g0:D.drew.cell? ⟨V+1,o*7+t,ν⟩=μ (ι κ (zO (lI S E i) o (es.take k) o t)):=(Zl.cell _).trans (zL _ o t dU dU);have g1:D.drew.frozen? ⟨V+1,o*7+t,ν⟩=false:=Zl.frozen _;have o7:(o:Int)<7:=dU;have t7:(t:Int)<7:=dU;have HG3:Hid _:=Zl;have HX3:Hid _:=yj;have HY3:Hid _:=hY;clear Zl yj hY I7 Zi
     go_upto_region 9 with fail
     rw[VN.out,HYe.out]
     go_region
     all_goals
      go_wp2
      go_roundw
      case rel=>
       have jm:X≠V+1:=by have:=ag3.out;omega
       refine⟨k+1,dU,by go_num,?_,?_,?_,?_⟩
       ·rw[HP.out,<-Se _ o t pm dU];exact jc.set HG3.out _ _
       ·exact jc.other HZ3.out dU _
       ·exact jc.other HX3.out jm _
       ·exact below_drewN (bq Hb3.out (by show w.heap.size<=V+1;omega) _) 1
      case measure=>simp[eV];omega
    ·have yt:¬(k:Int)<(sn:Int):=dU;have HG:Hid _:=T;have HZ:Hid _:=M;have HB:Hid _:=U;clear T M A U
     go_wp2
     go_roundw
     case rel=>
      refine⟨i+1,dU,by go_num,?_,HZ.out,HB.out⟩;have e1:es.take k=es:=aG dU;rw[HT.out,<-e1];exact HG.out
     case measure=>simp[eV];omega
  ·have lL:i=n:=dU;subst lL;have yt:¬(i:Int)<(i:Int):=dU;clear ka;obtain⟨g,hg⟩:=fW (gC (lI S E i));have gs:g.size=49:=by rw[<-hg];exact pC _
   have g1:g.all (·.oneCell')=true:=by rw[<-hg];exact LA _
   have zs:Z.size=49:=by rw[<-hZ];exact pC _
   rw[hg]at T;have HGE:Hid (g=gC (lI S E i)):=hg.symm;have hR:jc (wr.setRow V g) V g 256:=M.setRow;have l6:=bL (P:=eU) (wr.setRow V g) V 256 256 g (0,0) _ hR underlying256 rfl (by rw[gs];exact wy);have HBE:Hid (eh w (wr.setRow V g)):=oe U wZ g;have uG:(eU.info? 256).map (·.size)=μ g.size:=by rw[gs];exact wy
   have qX:Z.size=g.size:=by rw[gs,zs]
   clear hR hg hZ U;go_wp2_with(first
    |refine nA _ rfl (.tmp 3) 256 rfl (V+1) g _ _ rfl T underlying256 uG ?_
    |refine lP _ rfl (.tmp 2) (.tmp 34) 256 rfl V Z g rfl rfl M qX uG g1 ?_)
   refine aE (v:=.agg g) (by simp[results,results162,asAddr,l6]) rfl ?_;exact⟨by rw[HGE.out],HBE.out⟩
theorem vj {C D:mU} (h:∀x y,x<7->y<7->C x y=D x y):gC C=gC D:=by
 apply bS;intro i;by_cases hi:i<49
 ·rw[Jb _ i hi,Jb _ i hi,h (i/7) (i%7) dU dU]
 ·rw[a8 (by rw[pC];omega),a8 (by rw[pC];omega)]
def oG(C:mU):mU:=λx y=>if 0<C y x then C x y else 0
def Iz(C:mU)(a b:Nat):mU:=λx y=>if x<a \/(x=a/\y<b)then oG C x y else 0
theorem Sk(C:mU)(a b:Nat):gC (Iz C a (b+1))=gC (yC (Iz C a b) a b (oG C a b)):=by
 refine vj λx y hx hy=> ?_;simp only[Iz,yC];by_cases Z:x=a/\y=b
 ·rw[ag Z,ag dU,Z.1,Z.2]
 ·rw[ae Z];by_cases Y:x<a \/(x=a/\y<b)
  ·rw[ag Y,ag dU]
  ·rw[ae Y,ae dU]
theorem Sl(C:mU)(a b:Nat)(h:oG C a b=0):gC (Iz C a (b+1))=gC (Iz C a b):=by
 refine vj λx y hx hy=> ?_;simp only[Iz];by_cases Y:x=a/\y=b
 ·rw[ag dU,ae dU,Y.1,Y.2,h]
 ·by_cases Z:x<a \/(x=a/\y<b)
  ·rw[ag Z,ag dU]
  ·rw[ae Z,ae dU]
theorem VP(C:mU)(a:Nat):gC (Iz C a 7)=gC (Iz C (a+1) 0):=by
 refine vj λx y hx hy=> ?_;simp only[Iz];by_cases Z:x<a \/(x=a/\y<7)
 ·rw[ag Z,ag dU]
 ·rw[ae Z,ae dU]
theorem Sm(C:mU)(w:dR):
 eT eU 163 #[.agg (gC C)] w λe w'=>e=ρ (.agg (gC (oG C)))/\eh w w':=by
 have hz:=zM;obtain⟨Z,hZ⟩:=fW (gC (λ_ _=>0));rw[hZ]at hz;obtain⟨c,hc⟩:=fW (gC C);rw[hc]
 go_in
 go_wp2_with(fail);obtain⟨W0,u⟩:=fW (((w.alloc (γ c 256)).alloc (γ Z 256)).alloc (γ Z 256));have xH:eh w W0:=by rw[<-u];exact((gN _ _).alloc gO _).alloc (by simp;omega) _
 have yk:jc W0 w.heap.size c 256:=by rw[<-u];exact((jc.new w c _).below (gN _ _)).below (gN _ _)
 have wQ:jc W0 (w.heap.size+1) Z 256:=by rw[<-u];exact(jc.IP _ Z _ _ gO).below (gN _ _)
 have EG:jc W0 (w.heap.size+2) (gC (Iz C 0 0)) 256:=by
  rw[<-u];have:gC (Iz C 0 0)=Z:=by rw[<-hZ];exact vj λx y _ _=>by simp[Iz]
  rw[this];exact jc.IP _ _ _ _ gO
 rw[u];clear u;obtain⟨Y,Je⟩:=fW (w.heap.size);have wZ:w.heap.size<=Y:=dU;rw[Je]at yk wQ EG;rw[Je];clear Je
 go_loopw [6] (λv wr=>∃a:Nat,a<=7/\v=ι κ a/\jc wr (Y+2) (gC (Iz C a 0)) 256/\jc wr Y c 256/\jc wr (Y+1) Z 256/\eh w wr) (λv _=>7-(eV v).toNat)
 case atStart=>exact⟨0,dU,rfl,EG,yk,wQ,xH⟩
 case round=>
  clear yk wQ EG xH;obtain⟨a,ha,rfl,X,V,U,T⟩:=hrel;by_cases D:a<7
  ·have ag5:(a:Int)<7:=dU;have G:Hid _:=X;have J:Hid _:=V;have M:Hid _:=U;have A:Hid _:=T;clear X V U T
   go_wp2
   go_loopw [9] (λv wr=>∃b:Nat,b<=7/\v=ι κ b/\jc wr (Y+2) (gC (Iz C a b)) 256/\jc wr Y c 256/\jc wr (Y+1) Z 256/\eh w wr) (λv _=>7-(eV v).toNat)
   case atStart=>exact⟨0,dU,rfl,G.out,J.out,M.out,A.out⟩
   case round=>
    clear G J M A;obtain⟨b,hb,rfl,X,V,U,T⟩:=hrel;by_cases Zm:b<7
    ·have Zn:(b:Int)<7:=dU;have r1:wr.cell? ⟨Y,b*7+a,ν⟩=μ (ι κ (C b a)):=(V.cell _).trans (by rw[<-hc];exact zL C b a Zm D);have r2:wr.cell? ⟨Y,a*7+b,ν⟩=μ (ι κ (C a b)):=(V.cell _).trans (by rw[<-hc];exact zL C a b D Zm);have r3:wr.cell? ⟨Y+2,a*7+b,ν⟩=μ (ι κ (Iz C a b a b)):=(X.cell _).trans (zL _ a b D Zm);have r4:=X.frozen (a*7+b);have G:Hid _:=X;have J:Hid _:=V;have M:Hid _:=U;have A:Hid _:=T;clear X V U T;by_cases ti:0<C b a
     ·have HS:Hid (oG C a b=C a b):=by show _=_;simp[oG,ti]
      go_wp2
      go_region
      all_goals
       go_wp2
       go_roundw
       case rel=>
        refine⟨b+1,dU,by go_num,?_,jc.other J.out dU _,jc.other M.out dU _,below_drewN (bq A.out (by show w.heap.size<=Y+2;omega) _) 1⟩;rw[Sk,HS.out,<-Se _ a b _ Zm];exact jc.set G.out _ _
       case measure=>simp[eV];omega
     ·have HS:Hid (oG C a b=0):=by show _=_;simp[oG,ti]
      go_wp2
      go_roundw
      case rel=>exact⟨b+1,dU,by go_num,by rw[Sl _ _ _ HS.out];exact G.out,J.out,M.out,A.out⟩
      case measure=>simp[eV];omega
    ·have Zn:¬(b:Int)<7:=dU;have hbe:b=7:=dU;have G:Hid _:=X;have J:Hid _:=V;have M:Hid _:=U;have A:Hid _:=T;clear X V U T
     go_wp2
     go_roundw
     case rel=>exact⟨a+1,dU,by go_num,by rw[<-VP,<-hbe];exact G.out,J.out,M.out,A.out⟩
     case measure=>simp[eV];omega
  ·have ag5:¬(a:Int)<7:=dU;have j:Hid (gC (Iz C a 0)=gC (oG C)):=vj λx y hx hy=>by simp only[Iz];rw[ag dU]
   obtain⟨g,h⟩:=fW (gC (Iz C a 0));have gs:g.size=49:=by rw[<-h];exact pC _
   have g1:g.all (·.oneCell')=true:=by rw[<-h];exact LA _
   have zs:Z.size=49:=by rw[<-hZ];exact pC _
   rw[h]at X j;have hR:jc (wr.setRow (Y+1) g) (Y+1) g 256:=U.setRow;have l6:=bL (P:=eU) (wr.setRow (Y+1) g) (Y+1) 256 256 g (0,0) _ hR underlying256 rfl (by rw[gs];exact wy);have HBE:Hid (eh w (wr.setRow (Y+1) g)):=oe T dU g;have uG:(eU.info? 256).map (·.size)=μ g.size:=by rw[gs];exact wy
   have qX:Z.size=g.size:=by rw[gs,zs]
   clear hR h hZ T V;go_wp2_with(first
    |refine nA _ rfl (.tmp 3) 256 rfl (Y+2) g _ _ rfl X underlying256 uG ?_
    |refine lP _ rfl (.tmp 2) (.tmp 29) 256 rfl (Y+1) Z g rfl rfl U qX uG g1 ?_)
   refine aE (v:=.agg g) (by simp[results,results163,asAddr,l6]) rfl ?_;exact⟨by rw[j.out],HBE.out⟩
theorem AQ(S:Nat->SV)(E:Nat->List jG):∀n,(∀j,j<n->oD (S j).own (S j).seq (E j)=0)->∀x y,0<=lI S E n x y/\lI S E n x y<=20
 |0,_,x,y=>by simp[lI]
 |n+1,h,x,y=>by
  have ih:=AQ S E n (λj hj=>h j dU);have Z:=rJ _ (E n) 0 (jw (h n dU)).2.2.2;simp only[lI,zO];generalize E n=es at Z;generalize lI S E n=C at ih
  induction es generalizing C with
  |nil=>exact ih x y
  |cons e es ihs=>
   rw[bO];refine ihs (λq Y=>Z q (by simp[Y])) _ (λu v=> ?_);simp only[yC];have:=Z e gO;split
   ·omega
   ·exact ih u v
def nI(C:mU)(r n:Nat):Nat->HP:=λx=>if x<n/\0<C r x then⟨x,C r x,x⟩else HP.zero
theorem C9 {H K:Nat->HP} (h:∀x,x<7->H x=K x):hC H=hC K:=by
 apply bS;intro i;by_cases hi:i<21
 ·rw[C6 _ i hi,C6 _ i hi];unfold Jc;rw[h (i/3) dU]
 ·rw[a8 (by rw[sD];omega),a8 (by rw[sD];omega)]
theorem LB(C:mU)(r n:Nat)(h:0<C r n):hC (nI C r (n+1))=hC (C8 (nI C r n) n ⟨n,C r n,n⟩):=by
 refine C9 λx hx=> ?_;simp only[nI,C8];by_cases e:x=n
 ·subst e;rw[ag ⟨dU,h⟩,ag rfl]
 ·rw[ae e];by_cases Z:x<n/\0<C r x
  ·rw[ag Z,ag ⟨dU,Z.2⟩]
  ·rw[ae Z,ae (λY=>Z ⟨dU,Y.2⟩)]
theorem OX(C:mU)(r n:Nat)(h:¬0<C r n):hC (nI C r (n+1))=hC (nI C r n):=by
 refine C9 λx hx=> ?_;simp only[nI];by_cases e:x=n
 ·subst e;rw[ae (λZ=>h Z.2),ae (λZ=>h Z.2)]
 ·by_cases Y:x<n/\0<C r x
  ·rw[ag Y,ag ⟨dU,Y.2⟩]
  ·rw[ae Y,ae (λZ=>Y ⟨dU,Z.2⟩)]
theorem OY(C:mU)(r:Nat)(hr:r<7)(w:dR):
 eT eU 164 #[.agg (gC C),ι κ (r:Int)] w λe w'=>e=ρ (.agg (hC (nI C r 7)))/\eh w w':=by
 have hz:=Jd;obtain⟨Z,G⟩:=fW (hC (λ_=>HP.zero));rw[G]at hz;obtain⟨c,hc⟩:=fW (gC C);rw[hc];have hr7:(r:Int)<7:=dU
 go_in
 go_wp2_with(fail);obtain⟨W0,V⟩:=fW (((w.alloc (γ c 256)).alloc (γ Z 259)).alloc (γ Z 259));have xH:eh w W0:=by rw[<-V];exact((gN _ _).alloc gO _).alloc (by simp;omega) _
 have y:jc W0 w.heap.size c 256:=by rw[<-V];exact((jc.new w c _).below (gN _ _)).below (gN _ _)
 have wQ:jc W0 (w.heap.size+1) Z 259:=by rw[<-V];exact(jc.IP _ Z _ _ gO).below (gN _ _)
 have EG:jc W0 (w.heap.size+2) (hC (nI C r 0)) 259:=by
  rw[<-V];have:hC (nI C r 0)=Z:=by rw[<-G];exact C9 λx _=>by simp[nI]
  rw[this];exact jc.IP _ _ _ _ gO
 rw[V];clear V;obtain⟨Y,A⟩:=fW (w.heap.size);have wZ:w.heap.size<=Y:=dU;rw[A]at y wQ EG;rw[A];clear A
 go_loopw [8] (λv wr=>∃n:Nat,n<=7/\v=ι κ n/\jc wr (Y+2) (hC (nI C r n)) 259/\jc wr Y c 256/\jc wr (Y+1) Z 259/\eh w wr) (λv _=>7-(eV v).toNat)
 case atStart=>exact⟨0,dU,rfl,EG,y,wQ,xH⟩
 case round=>
  clear y wQ EG xH;obtain⟨n,hn,rfl,X,M,T,J⟩:=hrel;by_cases u:n<7
  ·have Sn:(n:Int)<7:=dU;have r1:wr.cell? ⟨Y,r*7+n,ν⟩=μ (ι κ (C r n)):=(M.cell _).trans (by rw[<-hc];exact zL C r n hr u);obtain⟨q0,q1,q2⟩:=G5 (nI C r n) n u;have s0:=(X.cell (n*3)).trans q0;have s1:=(X.cell (n*3+1)).trans q1;have s2:=(X.cell (n*3+2)).trans q2;have f0:=X.frozen (n*3);have f1:=X.frozen (n*3+1);have f2:=X.frozen (n*3+2);have lG:=X.lt;have HG:Hid _:=X;have ER:Hid _:=M;have Vf:Hid _:=T;have HB:Hid _:=J;clear X M T J q0 q1 q2;have HY:=LB C r n;have HN:=OX C r n;have HYy:Hid _:=HY;have h:Hid _:=HN;clear HY HN;by_cases ti:0<C r n
   ·go_wp2
    go_roundw
    case rel=>
     refine⟨n+1,dU,by go_num,?_,jc.other (jc.other (jc.other ER.out dU _) dU _) dU _,jc.other (jc.other (jc.other Vf.out dU _) dU _) dU _,bq (bq (bq HB.out (by show w.heap.size<=Y+2;omega) _) (by show w.heap.size<=Y+2;omega) _) (by show w.heap.size<=Y+2;omega) _⟩;rw[HYy.out ti,<-Sg _ n _ u];exact jc.set (jc.set (jc.set HG.out _ _) _ _) _ _
    case measure=>simp[eV];omega
   ·go_wp2
    go_roundw
    case rel=>exact⟨n+1,dU,by go_num,by rw[h.out ti];exact HG.out,ER.out,Vf.out,HB.out⟩
    case measure=>simp[eV];omega
  ·have Sn:¬(n:Int)<7:=dU;have jm:n=7:=dU;obtain⟨g,U⟩:=fW (hC (nI C r n));have gs:g.size=21:=by rw[<-U];exact sD _
   have g1:g.all (·.oneCell')=true:=by rw[<-U];exact Sf _
   have zs:Z.size=21:=by rw[<-G];exact sD _
   have j:Hid (g=hC (nI C r 7)):=by show _=_;rw[<-U,jm]
   rw[U]at X;have hR:jc (wr.setRow (Y+1) g) (Y+1) g 259:=T.setRow;have l6:=bL (P:=eU) (wr.setRow (Y+1) g) (Y+1) 259 259 g (0,0) _ hR underlying259 rfl (by rw[gs];exact G6);have D:Hid (eh w (wr.setRow (Y+1) g)):=oe J dU g;have uG:(eU.info? 259).map (·.size)=μ g.size:=by rw[gs];exact G6
   have qX:Z.size=g.size:=by rw[gs,zs]
   clear hR U G J M jm;go_wp2_with(first
    |refine nA _ rfl (.tmp 5) 259 rfl (Y+2) g _ _ rfl X underlying259 uG ?_
    |refine lP _ rfl (.tmp 4) (.tmp 25) 259 rfl (Y+1) Z g rfl rfl T qX uG g1 ?_)
   refine aE (v:=.agg g) (by simp[results,results164,asAddr,l6]) rfl ?_;exact⟨by rw[j.out],D.out⟩
def G7(a b:HP):Bool:=b.far==0||decide (a.far<b.far)||(a.far==b.far&&decide (a.uF<b.uF))
theorem Jg(a b:HP)(w:dR):
 eT eU 205 #[.agg #[ι κ a.dst,ι κ a.far,ι κ a.uF],.agg #[ι κ b.dst,ι κ b.far,ι κ b.uF]] w λe w'=>e=ρ (.bool (G7 a b))/\eh w w':=by
 obtain⟨V,Z,Y⟩:=a;obtain⟨b0,b1,b2⟩:=b;simp only;have T:eh w ((w.alloc (γ #[ι κ V,ι κ Z,ι κ Y] 98)).alloc (γ #[ι κ b0,ι κ b1,ι κ b2] 98)):=(gN _ _).alloc gO _;have M:Hid (G7 ⟨V,Z,Y⟩ ⟨b0,b1,b2⟩=(b1==0||decide (Z<b1)||(Z==b1&&decide (Y<b2)))):=rfl;by_cases D:(b1==0)=true
 ·have X:Hid (G7 ⟨V,Z,Y⟩ ⟨b0,b1,b2⟩=true):=by show _=_;rw[M.out,D];rfl
  go_in
  go_wp2_with(fail);rw[X.out];go_ret;exact⟨rfl,T⟩
 have U:(b1==0)=false:=by simpa using D
 by_cases J:Z<b1
 ·have X:Hid (G7 ⟨V,Z,Y⟩ ⟨b0,b1,b2⟩=true):=by show _=_;rw[M.out,dL J];simp
  go_in
  go_wp2_with(fail);rw[X.out];go_ret;exact⟨rfl,T⟩
 by_cases G:(Z==b1)=true
 ·have X:Hid (G7 ⟨V,Z,Y⟩ ⟨b0,b1,b2⟩=decide (Y<b2)):=by show _=_;rw[M.out,U,dA J,G];simp
  rw[X.out]
  go_in
  go_wp2
  go_ret;exact⟨rfl,T⟩
 have A:(Z==b1)=false:=by simpa using G
 have X:Hid (G7 ⟨V,Z,Y⟩ ⟨b0,b1,b2⟩=false):=by show _=_;rw[M.out,U,dA J,A];simp
 go_in
 go_wp2_with(fail);rw[X.out];go_ret;exact⟨rfl,T⟩
def AR(C:mU)(r b n:Nat)(H:Nat->HP):Nat->HP:=
 if(H b).far=0 \/C b n=0 \/n=r then H
 else if G7 ⟨n,(H b).far+C b n,(H b).uF⟩ (H n)=true then C8 H n ⟨n,(H b).far+C b n,(H b).uF⟩else H
def vm(C:mU)(r b:Nat)(H:Nat->HP):Nat->Nat->HP
 |0=>H
 |n+1=>AR C r b n (vm C r b H n)
def Q5(C:mU)(r:Nat)(H:Nat->HP):Nat->Nat->HP
 |0=>H
 |b+1=>vm C r b (Q5 C r H b) 7
def qZ(H:Nat->HP)(m:Int):Prop:=∀n,0<=(H n).far/\(H n).far<=m
theorem qZ.step {C:mU} {r:Nat} {H:Nat->HP} {m:Int} (h:qZ H m)(hC:∀x y,0<=C x y/\C x y<=20):qZ (AR C r b n H) (m+20):=by
 intro x;have hx:=h x;have hb:=h b;have hc:=hC b n;unfold AR;split
 ·omega
 ·split
  ·simp only[C8];split
   ·simp only;omega
   ·omega
  ·omega
theorem qZ.row {C:mU} {r b:Nat} {H:Nat->HP} {m:Int} (h:qZ H m)(hC:∀x y,0<=C x y/\C x y<=20):∀n,qZ (vm C r b H n) (m+20*n)
 |0=>λx=>by have:=h x;simp only[vm];omega
 |n+1=>λx=>by
  have:=(qZ.step (C:=C) (r:=r) (b:=b) (n:=n) (qZ.row (r:=r) (b:=b) h hC n) hC) x;simp only[vm];push_cast;omega
theorem qZ.go {C:mU} {r:Nat} {H:Nat->HP} {m:Int} (h:qZ H m)(hC:∀x y,0<=C x y/\C x y<=20):∀b,qZ (Q5 C r H b) (m+140*b)
 |0=>λx=>by have:=h x;simp only[Q5];omega
 |b+1=>λx=>by
  have:=(qZ.row (C:=C) (r:=r) (b:=b) (qZ.go (r:=r) h hC b) hC 7) x;simp only[Q5];push_cast at this⊢;omega
theorem LC {a:dR} {o:Option Nat} (h:a.grownBy w o):a.grownBy w.drew o:=⟨h.os,h.tape,h.output,h.size,h.block⟩
theorem Ss(C:mU)(r:Nat)(hr:r<7)(H:Nat->HP)(B:Nat)(m:Int)(w:dR)(hB:jc w B (hC H) 259)(Zo:∀x y,0<=C x y/\C x y<=20)(hm:qZ H m)(BL:m<=1000000):
 eT eU 165 #[π (μ ⟨B,0,ν⟩),.agg (gC C),ι κ (r:Int)] w λe w'=>e=ρ (τ #[])/\jc w' B (hC (Q5 C r H 7)) 259/\w.grownBy w' (μ B):=by
 obtain⟨c,hc⟩:=fW (gC C);rw[hc];have hr7:(r:Int)<7:=dU
 go_in
 go_wp2_with(fail);obtain⟨W0,mT⟩:=fW (w.alloc (γ c 256));have Jh:eh w W0:=by rw[<-mT];exact gN _ _
 have xH:w.grownBy W0 (μ B):=⟨Jh.os,Jh.tape,Jh.output,Jh.size,λi hi _=>Jh.block i hi⟩
 have yk:jc W0 w.heap.size c 256:=by rw[<-mT];exact jc.new w c _
 have wQ:jc W0 B (hC (Q5 C r H 0)) 259:=hB.below Jh;have hBC:B<w.heap.size:=hB.lt;rw[mT];clear mT Jh hB;obtain⟨j,Je⟩:=fW (w.heap.size);have wZ:w.heap.size<=j:=dU;rw[Je]at yk hBC;rw[Je];clear Je;have HFL:=λb=>hm.go (r:=r) Zo b;have HM:Hid _:=HFL;clear HFL hm
 go_loopw [9] (λv wr=>∃b:Nat,b<=7/\v=ι κ b/\jc wr B (hC (Q5 C r H b)) 259/\jc wr j c 256/\w.grownBy wr (μ B)) (λv _=>7-(eV v).toNat)
 case atStart=>exact⟨0,dU,rfl,wQ,yk,xH⟩
 case round=>
  clear yk wQ xH;obtain⟨b,hb,rfl,X,h,A⟩:=hrel;by_cases Zm:b<7
  ·have Zn:(b:Int)<7:=dU;have V:Hid _:=X;have J:Hid _:=h;have Z:Hid _:=A;have VR:Hid (Q5 C r H (b+1)=vm C r b (Q5 C r H b) 7):=rfl;have hmb:=HM.out b;clear X h A;obtain⟨M,hHb⟩:=fW (Q5 C r H b);rw[hHb]at V VR hmb;have HMB:Hid (∀n,qZ (vm C r b M n) (m+140*b+20*n)):=λn=>hmb.row Zo n;clear hmb hHb
   go_wp2
   go_loopw [12] (λv wr=>∃n:Nat,n<=7/\v=ι κ n/\jc wr B (hC (vm C r b M n)) 259/\jc wr j c 256/\w.grownBy wr (μ B)) (λv _=>7-(eV v).toNat)
   case atStart=>exact⟨0,dU,rfl,V.out,J.out,Z.out⟩
   case round=>
    clear V J Z;obtain⟨n,hn,rfl,X,h,A⟩:=hrel;by_cases VQ:n<7
    ·have Sn:(n:Int)<7:=dU;have X3:Hid (vm C r b M (n+1)=AR C r b n (vm C r b M n)):=rfl;have wz:=HMB.out n b;obtain⟨G,hGe⟩:=fW (vm C r b M n);rw[hGe]at X X3 wz;clear hGe;have r1:wr.cell? ⟨j,b*7+n,ν⟩=μ (ι κ (C b n)):=(h.cell _).trans (by rw[<-hc];exact zL C b n Zm VQ);obtain⟨p0,p1,p2⟩:=G5 G b Zm;have b0:=(X.cell (b*3)).trans p0;have b1:=(X.cell (b*3+1)).trans p1;have b2:=(X.cell (b*3+2)).trans p2;clear p0 p1 p2;have V:Hid _:=X;have J:Hid _:=h;have Z:Hid _:=A;clear X h A;by_cases h1:(G b).far=0
     ·have vp:((G b).far==0)=true:=by simpa using h1
      have T:Hid (vm C r b M (n+1)=G):=by show _=_;rw[X3.out,AR,ag (.inl h1)]
      generalize (G b).far=bf at b1 vp;clear h1
      go_wp2
      go_roundw
      case rel=>exact⟨n+1,dU,by go_num,by rw[T.out];exact V.out,J.out,Z.out⟩
      case measure=>simp[eV];omega
     have vp:((G b).far==0)=false:=by simpa using h1
     by_cases h2:C b n=0
     ·have zP:(C b n==0)=true:=by simpa using h2
      have T:Hid (vm C r b M (n+1)=G):=by show _=_;rw[X3.out,AR,ag (.inr (.inl h2))]
      generalize (G b).far=bf at b1 vp;generalize C b n=cbn at r1 zP;clear h1 h2
      go_wp2
      go_roundw
      case rel=>exact⟨n+1,dU,by go_num,by rw[T.out];exact V.out,J.out,Z.out⟩
      case measure=>simp[eV];omega
     have zP:(C b n==0)=false:=by simpa using h2
     by_cases h3:n=r
     ·have sO:((n:Int)==(r:Int))=true:=by simp[h3]
      have T:Hid (vm C r b M (n+1)=G):=by show _=_;rw[X3.out,AR,ag (.inr (.inr h3))]
      generalize (G b).far=bf at b1 vp;generalize C b n=cbn at r1 zP;clear h1 h2 h3
      go_wp2
      go_roundw
      case rel=>exact⟨n+1,dU,by go_num,by rw[T.out];exact V.out,J.out,Z.out⟩
      case measure=>simp[eV];omega
     have sO:((n:Int)==(r:Int))=false:=by
      have:¬(n:Int)=(r:Int):=dU;simpa using this
     have T:Hid (vm C r b M (n+1)=if G7 ⟨n,(G b).far+C b n,(G b).uF⟩ (G n)=true then C8 G n ⟨n,(G b).far+C b n,(G b).uF⟩else G):=by
      show _=_;rw[X3.out,AR,ae (by simp[h1,h2,h3])]
     have uj:=Zo b n;have Sv:fh.wrap ((G b).far+C b n)=(G b).far+C b n:=aP _ ⟨dU,dU⟩;have u:=Jg ⟨n,(G b).far+C b n,(G b).uF⟩ (G n);obtain⟨p0,p1,p2⟩:=G5 G n VQ;have HN:Hid (∀W,jc W B (hC G) 259->W.cell? ⟨B,n*3,ν⟩=μ (ι κ (G n).dst)/\W.cell? ⟨B,n*3+1,ν⟩=μ (ι κ (G n).far)/\W.cell? ⟨B,n*3+2,ν⟩=μ (ι κ (G n).uF)):=
      λW hW=>⟨(hW.cell _).trans p0,(hW.cell _).trans p1,(hW.cell _).trans p2⟩
     clear p0 p1 p2 X3 h1 h2 h3 wz uj;generalize G7 ⟨n,(G b).far+C b n,(G b).uF⟩ (G n)=bt at T u;simp only at u;generalize G4:(G b).far+C b n=ff at T u Sv;generalize (G b).far=bf at b1 vp G4 Sv;generalize C b n=cbn at r1 zP G4 Sv;generalize (G b).uF=bx at b2 T u;generalize (G n).dst=nd at HN u;generalize (G n).far=nf at HN u;generalize (G n).uF=nx at HN u;have ag7:fh.wrap (bf+cbn)=ff:=by rw[G4];exact Sv
     have d0:wr.drew.cell? ⟨B,b*3+1,ν⟩=μ (ι κ bf):=b1;have d1:wr.drew.cell? ⟨B,b*3+2,ν⟩=μ (ι κ bx):=b2;have d2:wr.drew.cell? ⟨j,b*7+n,ν⟩=μ (ι κ cbn):=r1;have lB:B<wr.heap.size:=jc.lt V.out;have lC:j<wr.heap.size:=jc.lt J.out;have kz:=gN wr (γ #[ι κ 0,ι κ 0,ι κ 0] 98);have e0:=(kz.cell (p:=⟨B,b*3+1,ν⟩) lB).trans b1;have e1:=(kz.cell (p:=⟨B,b*3+2,ν⟩) lB).trans b2;have e2:=(kz.cell (p:=⟨j,b*7+n,ν⟩) lC).trans r1;clear G4 Sv kz
     go_upto_region 8 with fail
     clear vp zP sO
     go_region
     all_goals
      obtain⟨W3,wP⟩:=fW ((wr.alloc (γ #[ι κ (n:Int),ι κ ff,ι κ bx] 98)).drew);have k3:eh wr W3:=by rw[<-wP];exact below_drewN (gN _ _) 1
      have hY:jc W3 wr.heap.size #[ι κ (n:Int),ι κ ff,ι κ bx] 98:=by rw[<-wP];exact jc.drewN (jc.new wr _ _) 1
      obtain⟨Y,OW⟩:=fW (wr.heap.size);have Zl:=jc.below V.out k3;have Hc3:Hid _:=jc.below J.out k3;have KX:Hid (w.grownBy W3 (μ B)):=⟨k3.os.trans Z.out.os,k3.tape.trans Z.out.tape,k3.output.trans Z.out.output,Nat.le_trans Z.out.size k3.size,λi hi D=>(k3.block i (Nat.lt_of_lt_of_le hi Z.out.size)).trans (Z.out.block i hi D)⟩
      have HYB:Hid (B<Y/\j<Y):=by show _/\_;rw[<-OW];exact⟨lB,lC⟩
      rw[OW]at hY;have HY:Hid _:=hY;have HG3:Hid _:=Zl;have HF:Hid (∀W,eh W3 W->(W.cell? ⟨Y,0,ν⟩=μ (ι κ (n:Int))/\W.cell? ⟨Y,1,ν⟩=μ (ι κ ff)/\W.cell? ⟨Y,2,ν⟩=μ (ι κ bx))/\W.cell? ⟨B,n*3,ν⟩=μ (ι κ nd)/\W.cell? ⟨B,n*3+1,ν⟩=μ (ι κ nf)/\W.cell? ⟨B,n*3+2,ν⟩=μ (ι κ nx)):=by
       intro W hW;have q:=jc.below HY.out hW;exact⟨⟨jc.cell q 0,jc.cell q 1,jc.cell q 2⟩,HN.out W (jc.below HG3.out hW)⟩
      have KD:eh W3 W3.drew:=below_drewN (au _ _) 1;have F0:=HF.out _ KD;rw[wP,OW];clear wP k3 OW Zl hY d0 d1 d2 e0 e1 e2 b0 b1 b2 r1 lB lC ag7
      go_wp2
      go_region_held3(λx=>(x.cell? ⟨Y,0,ν⟩=μ (ι κ (n:Int))/\x.cell? ⟨Y,1,ν⟩=μ (ι κ ff)/\x.cell? ⟨Y,2,ν⟩=μ (ι κ bx))/\x.cell? ⟨B,n*3,ν⟩=μ (ι κ nd)/\x.cell? ⟨B,n*3+1,ν⟩=μ (ι κ nf)/\x.cell? ⟨B,n*3+2,ν⟩=μ (ι κ nx))
       (first|assumption|exact F0|exact F1)
       ((go_at_call 205;refine(u _).mono ?_;rintro e w5 ⟨rfl,k5⟩;have F1:=HF.out _ (fY KD k5)))
      all_goals
       have X4:=fY KD k5;have U:=jc.below HG3.out X4;have HG5:Hid _:=U;have Hc5:Hid _:=jc.below Hc3.out X4;have Zq:Hid (w.grownBy w5 (μ B)):=⟨X4.os.trans KX.out.os,X4.tape.trans KX.out.tape,X4.output.trans KX.out.output,Nat.le_trans KX.out.size X4.size,λi hi D=>(X4.block i (Nat.lt_of_lt_of_le hi KX.out.size)).trans (KX.out.block i hi D)⟩
       obtain⟨⟨y0,y1,y2⟩,g0,g1,g2⟩:=F1;have f0:=U.frozen (n*3);have f1:=U.frozen (n*3+1);have f2:=U.frozen (n*3+2);have lB:=U.lt;clear HF HN u F0 k5 KD X4 U;cases bt
       ·have HS3:Hid (vm C r b M (n+1)=G):=by show _=_;rw[T.out];simp
        go_wp2
        go_roundw
        case rel=>exact⟨n+1,dU,by go_num,by rw[HS3.out];exact HG5.out,Hc5.out,Zq.out⟩
        case measure=>simp[eV];omega
       ·have HS3:Hid (vm C r b M (n+1)=C8 G n ⟨n,ff,bx⟩):=by show _=_;rw[T.out];simp
        go_wp2
        go_region
        all_goals
         go_wp2
         go_roundw
         case rel=>
          have D:j≠B:=by have:=Zq.out.size;omega
          refine⟨n+1,dU,by go_num,?_,jc.other (jc.other (jc.other Hc5.out D _) D _) D _,LC (oc (oc (oc Zq.out _ _) _ _) _ _)⟩;rw[HS3.out,<-Sg _ n _ VQ];exact jc.set (jc.set (jc.set HG5.out _ _) _ _) _ _
         case measure=>simp[eV];omega
    ·have Sn:¬(n:Int)<7:=dU;have D:n=7:=dU;have V:Hid _:=X;have J:Hid _:=h;have Z:Hid _:=A;clear X h A
     go_wp2
     go_roundw
     case rel=>exact⟨b+1,dU,by go_num,by rw[VR.out,<-D];exact V.out,J.out,Z.out⟩
     case measure=>simp[eV];omega
  ·have Zn:¬(b:Int)<7:=dU;have hbe:b=7:=dU;have V:Hid (jc wr B (hC (Q5 C r H 7)) 259):=by rw[<-hbe];exact X
   have Z:Hid _:=A;clear X h A hbe
   go_wp2
   first|go_end0|refine iC rfl rfl ?_
   exact⟨rfl,V.out,Z.out⟩
