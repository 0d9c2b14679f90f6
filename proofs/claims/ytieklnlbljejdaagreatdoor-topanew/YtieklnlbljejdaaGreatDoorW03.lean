import Derived.Test.YtieklnlbljejdaaGreatDoorW02
open Go.Value renaming int → ι, slice → σ, pointer → π, tuple → τ, nilIface → η
open Go.IntKind renaming i64 → κ
open Go.Ending renaming returned → ρ
open Go.Obj renaming cells → γ
open Option renaming none → ν, some → μ
open Go renaming World → dY, Addr → dX, TypeId → ew, Value → dZ, Calls → eZ
open Go.Proofs.Tryz renaming prog → e7
open Go.RowKit renaming intOf → fa
open ByteArray renaming empty → fE
open Go.Value renaming cells → fL, int → eB, ownBlock → eu
open Go.World renaming setRow → fS
open Go.Instr renaming loadAt → fT, sureAddr → fU, storeAt → fY
open Go.Sem renaming run_bind → fV, run_pure → fW
open Go.Result renaming andThen → fX, andThen_ok → eI
open Array renaming range → fZ, mem_map → ga
open Go.IntKind renaming i64 → fJ
set_option maxRecDepth 100000
set_option maxHeartbeats 8000000
open Go.Proofs.Tryz
namespace Go.Proofs.YtieklnlbljejdaaGreatDoor
open Go.RowKit St
open Go.ChangeShapes Go.WideShapes Go.ChangeAt
variable {B b m n:Nat} {H:Type} {Q:Exit->Act->World->Prop} {W w w':World} {a:Option Addr} {o:Oper} {ops:Array Oper} {rest:List Oper} {t:TypeId}
structure uv(w:dY)(a:Option dX)(n:Nat)(S:Nat->SV)(E:Nat->List jH):Prop where
 row:n=0 \/ ∃b off,a=μ ⟨b,off,ν⟩/\∀j,j<n->w.cell? ⟨b,off+j*3,ν⟩=μ (ι κ (S j).own)/\w.cell? ⟨b,off+j*3+1,ν⟩=μ (ι κ (S j).seq)/\w.cell? ⟨b,off+j*3+2,ν⟩=μ (σ (S j).a (S j).n (S j).cap)
 opt:∀j,j<n->jg w (S j).a (S j).n (E j)/\kN (S j).a (S j).cap/\(S j).n<=maxLen
theorem uv.below {w w':dY} {a:Option dX} {n:Nat} {S:Nat->SV} {E:Nat->List jH} (h:uv w a n S E)(hb:eE w w'):uv w' a n S E:=by
 refine⟨?_,λj Z=>⟨(h.opt j Z).1.below hb,(h.opt j Z).2⟩⟩;rcases h.row with Y|⟨b,off,rfl,Y⟩
 ·exact .inl Y
 ·refine .inr ⟨b,off,rfl,λj Z=> ?_⟩;obtain⟨c1,c2,c3⟩:=Y j Z;have l:=ag w _ c1;exact⟨(hb.cell (p:=⟨b,off+j*3,ν⟩) l).trans c1,(hb.cell (p:=⟨b,off+j*3+1,ν⟩) l).trans c2,(hb.cell (p:=⟨b,off+j*3+2,ν⟩) l).trans c3⟩
theorem Nx {enc:ew×dZ->H} {v:dZ} {y:DataW H×List MemPlace}
 (J:DataW.trod enc e7 W 0 (λ_=>true) true m 38 [v] =μ y):
 ∃(a:Option dX) (n cap:Nat) (os:List jH),v=σ a n cap/\jg W a n os/\kN a cap/\n<=maxLen:=by
 rcases dF underlying38 underlying123 gX rfl rfl gX gX J with⟨hcs,_⟩|⟨a,len,cap,m',n',Y,X,D0,D1,P0,P1,hcs,_,hl,hm,T,_,hx⟩
 ·simp at hcs;subst hcs;exact⟨ν,0,0,[],rfl,⟨rfl,.inl rfl⟩,λ_=>rfl,eA⟩
 ·simp at hcs;subst hcs;simp at T;have each:∀i,i<len->W.cell? (a.add (i*2))=μ (ι κ (fa (Y i)))/\W.cell? (a.add (i*2+1))=μ (ι κ (fa (X i))):=by
   intro i hi;obtain⟨q1,q2,E,D⟩:=hx i eh;obtain⟨k,f0,_,_⟩:=bg underlying3 E;obtain⟨n,f1,_,_⟩:=bg underlying3 D;simp at f0 f1;exact⟨by rw[q1,f0];rfl,by rw[q2,f1];rfl⟩
  refine⟨μ a,len,cap,(List.range len).map (λi=>(fa (Y i),fa (X i))),rfl,⟨gZ,?_⟩,λh=>by simp at h,eh⟩;by_cases M:len=0
  ·exact .inl M
  ·obtain⟨b,off,Z⟩:=a;have hc:=(each 0 eh).1;have U:Z=ν:=by simpa[Addr.add]using cZ hc
   subst U;refine .inr ⟨b,off,rfl,λj G=> ?_⟩;have S:j<len:=by simpa using G
   have V:=each j S;rw[ni,ni]at V;simpa[Nat.add_assoc]using V
structure AV where
 kind:ByteArray
 a:Int
 b:Int
 c:Int
 d:Int
 s:ByteArray
 Pr:Int
 pid:Int
 po:Option dX
 pn:Nat
 Eh:Nat
 x:SV
instance:Inhabited AV:=⟨⟨fE,0,0,0,0,fE,0,0,ν,0,0,SV.zero⟩⟩
def AV.at_(v:AV)(w:dY)(b o:Nat):Prop:=
 w.cell? ⟨b,o,ν⟩=μ (.string v.kind)/\w.cell? ⟨b,o+1,ν⟩=μ (ι κ v.a)/\w.cell? ⟨b,o+2,ν⟩=μ (ι κ v.b)/\w.cell? ⟨b,o+3,ν⟩=μ (ι κ v.c)/\w.cell? ⟨b,o+4,ν⟩=μ (ι κ v.d)/\w.cell? ⟨b,o+5,ν⟩=μ (.string v.s)/\
 w.cell? ⟨b,o+6,ν⟩=μ (ι κ v.Pr)/\w.cell? ⟨b,o+7,ν⟩=μ (ι κ v.pid)/\w.cell? ⟨b,o+8,ν⟩=μ (σ v.po v.pn v.Eh)/\
 w.cell? ⟨b,o+9,ν⟩=μ (ι κ v.x.own)/\w.cell? ⟨b,o+10,ν⟩=μ (ι κ v.x.seq)/\w.cell? ⟨b,o+11,ν⟩=μ (σ v.x.a v.x.n v.x.cap)
structure Ei(w:dY)(a:Option dX)(n:Nat)(V:Nat->AV)(E:Nat->List jH):Prop where
 row:n=0 \/ ∃b off,a=μ ⟨b,off,ν⟩/\∀j,j<n->(V j).at_ w b (off+j*12)
 opt:∀j,j<n->jg w (V j).x.a (V j).x.n (E j)/\kN (V j).x.a (V j).x.cap/\(V j).x.n<=maxLen/\(V j).pn<=maxLen
 pk:∀j,j<n->∃os:List jH,jg w (V j).po (V j).pn os/\kN (V j).po (V j).Eh/\(V j).pn<=(V j).Eh
theorem AV.at_.below {v:AV} {o:Nat} (h:v.at_ w b o)(hb:eE w w'):v.at_ w' b o:=by
 obtain⟨c0,c1,c2,c3,c4,X,V,U,T,c9,Y,Z⟩:=h;have l:=ag w _ c0;have k:∀i u,w.cell? ⟨b,i,ν⟩=μ u->w'.cell? ⟨b,i,ν⟩=μ u:=λi u S=>(hb.cell (p:=⟨b,i,ν⟩) l).trans S;exact⟨k _ _ c0,k _ _ c1,k _ _ c2,k _ _ c3,k _ _ c4,k _ _ X,k _ _ V,k _ _ U,k _ _ T,k _ _ c9,k _ _ Y,k _ _ Z⟩
theorem Ei.below {w w':dY} {a:Option dX} {n:Nat} {V:Nat->AV} {E:Nat->List jH} (h:Ei w a n V E)(hb:eE w w'):Ei w' a n V E:=by
 refine⟨?_,λj Z=>⟨(h.opt j Z).1.below hb,(h.opt j Z).2⟩,λj Z=>by obtain⟨os,o1,o2⟩:=h.pk j Z;exact⟨os,o1.below hb,o2⟩⟩;rcases h.row with Y|⟨b,off,rfl,Y⟩
 ·exact .inl Y
 ·exact .inr ⟨b,off,rfl,λj Z=>(Y j Z).below hb⟩
theorem Ej {enc:ew×dZ->H} {e:ew} {v:dZ} {y:DataW H×List MemPlace} (Y:e7.underlying t=μ (.slice e))
 (Z:DataW.trod enc e7 W 0 (λ_=>true) true m t [v] =μ y):∃(a:Option dX) (n cap:Nat),v=σ a n cap/\n<=maxLen/\n<=cap:=by
 rcases dt Y Z with⟨hcs,_⟩|⟨a,len,cap,m',n',D,Pl,hcs,_,hl,hm,_,_,_⟩
 ·simp at hcs;subst hcs;exact⟨ν,0,0,rfl,eA,Nat.le_refl _⟩
 ·simp at hcs;subst hcs;exact⟨μ a,len,cap,rfl,eh,hl⟩
theorem Q8 {enc:ew×dZ->H} {cap:Nat} {d:DataW H} {ps:List MemPlace}
 (h:DataW.Trod enc e7 W 0 (λ_=>true) true 23 (σ a n cap) d ps):
 ∃(V:Nat->AV) (E:Nat->List jH),Ei W a n V E/\n<=maxLen:=by
 obtain⟨fuel,hf⟩:=h;rcases dt underlying23 hf with⟨hcs,_⟩|⟨x,len,cp,m',n',D,Pl,hcs,_,hl,hm,KP,_,hx⟩
 ·simp[fL]at hcs;obtain⟨rfl,rfl,rfl⟩:=hcs;exact⟨λ_=>default,λ_=>[],⟨.inl rfl,λj Z=>eh,λj Z=>eh⟩,eA⟩
 ·simp[fL]at hcs;obtain⟨rfl,rfl,rfl⟩:=hcs;simp at KP;have ce:(e7).cellsOf 42=12:=gX;rw[ce]at hx;have each:∀i,i<n->∃q:AV×List jH,(∀b off,x=⟨b,off,ν⟩->q.1.at_ W b (off+i*12))/\(W.cell? (x.add (i*12))).isSome=true/\jg W q.1.x.a q.1.x.n q.2/\kN q.1.x.a q.1.x.cap/\q.1.x.n<=maxLen/\q.1.pn<=maxLen/\∃os:List jH,jg W q.1.po q.1.pn os/\kN q.1.po q.1.Eh/\q.1.pn<=q.1.Eh:=by
   intro i hi;obtain⟨cs',h1,h2⟩:=hx i eh;obtain⟨_,hlen,hcell⟩:=World.cells?_some h1;obtain⟨xs,k,hk,hxy,_,Qw,Y⟩:=cY underlying42 h2
   match xs,Qw,cs',hlen with
   |[y0,y1,y2,y3,y4,y5,y6,y7],_,[v0,v1,v2,v3,v4,v5,v6,v7,v8,v9,v10,v11],_=>
    have g0:=Y 0 _ rfl;have g1:=Y 1 _ rfl;have g2:=Y 2 _ rfl;have g3:=Y 3 _ rfl;have g4:=Y 4 _ rfl;have g5:=Y 5 _ rfl;have g6:=Y 6 _ rfl;have g7:=Y 7 _ rfl;have ci:(e7).cellsOf 3=1:=gX;have J:(e7).cellsOf 9=1:=gX;have y:(e7).cellsOf 37=3:=gX;have cx3:(e7).cellsOf 40=3:=gX;have cse:(e7).cellsOf 38=1:=gX;have cso:(e7).cellsOf 35=1:=gX;simp[ci,J,y,cx3]at g0 g1 g2 g3 g4 g5 g6 g7;obtain⟨s0,f0,_,_⟩:=dw underlying9 g0;obtain⟨i1,f1,_,_⟩:=bg underlying3 g1;obtain⟨i2,f2,_,_⟩:=bg underlying3 g2;obtain⟨i3,f3,_,_⟩:=bg underlying3 g3;obtain⟨i4,f4,_,_⟩:=bg underlying3 g4;obtain⟨s5,f5,_,_⟩:=dw underlying9 g5;obtain⟨xp,kp,_,_,_,G,X⟩:=cY underlying37 g6;obtain⟨xq,kq,_,_,_,A,U⟩:=cY underlying40 g7
    match xp,G,xq,A with
    |[p0,p1,p2],_,[z0,z1,z2],_=>
     have e0:=X 0 _ rfl;have e1:=X 1 _ rfl;have e2:=X 2 _ rfl;have e3:=U 0 _ rfl;have e4:=U 1 _ rfl;have e5:=U 2 _ rfl;simp[ci,cse,cso]at e0 e1 e2 e3 e4 e5;obtain⟨i6,f6,_,_⟩:=bg underlying3 e0;obtain⟨i7,f7,_,_⟩:=bg underlying3 e1;obtain⟨pa,pn,Eh,f8,hpn,hpc⟩:=Ej underlying35 e2;obtain⟨i9,f9,_,_⟩:=bg underlying3 e3;obtain⟨i10,S,_,_⟩:=bg underlying3 e4;obtain⟨ea,en,ec,es,f11,eo,ez,em⟩:=Nx e5;simp at f0 f1 f2 f3 f4 f5 f6 f7 f9 S;subst f0 f1 f2 f3 f4 f5 f6 f7 f8 f9 S f11;obtain⟨pos,po1,po2,_⟩:=Q7 (a:=pa) (n:=pn) (cap:=Eh) (W:=W) ⟨_,e2⟩;have rL:=hcell 0 eh;rw[Go.Deep.add_add]at rL;refine⟨(⟨s0,i1,i2,i3,i4,s5,i6,i7,pa,pn,Eh,⟨i9,i10,ea,en,ec⟩⟩,es),λb off he=> ?_,by rw[show i*12+0=i*12 by omega]at rL;rw[rL];rfl,eo,ez,em,hpn,pos,po1,po2,hpc⟩;subst he;have c:=λj (Z:j<12)=>hcell j Z;simp only[ni]at c;have r:∀j,off+i*12+j=off+(i*12)+j:=λj=>rfl;exact⟨c 0 eh,c 1 eh,c 2 eh,c 3 eh,c 4 eh,c 5 eh,c 6 eh,c 7 eh,c 8 eh,c 9 eh,c 10 eh,c 11 eh⟩
  obtain⟨q,T⟩:=Go.Deep.choose_lt each;refine⟨λi=>(q i).1,λi=>(q i).2,⟨?_,λj Z=>⟨(T j Z).2.2.1,(T j Z).2.2.2.1,(T j Z).2.2.2.2.1,(T j Z).2.2.2.2.2.1⟩,λj Z=>(T j Z).2.2.2.2.2.2⟩,eh⟩;by_cases h0:n=0
  ·exact .inl h0
  ·obtain⟨b,off,M⟩:=x;obtain⟨u,hu⟩:=Option.isSome_iff_exists.1 (T 0 eh).2.1;have Ef:M=ν:=by simpa[Addr.add]using cZ hu
   subst Ef;exact .inr ⟨b,off,rfl,λj Z=>(T j Z).1 b off rfl⟩
theorem CX(c i:Int)(a:Option dX)(n cap:Nat)(w:dY):
 eZ e7 65 #[.agg #[ι κ c,ι κ i,σ a n cap]] w λe w'=>e=ρ (.bool (decide ((n:Int)<=12)))/\eE w w':=by
 go_in
 go_wp2
 go_ret;exact⟨rfl,(au _ _).alloc (Nat.le_refl _) _⟩
theorem Gr(a:Option dX)(n cap:Nat)(V:Nat->AV)(E:Nat->List jH)(most:Int)(w:dY)(h:Ei w a n V E)(hm:most<=1000):
 eZ e7 16 #[σ a n cap,ι κ most] w λe w'=>(∃b:Bool,e=ρ (.bool b)/\(b=true->(n:Int)<=most/\∀j,j<n->(V j).x.n<=9/\(V j).pn<=12/\(V j).s.size<=200))/\eE w w':=by
 by_cases h0:most<(n:Int)
 ·go_in
  go_wp2
  go_ret;exact⟨⟨false,rfl,λh=>by cases h⟩,au _ _⟩
 go_in
 go_wp2
 go_loopw [5] (λi wr=>∃k:Nat,k<=n/\i=ι κ k/\(∀j,j<k->(V j).x.n<=9/\(V j).pn<=12/\(V j).s.size<=200)/\eE w wr) (λi _=>n-(fa i).toNat)
 case atStart=>exact⟨0,Nat.zero_le _,rfl,λj J=>eh,au _ _⟩
 case round=>
  obtain⟨k,hk,rfl,hA,T⟩:=hrel;have M:Hid _:=hA;clear hA;by_cases kD:k<n
  ·have nS:(k:Int)<(n:Int):=eh;obtain⟨_,_,U,X⟩:=h.opt k kD;rcases h.row with h1|⟨b,off,rfl,hcs⟩
   ·omega
   have Y:Hid (∀W,eE w W->(V k).at_ W b (off+k*12)):=λW hW=>(hcs k kD).below hW;obtain⟨v,hv⟩:=gq (V k);rw[hv]at Y U X;have D:Hid _:=hv;obtain⟨vk,va,vb,vc,vd,vs,vpc,vpi,vpo,A,Ca,vx⟩:=v;obtain⟨xo,xq,xa,xn,xc⟩:=vx;simp only at U X;obtain⟨c0,c1,c2,c3,c4,c5,c6,c7,c8,c9,TY,TX⟩:=Y.out wr T;simp only at c5 c6 c7 c8 TX;have Z:=CX vpc vpi vpo A Ca wr;unfold maxLen at U X;have G:Hid _:=T;clear hcs hv T c0 c1 c2 c3 c4 c9 TY;by_cases hs:200<(vs.size:Int)
   ·go_wp2
    go_ret;exact⟨⟨false,rfl,λh=>by cases h⟩,G.out⟩
   ·by_cases hp:(A:Int)<=12
    ·rw[dk hp]at Z;go_wp2_with(fail);refine Z.mono ?_;rintro e w1 ⟨rfl,k1⟩;have kC:=gu G.out k1;obtain⟨_,_,_,_,_,_,_,_,_,_,_,y⟩:=Y.out w1 kC;simp only at y;have S:Hid _:=kC;clear Z k1 kC c5 c6 c7 c8 TX;by_cases h9:9<(xn:Int)
     ·go_wp2
      go_ret;exact⟨⟨false,rfl,λh=>by cases h⟩,S.out⟩
     ·go_wp2
      go_roundw
      case rel=>
       refine⟨k+1,eh,by go_num,λj J=> ?_,S.out⟩;by_cases u:j=k
       ·rw[u,D.out];show xn<=9/\A<=12/\vs.size<=200;omega
       ·exact M.out j eh
      case measure=>simp[fa];omega
    ·rw[da hp]at Z;go_wp2_with(fail);refine Z.mono ?_;rintro e w1 ⟨rfl,k1⟩;have S:Hid _:=gu G.out k1;clear Z k1
     go_wp2
     go_ret;exact⟨⟨false,rfl,λh=>by cases h⟩,S.out⟩
  ·have xZ:¬(k:Int)<(n:Int):=eh
   go_wp2
   go_ret
   first|exact⟨.inr ⟨rfl,λj J=>M.out j eh⟩,T⟩|exact⟨⟨true,rfl,λ_=>⟨eh,λj J=>M.out j eh⟩⟩,T⟩|exact⟨.inr ⟨rfl,eh,λj J=>M.out j eh⟩,T⟩
theorem iZ.setRow {w:dY} {B:Nat} {C D:Array dZ} {t:ew} (h:iZ w B C t):iZ (w.setRow B D) B D t:=by
 unfold iZ at*;simp only[fS];rw[cJ,ai rfl,h];rfl
theorem oR {a:dY} (h:Below n w a)(hB:n<=B)(D:Array dZ):Below n w (a.setRow B D):=by
 refine⟨h.os,h.tape,h.output,by simpa[fS]using h.size,λi hi=> ?_⟩;rw[<-h.block i hi];simp only[fS];rw[cJ,af eh]
theorem iZ.UI {B':Nat} {C D:Array dZ} (h:iZ w B C t)(Z:B≠B'):iZ (w.setRow B' D) B C t:=by
 unfold iZ at*;simp only[fS];rw[cJ,af (λe=>Z e.symm)];exact h
section
variable {P:Program}
theorem iZ.loadAt {w:dY} {B:Nat} {C:Array dZ} {t:ew} (h:iZ w B C t)(n:Nat)(e:ew)(Z:P.underlying t=μ (.array n e))(hi:(P.info? t).map (·.size)=μ C.size):(fT t (π (μ ⟨B,0,ν⟩))).run P w=.ok (.agg C) w:=by
 simp only[fT,fU,fV,fW,fX];exact bU w B t t C (0,0) _ h Z rfl hi
theorem iZ.storeAt {w:dY} {B:Nat} {C D:Array dZ} {t:ew} (h:iZ w B C t)(hs:C.size=D.size)(hi:(P.info? t).map (·.size)=μ D.size)(Z:D.all (·.oneCell')=true):(fY t (π (μ ⟨B,0,ν⟩)) (.agg D)).run P w=.ok () (w.setRow B D):=by
 simp only[fY,fU,fV,fW,fX];exact run_storeVar_row w B t t C D h hi hs Z
theorem lq(w:dY) {a:Act} (Z:o.guard=ν)(x:Operand)(t:ew)(X:o.op=.load t x)
 (B:Nat) (C:Array dZ) (n:Nat) (e:ew) (hx:a.eval x=π (μ ⟨B,0,ν⟩)) (hb:iZ w B C t) (U:P.underlying t=μ (.array n e)) (hi:(P.info? t).map (·.size)=μ C.size)
 (h:wpList P ops Q rest (a.put o.dst (.agg C)) w):wpList P ops Q (o::rest) a w:=by
 refine wpList_plain Z λK Y=> ?_;have V:=hb.loadAt n e U hi;unfold Oper.wp execOp;simp only[X,fV,fW,eI,hx,V];exact Y _ _ h
theorem mG(w:dY) {a:Act} (Z:o.guard=ν)(x y:Operand)(t:ew)(V:o.op=.store t x y)
 (B:Nat) (C D:Array dZ) (hx:a.eval x=π (μ ⟨B,0,ν⟩)) (hy:a.eval y=.agg D) (hb:iZ w B C t) (hs:C.size=D.size) (hi:(P.info? t).map (·.size)=μ D.size) (Y:D.all (·.oneCell')=true)
 (h:wpList P ops Q rest (a.put o.dst undef) (w.setRow B D)):wpList P ops Q (o::rest) a w:=by
 refine wpList_plain Z λK X=> ?_;have U:=hb.storeAt hs hi Y;unfold Oper.wp execOp;simp only[V,fV,fW,eI,hx,hy,U];exact X _ _ h
end
abbrev kT:=Nat->Nat->Int
def gC(C:kT):Array dZ:=(fZ 49).map λi=>ι κ (C (i/7) (i%7))
theorem qk(C:kT):(gC C).size=49:=by simp[gC]
theorem KR(C:kT)(i:Nat)(h:i<49):(gC C)[i]? =μ (ι κ (C (i/7) (i%7))):=by simp[gC,h]
theorem AZ(C:kT)(a b:Nat)(ha:a<7)(hb:b<7):(gC C)[a*7+b]? =μ (ι κ (C a b)):=by
 rw[KR C _ eh];rw[show(a*7+b)/7=a by omega,show(a*7+b) %7=b by omega]
def tV(C:kT)(a b:Nat)(v:Int):kT:=λx y=>if x=a/\y=b then v else C x y
theorem UJ(C:kT)(a b:Nat)(v:Int)(hb:b<7):(gC C).setIfInBounds (a*7+b) (ι κ v)=gC (tV C a b v):=by
 apply bQ;intro i;rw[bk];by_cases hi:i<49
 ·rw[KR _ i hi,KR _ i hi,qk];by_cases e:a*7+b=i
  ·rw[ai e,ai eh];have Z:i/7=a:=eh;have Y:i%7=b:=eh;simp[tV,Z,Y]
  ·rw[af e];have:¬(i/7=a/\i%7=b):=eh;simp only[tV,if_neg this]
 ·have hs:∀D:kT,(gC D)[i]? =ν:=λD=>a9 (by rw[qk];omega);rw[hs,hs];split
  ·rw[af (by rw[qk];omega)]
  ·rfl
theorem Ny(C:kT):(gC C).all (·.oneCell')=true:=by
 rw[b9];intro v hv;obtain⟨i,_,rfl⟩:=ga.1 hv;rfl
structure HP where
 dst:Int
 far:Int
 rM:Int
def HP.zero:HP:=⟨0,0,0⟩
def KS(H:Nat->HP)(i:Nat):dZ:=ι κ (if i%3=0 then(H (i/3)).dst else if i%3=1 then(H (i/3)).far else(H (i/3)).rM)
def hC(H:Nat->HP):Array dZ:=(fZ 21).map (KS H)
theorem tJ(H:Nat->HP):(hC H).size=21:=by simp[hC]
theorem Ek(H:Nat->HP)(i:Nat)(h:i<21):(hC H)[i]? =μ (KS H i):=by simp[hC,h]
theorem A1(H:Nat->HP)(n:Nat)(hn:n<7):(hC H)[n*3]? =μ (ι κ (H n).dst)/\(hC H)[n*3+1]? =μ (ι κ (H n).far)/\(hC H)[n*3+2]? =μ (ι κ (H n).rM):=by
 rw[Ek _ _ eh,Ek _ _ eh,Ek _ _ eh];unfold KS;rw[show n*3%3=0 by omega,show n*3/3=n by omega,show(n*3+1) %3=1 by omega,show(n*3+1)/3=n by omega,show(n*3+2) %3=2 by omega,show(n*3+2)/3=n by omega];exact⟨rfl,rfl,rfl⟩
theorem UK(H:Nat->HP):(hC H).all (·.oneCell')=true:=by
 rw[b9];intro v hv;obtain⟨i,_,rfl⟩:=ga.1 hv;rfl
def rA(H:Nat->HP)(n:Nat)(p:HP):Nat->HP:=λx=>if x=n then p else H x
theorem Ji(H:Nat->HP)(n:Nat)(p:HP)(hn:n<7):(((hC H).setIfInBounds (n*3) (ι κ p.dst)).setIfInBounds (n*3+1) (ι κ p.far)).setIfInBounds (n*3+2) (ι κ p.rM)=hC (rA H n p):=by
 apply bQ;intro i;rw[bk,bk,bk];simp only[Array.size_setIfInBounds,tJ];by_cases hi:i<21
 ·rw[Ek _ i hi,Ek _ i hi];unfold KS;by_cases e:i/3=n
  ·have Y:rA H n p (i/3)=p:=by simp[rA,e]
   rw[Y];rcases(show i%3=0 \/i%3=1 \/i%3=2 by omega)with Z|Z|Z
   ·rw[af (show¬n*3+2=i by omega),af (show¬n*3+1=i by omega),ai (show n*3=i by omega),ai eh,ai Z]
   ·rw[af (show¬n*3+2=i by omega),ai (show n*3+1=i by omega),ai eh,af eh,ai Z]
   ·rw[ai (show n*3+2=i by omega),ai eh,af eh,af eh]
  ·have Y:rA H n p (i/3)=H (i/3):=by simp[rA,e]
   rw[Y,af (show¬n*3+2=i by omega),af (show¬n*3+1=i by omega),af (show¬n*3=i by omega)]
 ·have hs:∀D:Nat->HP,(hC D)[i]? =ν:=λD=>a9 (by rw[tJ];omega);rw[hs,hs,af (show¬n*3+2=i by omega),af (show¬n*3+1=i by omega),af (show¬n*3=i by omega)]
theorem Ps:(e7.info? 256).map (λi=>(i.zero,i.size))=μ (μ (.agg (gC λ_ _=>0)),49):=gX
theorem Pt:(e7.info? 259).map (λi=>(i.zero,i.size))=μ (μ (.agg (hC λ_=>HP.zero)),21):=gX
theorem A2(w:dY):(zeroValue 256).run e7 w=.ok (.agg (gC λ_ _=>0)) w:=(bS Ps).1 w
theorem KT(w:dY):(zeroValue 259).run e7 w=.ok (.agg (hC λ_=>HP.zero)) w:=(bS Pt).1 w
theorem xu:(e7.info? 256).map (·.size)=μ 49:=(bS Ps).2
theorem Jj:(e7.info? 259).map (·.size)=μ 21:=(bS Pt).2
structure Gs(w:dY)(a:Option dX)(n:Nat)(L:List HP):Prop where
 len:L.length=n
 row:n=0 \/ ∃b off,a=μ ⟨b,off,ν⟩/\∀j h,L[j]? =μ h->w.cell? ⟨b,off+j*3,ν⟩=μ (ι κ h.dst)/\w.cell? ⟨b,off+j*3+1,ν⟩=μ (ι κ h.far)/\w.cell? ⟨b,off+j*3+2,ν⟩=μ (ι κ h.rM)
theorem Gs.below {L:List HP} (h:Gs w a n L)(hb:eE w w'):Gs w' a n L:=by
 refine⟨h.len,?_⟩;rcases h.row with Z|⟨b,off,rfl,Z⟩
 ·exact .inl Z
 ·refine .inr ⟨b,off,rfl,λj s e=> ?_⟩;obtain⟨c1,c2,c3⟩:=Z j s e;have l:=ag w _ c1;exact⟨(hb.cell (p:=⟨b,off+j*3,ν⟩) l).trans c1,(hb.cell (p:=⟨b,off+j*3+1,ν⟩) l).trans c2,(hb.cell (p:=⟨b,off+j*3+2,ν⟩) l).trans c3⟩
structure HsN(w w':dY)(a:Option dX)(n:Nat)(L:List HP):Prop where
 r:Gs w' a n L
 nw:∀x,a=μ x->w.heap.size<=x.block
def yD(L:List HP)(n:Int):Nat->Option Nat
 |0=>none
 |k+1=>match yD L n k with|some i=>some i|none=>(match L[k]? with|some h=>if h.dst=n then some k else none|none=>none)
def abY:Option Nat->Int
 |none=> -1
 |some i=>(i:Int)
theorem UL(pd pf V x:Int)(X:Nat)(w:dY)(Z:w.cell? ⟨X,0,ν⟩=μ (ι κ x)):
 eZ e7 219 #[.agg #[ι κ pd,ι κ pf,ι κ V],π (μ ⟨X,0,ν⟩)] w λe w'=>e=ρ (.bool (pd==x))/\eE w w':=by
 have U:X<w.heap.size:=ag w _ Z;have Y:=gY w (γ #[ι κ pd,ι κ pf,ι κ V] 98);have rP:=(Y.cell (p:=⟨X,0,ν⟩) U).trans Z
 go_in
 go_wp2
 go_ret;exact⟨rfl,Y⟩
theorem Gt(a:Option dX)(n cap:Nat)(L:List HP)(x:Int)(X:Nat)(w:dY)(h:Gs w a n L)(hn:n<=1000)(y:w.cell? ⟨X,0,ν⟩=μ (ι κ x)):
 eZ e7 218 #[σ a n cap,.func (.func 219) #[] #[π (μ ⟨X,0,ν⟩)]] w λe w'=>e=ρ (ι κ (abY (yD L x n)))/\eE w w':=by
 go_in
 go_wp2
 go_loopw [8] (λv wr=>∃k:Nat,k<=n/\v=ι κ k/\yD L x k=ν/\eE w wr) (λv _=>n-(fa v).toNat)
 case atStart=>exact⟨0,Nat.zero_le _,rfl,rfl,au _ _⟩
 case round=>
  obtain⟨k,hk,rfl,A,U⟩:=hrel;have D:Hid _:=A;clear A;by_cases kD:k<n
  ·have nS:(k:Int)<(n:Int):=eh;have u:=h.below U;have hl:=h.len;rcases u.row with h1|⟨b,off,rfl,hc⟩
   ·omega
   have M:L[k]? =μ (L[k]'(by omega)):=ay eh;obtain⟨c0,c1,c2⟩:=hc k _ M;have S:Hid (yD L x (k+1)=if(L[k]'(by omega)).dst=x then μ k else ν):=by
    show _=_;simp only[yD,D.out,M]
   generalize L[k]'(by omega)=p at c0 c1 c2 S M;obtain⟨pd,pf,px⟩:=p;simp only at c0 c1 c2 S;have j:X<w.heap.size:=ag w _ y;have Y:=UL pd pf px x X wr ((U.cell (p:=⟨X,0,ν⟩) j).trans y);have E:Hid _:=U;clear hc u M U;by_cases Z:pd=x
   ·have V:(pd==x)=true:=by simpa using Z
    rw[V]at Y;have T:Hid (yD L x n=μ k):=by
     have mono:∀d,yD L x (k+1+d)=μ k:=by
      intro d
      induction d with
      |zero=>rw[Nat.add_zero,S.out,ai Z]
      |succ d ih=>rw[<-Nat.add_assoc];simp only[yD,ih]
     have:=mono (n-(k+1))
     rwa [show k+1+(n-(k+1))=n by omega]at this
    clear Z V;go_wp2_with(fail);refine Y.mono ?_;rintro e w1 ⟨rfl,k1⟩;have J:Hid _:=gu E.out k1;clear Y k1
    go_wp2
    go_ret;exact⟨by rw[T.out];rfl,J.out⟩
   ·have V:(pd==x)=false:=by simpa using Z
    rw[V]at Y;have T:Hid (yD L x (k+1)=ν):=by show _=_;rw[S.out,af Z]
    clear Z V;go_wp2_with(fail);refine Y.mono ?_;rintro e w1 ⟨rfl,k1⟩;have J:Hid _:=gu E.out k1;clear Y k1
    go_wp2
    go_roundw
    case rel=>exact⟨k+1,eh,by go_num,T.out,J.out⟩
    case measure=>simp[fa];omega
  ·have xZ:¬(k:Int)<(n:Int):=eh;have G:k=n:=eh;have T:Hid (yD L x n=ν):=by rw[<-G];exact D.out
   clear G
   go_wp2
   go_ret;exact⟨by rw[T.out];rfl,U⟩
def A3(L:List HP)(n:Int):Option HP:=L.find? λh=>h.dst==n
theorem Ho(L:List HP)(n:Int):∀k,k<=L.length->(match yD L n k with|some i=>i<k/\L[i]? =A3 (L.take k) n/\(A3 (L.take k) n).isSome=true|none=>A3 (L.take k) n=none)
 |0,_=>by simp[yD,A3]
 |k+1,hk=>by
  have ih:=Ho L n k eh;have X:A3 (L.take (k+1)) n=(A3 (L.take k) n).or (if(L[k]'(by omega)).dst=n then μ (L[k]'(by omega))else ν):=by
   unfold A3;rw[aA eh,List.find?_append];congr 1;by_cases e:(L[k]'(by omega)).dst=n<;>simp[e]
  simp only[yD];cases hi:yD L n k with
  |some i=>
   rw[hi]at ih;obtain⟨h1,Z,Y⟩:=ih;simp only;rw[X];cases e:A3 (L.take k) n with
   |none=>rw[e]at Y;cases Y
   |some q=>rw[e]at Z;exact⟨eh,by simpa using Z,rfl⟩
  |none=>
   rw[hi]at ih;simp only at ih⊢;have V:L[k]? =μ (L[k]'(by omega)):=ay eh;rw[X,ih,V];by_cases e:(L[k]'(by omega)).dst=n
   ·simp[e]
   ·simp[e]
theorem abZ(a:Option dX)(n cap:Nat)(L:List HP)(x:Int)(w:dY)(h:Gs w a n L)(hn:n<=1000):
 eZ e7 199 #[σ a n cap,ι κ x] w λe w'=>e=ρ (τ #[.agg #[ι κ ((A3 L x).getD HP.zero).dst,ι κ ((A3 L x).getD HP.zero).far,ι κ ((A3 L x).getD HP.zero).rM],.bool (A3 L x).isSome])/\eE w w':=by
 obtain⟨U,V⟩:=gq ((w.alloc (γ #[ι κ x] 3)).alloc (γ #[ι κ 0,ι κ 0,ι κ 0] 98));have E:eE w U:=by rw[<-V];exact(gY _ _).alloc gZ _
 have hX:iZ U w.heap.size #[ι κ x] 3:=by rw[<-V];exact(iZ.new w _ _).below (gY _ _)
 have hY:iZ U (w.heap.size+1) #[ι κ 0,ι κ 0,ι κ 0] 98:=by rw[<-V];exact iZ.Gk _ _ _ _ gZ
 have X:=Gt a n cap L x w.heap.size U (h.below E) hn (hX.cell 0);have Y:=Ho L x L.length (Nat.le_refl _);rw[cg,h.len]at Y;have j:Hid _:=V;clear V
 go_in
 go_wp2_with(fail);rw[j.out];refine X.mono ?_;rintro e A ⟨rfl,k2⟩;have Z:=hY.below k2;have D:=gu E k2;have y0:A.cell? ⟨w.heap.size+1,0,ν⟩=μ (ι κ 0):=Z.cell 0;have y1:A.cell? ⟨w.heap.size+1,1,ν⟩=μ (ι κ 0):=Z.cell 1;have y2:A.cell? ⟨w.heap.size+1,2,ν⟩=μ (ι κ 0):=Z.cell 2;have f0:=Z.frozen 0;have f1:=Z.frozen 1;have f2:=Z.frozen 2;have lY:=Z.lt;have G:=h.below D;have HY2:Hid _:=Z;have y:Hid _:=D;clear X hX hY k2 E j Z D;cases hi:yD L x n with
 |none=>
  rw[hi]at Y;simp only at Y;have M:Hid ((A3 L x).getD HP.zero=HP.zero):=by show _=_;rw[Y];rfl
  have J:Hid ((A3 L x).isSome=false):=by show _=_;rw[Y];rfl
  have hv:abY ν= -1:=rfl;rw[hv];clear Y G hv;go_wp2_with(fail);refine aE (v:=τ #[.agg #[ι κ 0,ι κ 0,ι κ 0],.bool false]) (by simp[results,results199,go_sem,y0,y1,y2]) rfl ?_;exact⟨by rw[M.out,J.out];rfl,bw (bw (bw y.out (by show w.heap.size<=w.heap.size+1;omega) _) (by show w.heap.size<=w.heap.size+1;omega) _) (by show w.heap.size<=w.heap.size+1;omega) _⟩
 |some i=>
  rw[hi]at Y;obtain⟨h1,T,u⟩:=Y;have kX:(i:Int)<(n:Int):=eh;have Pv:¬(i:Int)<0:=eh;obtain⟨p,S⟩:∃p,A3 L x=μ p:=Option.isSome_iff_exists.1 u;rw[S]at T;have M:Hid ((A3 L x).getD HP.zero=p):=by show _=_;rw[S];rfl
  have J:Hid ((A3 L x).isSome=true):=by show _=_;rw[S];rfl
  have hv:abY (μ i)=(i:Int):=rfl;rw[hv];clear hv;rcases G.row with e|⟨b,off,rfl,hc⟩
  ·omega
  obtain⟨c0,c1,c2⟩:=hc i p T;obtain⟨pd,pf,px⟩:=p;simp only at c0 c1 c2;have jx:b≠w.heap.size+1:=by
   rcases h.row with e|⟨b',ajO,e',j0⟩
   ·omega
   ·cases e';have:=ag w _ (j0 i _ T).1;simp only at this;omega
  clear h1 T u S hc G;go_wp2_with(fail);refine aE (v:=τ #[.agg #[ι κ pd,ι κ pf,ι κ px],.bool true]) (by simp[results,results199,go_sem,y0,y1,y2]) rfl ?_;exact⟨by rw[M.out,J.out],bw (bw (bw y.out (by show w.heap.size<=w.heap.size+1;omega) _) (by show w.heap.size<=w.heap.size+1;omega) _) (by show w.heap.size<=w.heap.size+1;omega) _⟩
def nr(C:kT)(o:Nat)(es:List jH):kT:=es.foldl (λC e=>tV C o e.1.toNat e.2) C
theorem Hp(C:kT)(o:Nat)(es:List jH)(k:Nat)(h:k<es.length):nr C o (es.take (k+1))=tV (nr C o (es.take k)) o (es[k].1.toNat) (es[k].2):=by
 unfold nr;rw[aA h,cX];rfl
def jX(S:Nat->SV)(E:Nat->List jH):Nat->kT
 |0=>λ_ _=>0
 |i+1=>nr (jX S E i) (S i).own.toNat (E i)
theorem Q9(a:Option dX)(n cap:Nat)(S:Nat->SV)(E:Nat->List jH)(w:dY)(h:uv w a n S E)(hn:n<=1000)(iQ:∀j,j<n->oD (S j).own (S j).seq (E j)=0):
 eZ e7 162 #[σ a n cap] w λe w'=>e=ρ (.agg (gC (jX S E n)))/\eE w w':=by
 have hz:=A2;have Ra:Hid _:=iQ;clear iQ;obtain⟨Z,hZ⟩:=gq (gC (λ_ _=>0));rw[hZ]at hz
 go_in
 go_wp2_with(fail);obtain⟨W0,n8⟩:=gq ((w.alloc (γ Z 256)).alloc (γ Z 256));have yB:eE w W0:=by rw[<-n8];exact(gY _ _).alloc gZ _
 have xw:iZ W0 w.heap.size Z 256:=by rw[<-n8];exact(iZ.new w Z _).below (gY _ _)
 have rN:iZ W0 (w.heap.size+1) (gC (jX S E 0)) 256:=by rw[<-n8];show iZ _ _ (gC λ_ _=>0) _;rw[hZ];exact iZ.Gk _ _ _ _ gZ
 rw[n8];clear n8;obtain⟨V,Gd⟩:=gq (w.heap.size);have vY:w.heap.size<=V:=eh;rw[Gd]at xw rN;rw[Gd];clear Gd
 go_loopw [10] (λv wr=>∃i:Nat,i<=n/\v=ι κ i/\iZ wr (V+1) (gC (jX S E i)) 256/\iZ wr V Z 256/\eE w wr) (λv _=>n-(fa v).toNat)
 case atStart=>exact⟨0,Nat.zero_le _,rfl,rN,xw,yB⟩
 case round=>
  clear xw rN yB;obtain⟨i,hi,rfl,T,M,U⟩:=hrel;by_cases kD:i<n
  ·have nS:(i:Int)<(n:Int):=eh;have hw:=h.below U;obtain⟨ho,np,hx⟩:=hw.opt i kD;have iX:=hw.row;rcases iX with h1|⟨sb,off,rfl,hcs⟩
   ·omega
   obtain⟨c0,c1,c2⟩:=hcs i kD;have G:=Ra.out i kD;have HOW:=(h.opt i kD).1;have HT:Hid (jX S E (i+1)=nr (jX S E i) (S i).own.toNat (E i)):=rfl;obtain⟨s,hs⟩:=gq (S i);obtain⟨es,he⟩:=gq (E i);rw[hs]at c0 c1 c2 ho np hx G HT HOW;rw[he]at ho G HT HOW;clear hs he hcs hw;obtain⟨so,sq,sa,sn,sc⟩:=s;simp only at c0 c1 c2 ho np hx G HT HOW;have Yu:=(jw G).1;obtain⟨o,rfl⟩:∃o:Nat,so=(o:Int):=⟨so.toNat,eh⟩
   rw[Int.toNat_natCast]at HT;have Yv:=qb _ es 0 (jw G).2.2.2;have HES:Hid _:=Yv;have HOL:=ho.1;have hsn:sn<=6:=by have:=(jw G).2.2.1;omega
   have Gu:=U.alloc U.size (γ #[ι κ (o:Int),ι κ sq,σ sa sn sc] 40);have sK:=AO (o:Int) sq sa sn sc es _ hx (HOW.below Gu);have ur:Hid (jk (oD (o:Int) sq es)=η):=by show _=_;rw[G];rfl
   rw[ur.out]at sK;have A:=iZ.new wr #[ι κ (o:Int),ι κ sq,σ sa sn sc] 40;have hG2:=T.below (gY wr (γ #[ι κ (o:Int),ι κ sq,σ sa sn sc] 40));have XC:=M.below (gY wr (γ #[ι κ (o:Int),ι κ sq,σ sa sn sc] 40));have Hba:Hid _:=Gu;have Hwl:Hid (V+1<wr.heap.size):=T.lt;have Hlw:Hid _:=U.size;have HX:Hid _:=A;have HG2:Hid _:=hG2;have HZ2:Hid _:=XC;clear Yv G U T M A hG2 XC ho np hx Gu;go_wp2_with(fail);refine sK.mono ?_;rintro e w1 ⟨rfl,k1⟩;have y:=iZ.below HX.out k1;have u:Hid _:=iZ.below HG2.out k1;have HZ1:Hid _:=iZ.below HZ2.out k1;have Hb1:Hid _:=gu Hba.out k1;obtain⟨X,MH⟩:=gq (wr.heap.size);rw[MH]at y;have akn:Hid (V+1<X):=by show _<_;rw[<-MH];exact Hwl.out
   have apJ:Hid (w.heap.size<=X):=by show _<=_;rw[<-MH];exact Hlw.out
   rw[MH];have x0:w1.cell? ⟨X,0,ν⟩=μ (ι κ (o:Int)):=y.cell 0;have x1:w1.cell? ⟨X,1,ν⟩=μ (ι κ sq):=y.cell 1;have x2:w1.cell? ⟨X,2,ν⟩=μ (σ sa sn sc):=y.cell 2;have HX1:Hid _:=y;clear sK k1 MH y HX HG2 HZ2 Hba Hwl Hlw c0 c1 c2;go_wp2_with(fail);obtain⟨W1,rfl⟩:∃W1,W1=w1:=⟨_,rfl⟩
   clear x0 x1 x2
   go_loopw [20] (λv wr=>∃k:Nat,k<=sn/\v=ι κ k/\iZ wr (V+1) (gC (nr (jX S E i) o (es.take k))) 256/\iZ wr V Z 256/\iZ wr X #[ι κ (o:Int),ι κ sq,σ sa sn sc] 40/\eE w wr) (λv _=>sn-(fa v).toNat)
   case atStart=>exact⟨0,Nat.zero_le _,rfl,u.out,HZ1.out,HX1.out,Hb1.out⟩
   case round=>
    clear u HZ1 HX1 Hb1;obtain⟨k,hk,rfl,T,M,A,U⟩:=hrel;by_cases AY:k<sn
    ·have afF:(k:Int)<(sn:Int):=eh;have Yw:=HOW.below U;rcases Yw.2 with h1|⟨eb,ako,rfl,hec⟩
     ·omega
     obtain⟨d0,d1⟩:=hec k eh;have Hh:=HES.out _ (aF (show k<es.length by omega));have HP:Hid (nr (jX S E i) o (es.take (k+1))=tV (nr (jX S E i) o (es.take k)) o ((es[k]'(by omega)).1.toNat) ((es[k]'(by omega)).2)):=Hp _ o es k eh;obtain⟨p,hp⟩:=gq (es[k]'(by omega));rw[hp]at d0 d1 Hh HP;obtain⟨pt,pm⟩:=p;simp only at d0 d1 Hh HP;obtain⟨t,rfl⟩:∃t:Nat,pt=(t:Int):=⟨pt.toNat,eh⟩
     rw[Int.toNat_natCast]at HP;obtain⟨D,ny⟩:=gq (wr.alloc (γ #[ι κ (t:Int),ι κ pm] 123));have kb:eE wr D:=by rw[<-ny];exact gY _ _
     have hY:iZ D wr.heap.size #[ι κ (t:Int),ι κ pm] 123:=by rw[<-ny];exact iZ.new _ _ _
     have J:=T.below kb;have yx:=A.below kb;have Hb3:Hid _:=gu U kb;have HZ3:Hid _:=M.below kb;have UM:Hid _:=ny;clear hec hp Yw ny;obtain⟨Y,Rb⟩:=gq (wr.heap.size);have HYl:Hid (X<Y):=by show _<_;rw[<-Rb];exact A.lt
     rw[Rb]at hY;have HYe:Hid _:=Rb;clear Rb kb T A M U;have y0:D.drew.cell? ⟨Y,0,ν⟩=μ (ι κ (t:Int)):=hY.cell 0;have y1:D.drew.cell? ⟨Y,1,ν⟩=μ (ι κ pm):=hY.cell 1;have z0:D.drew.cell? ⟨X,0,ν⟩=μ (ι κ (o:Int)):=yx.cell 0;have g0:D.drew.cell? ⟨V+1,o*7+t,ν⟩=μ (ι κ (nr (jX S E i) o (es.take k) o t)):=(J.cell _).trans (AZ _ o t eh eh);have g1:D.drew.frozen? ⟨V+1,o*7+t,ν⟩=false:=J.frozen _;have o7:(o:Int)<7:=eh;have t7:(t:Int)<7:=eh;have XD:Hid _:=J;have HX3:Hid _:=yx;have HY3:Hid _:=hY;clear J yx hY Hh Yu
     go_upto_region 9 with fail
     rw[UM.out,HYe.out]
     go_region
     all_goals
      go_wp2
      go_roundw
      case rel=>
       have jx:X≠V+1:=by have:=akn.out;omega
       refine⟨k+1,eh,by go_num,?_,?_,?_,?_⟩
       ·rw[HP.out,<-UJ _ o t pm eh];exact iZ.set XD.out _ _
       ·exact iZ.other HZ3.out eh _
       ·exact iZ.other HX3.out jx _
       ·exact below_drewN (bw Hb3.out (by show w.heap.size<=V+1;omega) _) 1
      case measure=>simp[fa];omega
    ·have xZ:¬(k:Int)<(sn:Int):=eh;have HG:Hid _:=T;have HZ:Hid _:=M;have HB:Hid _:=U;clear T M A U
     go_wp2
     go_roundw
     case rel=>
      refine⟨i+1,eh,by go_num,?_,HZ.out,HB.out⟩;have e1:es.take k=es:=aI eh;rw[HT.out,<-e1];exact HG.out
     case measure=>simp[fa];omega
  ·have kR:i=n:=eh;subst kR;have xZ:¬(i:Int)<(i:Int):=eh;clear kD;obtain⟨g,hg⟩:=gq (gC (jX S E i));have gs:g.size=49:=by rw[<-hg];exact qk _
   have g1:g.all (·.oneCell')=true:=by rw[<-hg];exact Ny _
   have zs:Z.size=49:=by rw[<-hZ];exact qk _
   rw[hg]at T;have HGE:Hid (g=gC (jX S E i)):=hg.symm;have hR:iZ (wr.setRow V g) V g 256:=M.setRow;have l6:=bU (P:=e7) (wr.setRow V g) V 256 256 g (0,0) _ hR underlying256 rfl (by rw[gs];exact xu);have HBE:Hid (eE w (wr.setRow V g)):=oR U vY g;have vC:(e7.info? 256).map (·.size)=μ g.size:=by rw[gs];exact xu
   have rV:Z.size=g.size:=by rw[gs,zs]
   clear hR hg hZ U;go_wp2_with(first
    |refine lq _ rfl (.tmp 3) 256 rfl (V+1) g _ _ rfl T underlying256 vC ?_
    |refine mG _ rfl (.tmp 2) (.tmp 34) 256 rfl V Z g rfl rfl M rV vC g1 ?_)
   refine aE (v:=.agg g) (by simp[results,results162,asAddr,l6]) rfl ?_;exact⟨by rw[HGE.out],HBE.out⟩
theorem wv {C D:kT} (h:∀x y,x<7->y<7->C x y=D x y):gC C=gC D:=by
 apply bQ;intro i;by_cases hi:i<49
 ·rw[KR _ i hi,KR _ i hi,h (i/7) (i%7) eh eh]
 ·rw[a9 (by rw[qk];omega),a9 (by rw[qk];omega)]
def kL(C:kT):kT:=λx y=>if 0<C y x then C x y else 0
def Kc(C:kT)(a b:Nat):kT:=λx y=>if x<a \/(x=a/\y<b)then kL C x y else 0
theorem UN(C:kT)(a b:Nat):gC (Kc C a (b+1))=gC (tV (Kc C a b) a b (kL C a b)):=by
 refine wv λx y hx hy=> ?_;simp only[Kc,tV];by_cases Z:x=a/\y=b
 ·rw[ai Z,ai eh,Z.1,Z.2]
 ·rw[af Z];by_cases Y:x<a \/(x=a/\y<b)
  ·rw[ai Y,ai eh]
  ·rw[af Y,af eh]
theorem UO(C:kT)(a b:Nat)(h:kL C a b=0):gC (Kc C a (b+1))=gC (Kc C a b):=by
 refine wv λx y hx hy=> ?_;simp only[Kc];by_cases Z:x=a/\y=b
 ·rw[ai eh,af eh,Z.1,Z.2,h]
 ·by_cases Y:x<a \/(x=a/\y<b)
  ·rw[ai Y,ai eh]
  ·rw[af Y,af eh]
theorem Yx(C:kT)(a:Nat):gC (Kc C a 7)=gC (Kc C (a+1) 0):=by
 refine wv λx y hx hy=> ?_;simp only[Kc];by_cases Z:x<a \/(x=a/\y<7)
 ·rw[ai Z,ai eh]
 ·rw[af Z,af eh]
theorem UQ(C:kT)(w:dY):
 eZ e7 163 #[.agg (gC C)] w λe w'=>e=ρ (.agg (gC (kL C)))/\eE w w':=by
 have hz:=A2;obtain⟨Z,h⟩:=gq (gC (λ_ _=>0));rw[h]at hz;obtain⟨c,hc⟩:=gq (gC C);rw[hc]
 go_in
 go_wp2_with(fail);obtain⟨u,D⟩:=gq (((w.alloc (γ c 256)).alloc (γ Z 256)).alloc (γ Z 256));have yB:eE w u:=by rw[<-D];exact((gY _ _).alloc gZ _).alloc (by simp;omega) _
 have xw:iZ u w.heap.size c 256:=by rw[<-D];exact((iZ.new w c _).below (gY _ _)).below (gY _ _)
 have rN:iZ u (w.heap.size+1) Z 256:=by rw[<-D];exact(iZ.Gk _ Z _ _ gZ).below (gY _ _)
 have CY:iZ u (w.heap.size+2) (gC (Kc C 0 0)) 256:=by
  rw[<-D];have:gC (Kc C 0 0)=Z:=by rw[<-h];exact wv λx y _ _=>by simp[Kc]
  rw[this];exact iZ.Gk _ _ _ _ gZ
 rw[D];clear D;obtain⟨Y,Gd⟩:=gq (w.heap.size);have vY:w.heap.size<=Y:=eh;rw[Gd]at xw rN CY;rw[Gd];clear Gd
 go_loopw [6] (λv wr=>∃a:Nat,a<=7/\v=ι κ a/\iZ wr (Y+2) (gC (Kc C a 0)) 256/\iZ wr Y c 256/\iZ wr (Y+1) Z 256/\eE w wr) (λv _=>7-(fa v).toNat)
 case atStart=>exact⟨0,eh,rfl,CY,xw,rN,yB⟩
 case round=>
  clear xw rN CY yB;obtain⟨a,ha,rfl,X,V,U,T⟩:=hrel;by_cases E:a<7
  ·have akp:(a:Int)<7:=eh;have J:Hid _:=X;have S:Hid _:=V;have G:Hid _:=U;have M:Hid _:=T;clear X V U T
   go_wp2
   go_loopw [9] (λv wr=>∃b:Nat,b<=7/\v=ι κ b/\iZ wr (Y+2) (gC (Kc C a b)) 256/\iZ wr Y c 256/\iZ wr (Y+1) Z 256/\eE w wr) (λv _=>7-(fa v).toNat)
   case atStart=>exact⟨0,eh,rfl,J.out,S.out,G.out,M.out⟩
   case round=>
    clear J S G M;obtain⟨b,hb,rfl,X,V,U,T⟩:=hrel;by_cases j:b<7
    ·have ab2:(b:Int)<7:=eh;have r1:wr.cell? ⟨Y,b*7+a,ν⟩=μ (ι κ (C b a)):=(V.cell _).trans (by rw[<-hc];exact AZ C b a j E);have r2:wr.cell? ⟨Y,a*7+b,ν⟩=μ (ι κ (C a b)):=(V.cell _).trans (by rw[<-hc];exact AZ C a b E j);have r3:wr.cell? ⟨Y+2,a*7+b,ν⟩=μ (ι κ (Kc C a b a b)):=(X.cell _).trans (AZ _ a b E j);have r4:=X.frozen (a*7+b);have J:Hid _:=X;have S:Hid _:=V;have G:Hid _:=U;have M:Hid _:=T;clear X V U T;by_cases qw:0<C b a
     ·have HS:Hid (kL C a b=C a b):=by show _=_;simp[kL,qw]
      go_wp2
      go_region
      all_goals
       go_wp2
       go_roundw
       case rel=>
        refine⟨b+1,eh,by go_num,?_,iZ.other S.out eh _,iZ.other G.out eh _,below_drewN (bw M.out (by show w.heap.size<=Y+2;omega) _) 1⟩;rw[UN,HS.out,<-UJ _ a b _ j];exact iZ.set J.out _ _
       case measure=>simp[fa];omega
     ·have HS:Hid (kL C a b=0):=by show _=_;simp[kL,qw]
      go_wp2
      go_roundw
      case rel=>exact⟨b+1,eh,by go_num,by rw[UO _ _ _ HS.out];exact J.out,S.out,G.out,M.out⟩
      case measure=>simp[fa];omega
    ·have ab2:¬(b:Int)<7:=eh;have hbe:b=7:=eh;have J:Hid _:=X;have S:Hid _:=V;have G:Hid _:=U;have M:Hid _:=T;clear X V U T
     go_wp2
     go_roundw
     case rel=>exact⟨a+1,eh,by go_num,by rw[<-Yx,<-hbe];exact J.out,S.out,G.out,M.out⟩
     case measure=>simp[fa];omega
  ·have akp:¬(a:Int)<7:=eh;have A:Hid (gC (Kc C a 0)=gC (kL C)):=wv λx y hx hy=>by simp only[Kc];rw[ai eh]
   obtain⟨g,hg⟩:=gq (gC (Kc C a 0));have gs:g.size=49:=by rw[<-hg];exact qk _
   have g1:g.all (·.oneCell')=true:=by rw[<-hg];exact Ny _
   have zs:Z.size=49:=by rw[<-h];exact qk _
   rw[hg]at X A;have hR:iZ (wr.setRow (Y+1) g) (Y+1) g 256:=U.setRow;have l6:=bU (P:=e7) (wr.setRow (Y+1) g) (Y+1) 256 256 g (0,0) _ hR underlying256 rfl (by rw[gs];exact xu);have HBE:Hid (eE w (wr.setRow (Y+1) g)):=oR T eh g;have vC:(e7.info? 256).map (·.size)=μ g.size:=by rw[gs];exact xu
   have rV:Z.size=g.size:=by rw[gs,zs]
   clear hR hg h T V;go_wp2_with(first
    |refine lq _ rfl (.tmp 3) 256 rfl (Y+2) g _ _ rfl X underlying256 vC ?_
    |refine mG _ rfl (.tmp 2) (.tmp 29) 256 rfl (Y+1) Z g rfl rfl U rV vC g1 ?_)
   refine aE (v:=.agg g) (by simp[results,results163,asAddr,l6]) rfl ?_;exact⟨by rw[A.out],HBE.out⟩
theorem wy(S:Nat->SV)(E:Nat->List jH):∀n,(∀j,j<n->oD (S j).own (S j).seq (E j)=0)->∀x y,0<=jX S E n x y/\jX S E n x y<=20
 |0,_,x,y=>by simp[jX]
 |n+1,h,x,y=>by
  have ih:=wy S E n (λj hj=>h j eh);have Z:=qb _ (E n) 0 (jw (h n eh)).2.2.2;simp only[jX,nr];generalize E n=es at Z;generalize jX S E n=C at ih
  induction es generalizing C with
  |nil=>exact ih x y
  |cons e es ihs=>
   rw[bF];refine ihs (λq Y=>Z q (by simp[Y])) _ (λu v=> ?_);simp only[tV];have:=Z e gZ;split
   ·omega
   ·exact ih u v
theorem UR(a:Option dX)(n cap:Nat)(S:Nat->SV)(E:Nat->List jH)(p q:Nat)(w:dY)(h:uv w a n S E)(hn:n<=1000)(iQ:∀j,j<n->oD (S j).own (S j).seq (E j)=0):
 eZ e7 159 #[σ a n cap,ι κ (p:Int),ι κ (q:Int)] w λe w'=>e=ρ (ι κ (kL (jX S E n) p q))/\eE w w':=by
 have Ra:Hid _:=iQ;clear iQ
 go_in
 go_wp2
 go_loopw [7,8,9] (λt k v wr=>∃i:Nat,i<=n/\v=ι κ i/\t=ι κ (jX S E i p q)/\k=.bool (decide (0<jX S E i q p))/\eE w wr) (λ_ _ v _=>n-(fa v).toNat)
 case atStart=>exact⟨0,Nat.zero_le _,rfl,rfl,by simp[jX],au _ _⟩
 case round=>
  obtain⟨i,hi,rfl,rfl,rfl,M⟩:=hrel;by_cases kD:i<n
  ·have nS:(i:Int)<(n:Int):=eh;obtain⟨sb,off,rfl,hcs⟩:∃sb off,a=μ ⟨sb,off,ν⟩/\∀j,j<n->w.cell? ⟨sb,off+j*3,ν⟩=μ (ι κ (S j).own)/\w.cell? ⟨sb,off+j*3+1,ν⟩=μ (ι κ (S j).seq)/\w.cell? ⟨sb,off+j*3+2,ν⟩=μ (σ (S j).a (S j).n (S j).cap):=by
    rcases h.row with h1|h1
    ·omega
    ·exact h1
   have HOW:=(h.opt i kD).1;have A4:=Ra.out i kD;have Yu:=(jw A4).1;have Yv:=qb _ (E i) 0 (jw A4).2.2.2;have h6:=(jw A4).2.2.1;obtain⟨o,y⟩:∃o:Nat,(S i).own=(o:Int):=⟨(S i).own.toNat,eh⟩
   have HT:Hid (jX S E (i+1)=nr (jX S E i) o (E i)):=by show nr _ _ _=_;rw[y,Int.toNat_natCast]
   have HC:Hid (∀W,eE w W->W.cell? ⟨sb,off+i*3,ν⟩=μ (ι κ (o:Int))/\W.cell? ⟨sb,off+i*3+2,ν⟩=μ (σ (S i).a (S i).n (S i).cap)):=by
    intro W hW;obtain⟨c0,c1,c2⟩:=hcs i kD;have l:=ag w _ c0;rw[y]at c0;exact⟨(hW.cell (p:=⟨sb,off+i*3,ν⟩) l).trans c0,(hW.cell (p:=⟨sb,off+i*3+2,ν⟩) l).trans c2⟩
   have HES:Hid _:=Yv;obtain⟨es,he⟩:=gq (E i);rw[he]at HOW HT HES h6;have KU:=HOW.1;generalize (S i).a=sa at HC HOW;generalize (S i).cap=sc at HC;generalize (S i).n=sn at HC HOW KU;have hsn:sn<=6:=eh;clear hcs he Yv A4 y Yu;obtain⟨Z,Tw⟩:=gq (jX S E i);rw[Tw]at HT;rw[Tw];clear Tw;have HB:Hid _:=M;clear M
   go_wp2
   go_loopw [7,8,10] (λt z v wr=>∃k:Nat,k<=sn/\v=ι κ k/\t=ι κ (nr Z o (es.take k) p q)/\z=.bool (decide (0<nr Z o (es.take k) q p))/\eE w wr) (λ_ _ v _=>sn-(fa v).toNat)
   case atStart=>exact⟨0,Nat.zero_le _,rfl,rfl,rfl,HB.out⟩
   case round=>
    clear HB;obtain⟨k,hk,rfl,rfl,rfl,M⟩:=hrel;obtain⟨c0,c2⟩:=HC.out wr M;by_cases AY:k<sn
    ·have afF:(k:Int)<(sn:Int):=eh;have y:=HOW.below M;rcases y.2 with h1|⟨eb,ako,rfl,hec⟩
     ·omega
     obtain⟨d0,d1⟩:=hec k eh;have Hh:=HES.out _ (aF (show k<es.length by omega));have HP:Hid (nr Z o (es.take (k+1))=tV (nr Z o (es.take k)) o ((es[k]'(by omega)).1.toNat) ((es[k]'(by omega)).2)):=Hp _ o es k eh;obtain⟨g,hg⟩:=gq (es[k]'(by omega));rw[hg]at d0 d1 Hh HP;obtain⟨gt,gm⟩:=g;simp only at d0 d1 Hh HP;obtain⟨t,rfl⟩:∃t:Nat,gt=(t:Int):=⟨gt.toNat,eh⟩
     rw[Int.toNat_natCast]at HP;have ka:=M.alloc M.size (γ #[ι κ (t:Int),ι κ gm] 123);obtain⟨e0,T⟩:=HC.out _ ka;have G:Hid _:=ka;have V:Hid (nr Z o (es.take (k+1)) p q=(if p=o/\q=t then gm else nr Z o (es.take k) p q)/\decide (0<nr Z o (es.take (k+1)) q p)=(if q=o/\p=t then true else decide (0<nr Z o (es.take k) q p))):=by
      rw[HP.out];refine⟨rfl,?_⟩;by_cases e:q=o/\p=t
      ·have T:tV (nr Z o (es.take k)) o t gm q p=gm:=by simp only[tV,if_pos e]
       rw[ai e];exact dk (by rw[T];omega)
      ·have T:tV (nr Z o (es.take k)) o t gm q p=nr Z o (es.take k) q p:=by simp only[tV,if_neg e]
       rw[af e,decide_eq_decide,T]
     clear hec hg y ka M HP;generalize nr Z o (es.take k) p q=t1 at V⊢;generalize decide (0<nr Z o (es.take k) q p)=z1 at V⊢;have main:∀Q:Prop,(((o:Int)==(p:Int))=true->((t:Int)==(q:Int))=true->p=o->q=t->Q)->(((o:Int)==(p:Int))=true->((t:Int)==(q:Int))=false->¬(p=o/\q=t)->Q)->(((o:Int)==(p:Int))=false->¬(p=o/\q=t)->Q)->Q:=by
      intro Q q1 q2 q3;by_cases X:p=o
      ·have f1:((o:Int)==(p:Int))=true:=by simp[X]
       by_cases T:q=t
       ·exact q1 f1 (by simp[T]) X T
       ·exact q2 f1 (by
         have:¬(t:Int)=(q:Int):=eh;simpa using this) (λe=>T e.2)
      ·exact q3 (by
        have:¬(o:Int)=(p:Int):=eh;simpa using this) (λe=>X e.1)
     have aaH:∀Q:Prop,(((o:Int)==(q:Int))=true->((t:Int)==(p:Int))=true->q=o/\p=t->Q)->(((o:Int)==(q:Int))=true->((t:Int)==(p:Int))=false->¬(q=o/\p=t)->Q)->(((o:Int)==(q:Int))=false->¬(q=o/\p=t)->Q)->Q:=by
      intro Q q1 q2 q3;by_cases X:q=o
      ·have f1:((o:Int)==(q:Int))=true:=by simp[X]
       by_cases T:p=t
       ·exact q1 f1 (by simp[T]) ⟨X,T⟩
       ·exact q2 f1 (by
         have:¬(t:Int)=(p:Int):=eh;simpa using this) (λe=>T e.2)
      ·exact q3 (by
        have:¬(o:Int)=(q:Int):=eh;simpa using this) (λe=>X e.1)
     have A:Hid _:=aaH;clear aaH;refine main _ ?_ ?_ ?_<;>clear main
     ·intro f1 f2 X T;have J:Hid (nr Z o (es.take (k+1)) p q=gm):=by show _=_;rw[V.out.1,ai ⟨X,T⟩]
      clear X T;refine A.out _ ?_ ?_ ?_<;>clear A
      ·intro D f4 Y;have U:Hid (decide (0<nr Z o (es.take (k+1)) q p)=true):=by show _=_;rw[V.out.2,ai Y]
       clear Y
       go_wp2
       go_roundw
       case rel=>exact⟨k+1,eh,by go_num,by rw[J.out],by rw[U.out],G.out⟩
       case measure=>simp[fa];omega
      ·intro D f4 Y;have U:Hid (decide (0<nr Z o (es.take (k+1)) q p)=z1):=by show _=_;rw[V.out.2,af Y]
       clear Y
       go_wp2
       go_roundw
       case rel=>exact⟨k+1,eh,by go_num,by rw[J.out],by rw[U.out],G.out⟩
       case measure=>simp[fa];omega
      ·intro D Y;have U:Hid (decide (0<nr Z o (es.take (k+1)) q p)=z1):=by show _=_;rw[V.out.2,af Y]
       clear Y
       go_wp2
       go_roundw
       case rel=>exact⟨k+1,eh,by go_num,by rw[J.out],by rw[U.out],G.out⟩
       case measure=>simp[fa];omega
     ·intro f1 f2 X;have J:Hid (nr Z o (es.take (k+1)) p q=t1):=by show _=_;rw[V.out.1,af X]
      clear X;refine A.out _ ?_ ?_ ?_<;>clear A
      ·intro D f4 Y;have U:Hid (decide (0<nr Z o (es.take (k+1)) q p)=true):=by show _=_;rw[V.out.2,ai Y]
       clear Y
       go_wp2
       go_roundw
       case rel=>exact⟨k+1,eh,by go_num,by rw[J.out],by rw[U.out],G.out⟩
       case measure=>simp[fa];omega
      ·intro D f4 Y;have U:Hid (decide (0<nr Z o (es.take (k+1)) q p)=z1):=by show _=_;rw[V.out.2,af Y]
       clear Y
       go_wp2
       go_roundw
       case rel=>exact⟨k+1,eh,by go_num,by rw[J.out],by rw[U.out],G.out⟩
       case measure=>simp[fa];omega
      ·intro D Y;have U:Hid (decide (0<nr Z o (es.take (k+1)) q p)=z1):=by show _=_;rw[V.out.2,af Y]
       clear Y
       go_wp2
       go_roundw
       case rel=>exact⟨k+1,eh,by go_num,by rw[J.out],by rw[U.out],G.out⟩
       case measure=>simp[fa];omega
     ·intro f1 X;have J:Hid (nr Z o (es.take (k+1)) p q=t1):=by show _=_;rw[V.out.1,af X]
      clear X;refine A.out _ ?_ ?_ ?_<;>clear A
      ·intro D f4 Y;have U:Hid (decide (0<nr Z o (es.take (k+1)) q p)=true):=by show _=_;rw[V.out.2,ai Y]
       clear Y
       go_wp2
       go_roundw
       case rel=>exact⟨k+1,eh,by go_num,by rw[J.out],by rw[U.out],G.out⟩
       case measure=>simp[fa];omega
      ·intro D f4 Y;have U:Hid (decide (0<nr Z o (es.take (k+1)) q p)=z1):=by show _=_;rw[V.out.2,af Y]
       clear Y
       go_wp2
       go_roundw
       case rel=>exact⟨k+1,eh,by go_num,by rw[J.out],by rw[U.out],G.out⟩
       case measure=>simp[fa];omega
      ·intro D Y;have U:Hid (decide (0<nr Z o (es.take (k+1)) q p)=z1):=by show _=_;rw[V.out.2,af Y]
       clear Y
       go_wp2
       go_roundw
       case rel=>exact⟨k+1,eh,by go_num,by rw[J.out],by rw[U.out],G.out⟩
       case measure=>simp[fa];omega
    ·have xZ:¬(k:Int)<(sn:Int):=eh;have HTT:Hid (nr Z o (es.take k)=jX S E (i+1)):=by
      show _=_;rw[HT.out,aI eh]
     rw[HTT.out];have HB:Hid _:=M;clear M
     go_wp2
     go_roundw
     case rel=>exact⟨i+1,eh,by go_num,rfl,rfl,HB.out⟩
     case measure=>simp[fa];omega
  ·have xZ:¬(i:Int)<(n:Int):=eh;have kR:i=n:=eh;subst kR;by_cases u:0<jX S E i q p
   ·have V:Hid (kL (jX S E i) p q=jX S E i p q):=by show _=_;simp only[kL,if_pos u]
    have X:decide (0<jX S E i q p)=true:=dk u;rw[X];clear X u
    go_wp2
    go_ret;exact⟨by rw[V.out];rfl,M⟩
   ·have V:Hid (kL (jX S E i) p q=0):=by show _=_;simp only[kL,if_neg u]
    have X:decide (0<jX S E i q p)=false:=da u;rw[X];clear X u
    go_wp2
    go_ret;exact⟨by rw[V.out];rfl,M⟩
def kY(C:kT)(r n:Nat):Nat->HP:=λx=>if x<n/\0<C r x then⟨x,C r x,x⟩else HP.zero
theorem Em {H K:Nat->HP} (h:∀x,x<7->H x=K x):hC H=hC K:=by
 apply bQ;intro i;by_cases hi:i<21
 ·rw[Ek _ i hi,Ek _ i hi];unfold KS;rw[h (i/3) eh]
 ·rw[a9 (by rw[tJ];omega),a9 (by rw[tJ];omega)]
theorem Nz(C:kT)(r n:Nat)(h:0<C r n):hC (kY C r (n+1))=hC (rA (kY C r n) n ⟨n,C r n,n⟩):=by
 refine Em λx hx=> ?_;simp only[kY,rA];by_cases e:x=n
 ·subst e;rw[ai ⟨eh,h⟩,ai rfl]
 ·rw[af e];by_cases Z:x<n/\0<C r x
  ·rw[ai Z,ai ⟨eh,Z.2⟩]
  ·rw[af Z,af (λY=>Z ⟨eh,Y.2⟩)]
theorem Rc(C:kT)(r n:Nat)(h:¬0<C r n):hC (kY C r (n+1))=hC (kY C r n):=by
 refine Em λx hx=> ?_;simp only[kY];by_cases e:x=n
 ·subst e;rw[af (λZ=>h Z.2),af (λZ=>h Z.2)]
 ·by_cases Y:x<n/\0<C r x
  ·rw[ai Y,ai ⟨eh,Y.2⟩]
  ·rw[af Y,af (λZ=>Y ⟨eh,Z.2⟩)]
theorem Rf(C:kT)(r:Nat)(hr:r<7)(w:dY):
 eZ e7 164 #[.agg (gC C),ι κ (r:Int)] w λe w'=>e=ρ (.agg (hC (kY C r 7)))/\eE w w':=by
 have hz:=KT;obtain⟨Z,M⟩:=gq (hC (λ_=>HP.zero));rw[M]at hz;obtain⟨c,hc⟩:=gq (gC C);rw[hc];have hr7:(r:Int)<7:=eh
 go_in
 go_wp2_with(fail);obtain⟨S,V⟩:=gq (((w.alloc (γ c 256)).alloc (γ Z 259)).alloc (γ Z 259));have yB:eE w S:=by rw[<-V];exact((gY _ _).alloc gZ _).alloc (by simp;omega) _
 have xw:iZ S w.heap.size c 256:=by rw[<-V];exact((iZ.new w c _).below (gY _ _)).below (gY _ _)
 have rN:iZ S (w.heap.size+1) Z 259:=by rw[<-V];exact(iZ.Gk _ Z _ _ gZ).below (gY _ _)
 have E:iZ S (w.heap.size+2) (hC (kY C r 0)) 259:=by
  rw[<-V];have:hC (kY C r 0)=Z:=by rw[<-M];exact Em λx _=>by simp[kY]
  rw[this];exact iZ.Gk _ _ _ _ gZ
 rw[V];clear V;obtain⟨Y,D⟩:=gq (w.heap.size);have vY:w.heap.size<=Y:=eh;rw[D]at xw rN E;rw[D];clear D
 go_loopw [8] (λv wr=>∃n:Nat,n<=7/\v=ι κ n/\iZ wr (Y+2) (hC (kY C r n)) 259/\iZ wr Y c 256/\iZ wr (Y+1) Z 259/\eE w wr) (λv _=>7-(fa v).toNat)
 case atStart=>exact⟨0,eh,rfl,E,xw,rN,yB⟩
 case round=>
  clear xw rN E yB;obtain⟨n,hn,rfl,X,G,T,J⟩:=hrel;by_cases h:n<7
  ·have UT:(n:Int)<7:=eh;have r1:wr.cell? ⟨Y,r*7+n,ν⟩=μ (ι κ (C r n)):=(G.cell _).trans (by rw[<-hc];exact AZ C r n hr h);obtain⟨q0,q1,q2⟩:=A1 (kY C r n) n h;have s0:=(X.cell (n*3)).trans q0;have s1:=(X.cell (n*3+1)).trans q1;have s2:=(X.cell (n*3+2)).trans q2;have f0:=X.frozen (n*3);have f1:=X.frozen (n*3+1);have f2:=X.frozen (n*3+2);have lG:=X.lt;have HG:Hid _:=X;have Gv:Hid _:=G;have XE:Hid _:=T;have HB:Hid _:=J;clear X G T J q0 q1 q2;have HY:=Nz C r n;have HN:=Rc C r n;have j:Hid _:=HY;have u:Hid _:=HN;clear HY HN;by_cases qw:0<C r n
   ·go_wp2
    go_roundw
    case rel=>
     refine⟨n+1,eh,by go_num,?_,iZ.other (iZ.other (iZ.other Gv.out eh _) eh _) eh _,iZ.other (iZ.other (iZ.other XE.out eh _) eh _) eh _,bw (bw (bw HB.out (by show w.heap.size<=Y+2;omega) _) (by show w.heap.size<=Y+2;omega) _) (by show w.heap.size<=Y+2;omega) _⟩;rw[j.out qw,<-Ji _ n _ h];exact iZ.set (iZ.set (iZ.set HG.out _ _) _ _) _ _
    case measure=>simp[fa];omega
   ·go_wp2
    go_roundw
    case rel=>exact⟨n+1,eh,by go_num,by rw[u.out qw];exact HG.out,Gv.out,XE.out,HB.out⟩
    case measure=>simp[fa];omega
  ·have UT:¬(n:Int)<7:=eh;have jx:n=7:=eh;obtain⟨g,U⟩:=gq (hC (kY C r n));have gs:g.size=21:=by rw[<-U];exact tJ _
   have g1:g.all (·.oneCell')=true:=by rw[<-U];exact UK _
   have zs:Z.size=21:=by rw[<-M];exact tJ _
   have y:Hid (g=hC (kY C r 7)):=by show _=_;rw[<-U,jx]
   rw[U]at X;have hR:iZ (wr.setRow (Y+1) g) (Y+1) g 259:=T.setRow;have l6:=bU (P:=e7) (wr.setRow (Y+1) g) (Y+1) 259 259 g (0,0) _ hR underlying259 rfl (by rw[gs];exact Jj);have A:Hid (eE w (wr.setRow (Y+1) g)):=oR J eh g;have vC:(e7.info? 259).map (·.size)=μ g.size:=by rw[gs];exact Jj
   have rV:Z.size=g.size:=by rw[gs,zs]
   clear hR U M J G jx;go_wp2_with(first
    |refine lq _ rfl (.tmp 5) 259 rfl (Y+2) g _ _ rfl X underlying259 vC ?_
    |refine mG _ rfl (.tmp 4) (.tmp 25) 259 rfl (Y+1) Z g rfl rfl T rV vC g1 ?_)
   refine aE (v:=.agg g) (by simp[results,results164,asAddr,l6]) rfl ?_;exact⟨by rw[y.out],A.out⟩
def ux(a b:HP):Bool:=b.far==0||decide (a.far<b.far)||(a.far==b.far&&decide (a.rM<b.rM))
theorem KW(a b:HP)(w:dY):
 eZ e7 205 #[.agg #[ι κ a.dst,ι κ a.far,ι κ a.rM],.agg #[ι κ b.dst,ι κ b.far,ι κ b.rM]] w λe w'=>e=ρ (.bool (ux a b))/\eE w w':=by
 obtain⟨V,Z,Y⟩:=a;obtain⟨b0,b1,b2⟩:=b;simp only;have S:eE w ((w.alloc (γ #[ι κ V,ι κ Z,ι κ Y] 98)).alloc (γ #[ι κ b0,ι κ b1,ι κ b2] 98)):=(gY _ _).alloc gZ _;have T:Hid (ux ⟨V,Z,Y⟩ ⟨b0,b1,b2⟩=(b1==0||decide (Z<b1)||(Z==b1&&decide (Y<b2)))):=rfl;by_cases J:(b1==0)=true
 ·have X:Hid (ux ⟨V,Z,Y⟩ ⟨b0,b1,b2⟩=true):=by show _=_;rw[T.out,J];rfl
  go_in
  go_wp2_with(fail);rw[X.out];go_ret;exact⟨rfl,S⟩
 have U:(b1==0)=false:=by simpa using J
 by_cases M:Z<b1
 ·have X:Hid (ux ⟨V,Z,Y⟩ ⟨b0,b1,b2⟩=true):=by show _=_;rw[T.out,dk M];simp
  go_in
  go_wp2_with(fail);rw[X.out];go_ret;exact⟨rfl,S⟩
 by_cases G:(Z==b1)=true
 ·have X:Hid (ux ⟨V,Z,Y⟩ ⟨b0,b1,b2⟩=decide (Y<b2)):=by show _=_;rw[T.out,U,da M,G];simp
  rw[X.out]
  go_in
  go_wp2
  go_ret;exact⟨rfl,S⟩
 have E:(Z==b1)=false:=by simpa using G
 have X:Hid (ux ⟨V,Z,Y⟩ ⟨b0,b1,b2⟩=false):=by show _=_;rw[T.out,U,da M,E];simp
 go_in
 go_wp2_with(fail);rw[X.out];go_ret;exact⟨rfl,S⟩
def oj(C:kT)(r b n:Nat)(H:Nat->HP):Nat->HP:=
 if(H b).far=0 \/C b n=0 \/n=r then H
 else if ux ⟨n,(H b).far+C b n,(H b).rM⟩ (H n)=true then rA H n ⟨n,(H b).far+C b n,(H b).rM⟩else H
def oS(C:kT)(r b:Nat)(H:Nat->HP):Nat->Nat->HP
 |0=>H
 |n+1=>oj C r b n (oS C r b H n)
def AB(C:kT)(r:Nat)(H:Nat->HP):Nat->Nat->HP
 |0=>H
 |b+1=>oS C r b (AB C r H b) 7
def rY(H:Nat->HP)(m:Int):Prop:=∀n,0<=(H n).far/\(H n).far<=m
theorem rY.step {C:kT} {r:Nat} {H:Nat->HP} {m:Int} (h:rY H m)(hC:∀x y,0<=C x y/\C x y<=20):rY (oj C r b n H) (m+20):=by
 intro x;have hx:=h x;have hb:=h b;have hc:=hC b n;unfold oj;split
 ·omega
 ·split
  ·simp only[rA];split
   ·simp only;omega
   ·omega
  ·omega
theorem rY.row {C:kT} {r b:Nat} {H:Nat->HP} {m:Int} (h:rY H m)(hC:∀x y,0<=C x y/\C x y<=20):∀n,rY (oS C r b H n) (m+20*n)
 |0=>λx=>by have:=h x;simp only[oS];omega
 |n+1=>λx=>by
  have:=(rY.step (C:=C) (r:=r) (b:=b) (n:=n) (rY.row (r:=r) (b:=b) h hC n) hC) x;simp only[oS];push_cast;omega
theorem rY.go {C:kT} {r:Nat} {H:Nat->HP} {m:Int} (h:rY H m)(hC:∀x y,0<=C x y/\C x y<=20):∀b,rY (AB C r H b) (m+140*b)
 |0=>λx=>by have:=h x;simp only[AB];omega
 |b+1=>λx=>by
  have:=(rY.row (C:=C) (r:=r) (b:=b) (rY.go (r:=r) h hC b) hC 7) x;simp only[AB];push_cast at this⊢;omega
theorem NA {a:dY} {o:Option Nat} (h:a.grownBy w o):a.grownBy w.drew o:=⟨h.os,h.tape,h.output,h.size,h.block⟩
theorem UU(C:kT)(r:Nat)(hr:r<7)(H:Nat->HP)(B:Nat)(m:Int)(w:dY)(hB:iZ w B (hC H) 259)(CZ:∀x y,0<=C x y/\C x y<=20)(hm:rY H m)(C2:m<=1000000):
 eZ e7 165 #[π (μ ⟨B,0,ν⟩),.agg (gC C),ι κ (r:Int)] w λe w'=>e=ρ (τ #[])/\iZ w' B (hC (AB C r H 7)) 259/\w.grownBy w' (μ B):=by
 obtain⟨c,hc⟩:=gq (gC C);rw[hc];have hr7:(r:Int)<7:=eh
 go_in
 go_wp2_with(fail);obtain⟨W0,n8⟩:=gq (w.alloc (γ c 256));have Hr:eE w W0:=by rw[<-n8];exact gY _ _
 have yB:w.grownBy W0 (μ B):=⟨Hr.os,Hr.tape,Hr.output,Hr.size,λi hi _=>Hr.block i hi⟩
 have xw:iZ W0 w.heap.size c 256:=by rw[<-n8];exact iZ.new w c _
 have rN:iZ W0 B (hC (AB C r H 0)) 259:=hB.below Hr;have hBC:B<w.heap.size:=hB.lt;rw[n8];clear n8 Hr hB;obtain⟨D,Gd⟩:=gq (w.heap.size);have vY:w.heap.size<=D:=eh;rw[Gd]at xw hBC;rw[Gd];clear Gd;have HFL:=λb=>hm.go (r:=r) CZ b;have HM:Hid _:=HFL;clear HFL hm
 go_loopw [9] (λv wr=>∃b:Nat,b<=7/\v=ι κ b/\iZ wr B (hC (AB C r H b)) 259/\iZ wr D c 256/\w.grownBy wr (μ B)) (λv _=>7-(fa v).toNat)
 case atStart=>exact⟨0,eh,rfl,rN,xw,yB⟩
 case round=>
  clear xw rN yB;obtain⟨b,hb,rfl,U,h,u⟩:=hrel;by_cases XF:b<7
  ·have ab2:(b:Int)<7:=eh;have V:Hid _:=U;have J:Hid _:=h;have X:Hid _:=u;have En:Hid (AB C r H (b+1)=oS C r b (AB C r H b) 7):=rfl;have hmb:=HM.out b;clear U h u;obtain⟨S,hHb⟩:=gq (AB C r H b);rw[hHb]at V En hmb;have HMB:Hid (∀n,rY (oS C r b S n) (m+140*b+20*n)):=λn=>hmb.row CZ n;clear hmb hHb
   go_wp2
   go_loopw [12] (λv wr=>∃n:Nat,n<=7/\v=ι κ n/\iZ wr B (hC (oS C r b S n)) 259/\iZ wr D c 256/\w.grownBy wr (μ B)) (λv _=>7-(fa v).toNat)
   case atStart=>exact⟨0,eh,rfl,V.out,J.out,X.out⟩
   case round=>
    clear V J X;obtain⟨n,hn,rfl,U,h,u⟩:=hrel;by_cases Yy:n<7
    ·have UT:(n:Int)<7:=eh;have wz:Hid (oS C r b S (n+1)=oj C r b n (oS C r b S n)):=rfl;have xx:=HMB.out n b;obtain⟨G,hGe⟩:=gq (oS C r b S n);rw[hGe]at U wz xx;clear hGe;have r1:wr.cell? ⟨D,b*7+n,ν⟩=μ (ι κ (C b n)):=(h.cell _).trans (by rw[<-hc];exact AZ C b n XF Yy);obtain⟨p0,p1,p2⟩:=A1 G b XF;have b0:=(U.cell (b*3)).trans p0;have b1:=(U.cell (b*3+1)).trans p1;have b2:=(U.cell (b*3+2)).trans p2;clear p0 p1 p2;have V:Hid _:=U;have J:Hid _:=h;have X:Hid _:=u;clear U h u;by_cases h1:(G b).far=0
     ·have yC:((G b).far==0)=true:=by simpa using h1
      have M:Hid (oS C r b S (n+1)=G):=by show _=_;rw[wz.out,oj,ai (.inl h1)]
      generalize (G b).far=bf at b1 yC;clear h1
      go_wp2
      go_roundw
      case rel=>exact⟨n+1,eh,by go_num,by rw[M.out];exact V.out,J.out,X.out⟩
      case measure=>simp[fa];omega
     have yC:((G b).far==0)=false:=by simpa using h1
     by_cases h2:C b n=0
     ·have AR:(C b n==0)=true:=by simpa using h2
      have M:Hid (oS C r b S (n+1)=G):=by show _=_;rw[wz.out,oj,ai (.inr (.inl h2))]
      generalize (G b).far=bf at b1 yC;generalize C b n=A at r1 AR;clear h1 h2
      go_wp2
      go_roundw
      case rel=>exact⟨n+1,eh,by go_num,by rw[M.out];exact V.out,J.out,X.out⟩
      case measure=>simp[fa];omega
     have AR:(C b n==0)=false:=by simpa using h2
     by_cases h3:n=r
     ·have tU:((n:Int)==(r:Int))=true:=by simp[h3]
      have M:Hid (oS C r b S (n+1)=G):=by show _=_;rw[wz.out,oj,ai (.inr (.inr h3))]
      generalize (G b).far=bf at b1 yC;generalize C b n=A at r1 AR;clear h1 h2 h3
      go_wp2
      go_roundw
      case rel=>exact⟨n+1,eh,by go_num,by rw[M.out];exact V.out,J.out,X.out⟩
      case measure=>simp[fa];omega
     have tU:((n:Int)==(r:Int))=false:=by
      have:¬(n:Int)=(r:Int):=eh;simpa using this
     have M:Hid (oS C r b S (n+1)=if ux ⟨n,(G b).far+C b n,(G b).rM⟩ (G n)=true then rA G n ⟨n,(G b).far+C b n,(G b).rM⟩else G):=by
      show _=_;rw[wz.out,oj,af (by simp[h1,h2,h3])]
     have uV:=CZ b n;have UW:fJ.wrap ((G b).far+C b n)=(G b).far+C b n:=aQ _ ⟨eh,eh⟩;have E:=KW ⟨n,(G b).far+C b n,(G b).rM⟩ (G n);obtain⟨p0,p1,p2⟩:=A1 G n Yy;have HN:Hid (∀W,iZ W B (hC G) 259->W.cell? ⟨B,n*3,ν⟩=μ (ι κ (G n).dst)/\W.cell? ⟨B,n*3+1,ν⟩=μ (ι κ (G n).far)/\W.cell? ⟨B,n*3+2,ν⟩=μ (ι κ (G n).rM)):=
      λW hW=>⟨(hW.cell _).trans p0,(hW.cell _).trans p1,(hW.cell _).trans p2⟩
     clear p0 p1 p2 wz h1 h2 h3 xx uV;generalize ux ⟨n,(G b).far+C b n,(G b).rM⟩ (G n)=bt at M E;simp only at E;generalize Jh:(G b).far+C b n=ff at M E UW;generalize (G b).far=bf at b1 yC Jh UW;generalize C b n=A at r1 AR Jh UW;generalize (G b).rM=bx at b2 M E;generalize (G n).dst=nd at HN E;generalize (G n).far=nf at HN E;generalize (G n).rM=nx at HN E;have akr:fJ.wrap (bf+A)=ff:=by rw[Jh];exact UW
     have d0:wr.drew.cell? ⟨B,b*3+1,ν⟩=μ (ι κ bf):=b1;have d1:wr.drew.cell? ⟨B,b*3+2,ν⟩=μ (ι κ bx):=b2;have d2:wr.drew.cell? ⟨D,b*7+n,ν⟩=μ (ι κ A):=r1;have lB:B<wr.heap.size:=iZ.lt V.out;have lC:D<wr.heap.size:=iZ.lt J.out;have kz:=gY wr (γ #[ι κ 0,ι κ 0,ι κ 0] 98);have e0:=(kz.cell (p:=⟨B,b*3+1,ν⟩) lB).trans b1;have e1:=(kz.cell (p:=⟨B,b*3+2,ν⟩) lB).trans b2;have e2:=(kz.cell (p:=⟨D,b*7+n,ν⟩) lC).trans r1;clear Jh UW kz
     go_upto_region 8 with fail
     clear yC AR tU
     go_region
     all_goals
      obtain⟨W3,xR⟩:=gq ((wr.alloc (γ #[ι κ (n:Int),ι κ ff,ι κ bx] 98)).drew);have k3:eE wr W3:=by rw[<-xR];exact below_drewN (gY _ _) 1
      have hY:iZ W3 wr.heap.size #[ι κ (n:Int),ι κ ff,ι κ bx] 98:=by rw[<-xR];exact iZ.drewN (iZ.new wr _ _) 1
      obtain⟨Y,Rb⟩:=gq (wr.heap.size);have hG3:=iZ.below V.out k3;have Hc3:Hid _:=iZ.below J.out k3;have Hs:Hid (w.grownBy W3 (μ B)):=⟨k3.os.trans X.out.os,k3.tape.trans X.out.tape,k3.output.trans X.out.output,Nat.le_trans X.out.size k3.size,λi hi j=>(k3.block i (Nat.lt_of_lt_of_le hi X.out.size)).trans (X.out.block i hi j)⟩
      have HYB:Hid (B<Y/\D<Y):=by show _/\_;rw[<-Rb];exact⟨lB,lC⟩
      rw[Rb]at hY;have HY:Hid _:=hY;have XD:Hid _:=hG3;have HF:Hid (∀W,eE W3 W->(W.cell? ⟨Y,0,ν⟩=μ (ι κ (n:Int))/\W.cell? ⟨Y,1,ν⟩=μ (ι κ ff)/\W.cell? ⟨Y,2,ν⟩=μ (ι κ bx))/\W.cell? ⟨B,n*3,ν⟩=μ (ι κ nd)/\W.cell? ⟨B,n*3+1,ν⟩=μ (ι κ nf)/\W.cell? ⟨B,n*3+2,ν⟩=μ (ι κ nx)):=by
       intro W hW;have q:=iZ.below HY.out hW;exact⟨⟨iZ.cell q 0,iZ.cell q 1,iZ.cell q 2⟩,HN.out W (iZ.below XD.out hW)⟩
      have KD:eE W3 W3.drew:=below_drewN (au _ _) 1;have F0:=HF.out _ KD;rw[xR,Rb];clear xR k3 Rb hG3 hY d0 d1 d2 e0 e1 e2 b0 b1 b2 r1 lB lC akr
      go_wp2
      go_region_held3(λx=>(x.cell? ⟨Y,0,ν⟩=μ (ι κ (n:Int))/\x.cell? ⟨Y,1,ν⟩=μ (ι κ ff)/\x.cell? ⟨Y,2,ν⟩=μ (ι κ bx))/\x.cell? ⟨B,n*3,ν⟩=μ (ι κ nd)/\x.cell? ⟨B,n*3+1,ν⟩=μ (ι κ nf)/\x.cell? ⟨B,n*3+2,ν⟩=μ (ι κ nx))
       (first|assumption|exact F0|exact F1)
       ((go_at_call 205;refine(E _).mono ?_;rintro e w5 ⟨rfl,k5⟩;have F1:=HF.out _ (gu KD k5)))
      all_goals
       have Z:=gu KD k5;have T:=iZ.below XD.out Z;have Gw:Hid _:=T;have Hc5:Hid _:=iZ.below Hc3.out Z;have Ht:Hid (w.grownBy w5 (μ B)):=⟨Z.os.trans Hs.out.os,Z.tape.trans Hs.out.tape,Z.output.trans Hs.out.output,Nat.le_trans Hs.out.size Z.size,λi hi j=>(Z.block i (Nat.lt_of_lt_of_le hi Hs.out.size)).trans (Hs.out.block i hi j)⟩
       obtain⟨⟨y0,y1,y2⟩,g0,g1,g2⟩:=F1;have f0:=T.frozen (n*3);have f1:=T.frozen (n*3+1);have f2:=T.frozen (n*3+2);have lB:=T.lt;clear HF HN E F0 k5 KD Z T;cases bt
       ·have HS3:Hid (oS C r b S (n+1)=G):=by show _=_;rw[M.out];simp
        go_wp2
        go_roundw
        case rel=>exact⟨n+1,eh,by go_num,by rw[HS3.out];exact Gw.out,Hc5.out,Ht.out⟩
        case measure=>simp[fa];omega
       ·have HS3:Hid (oS C r b S (n+1)=rA G n ⟨n,ff,bx⟩):=by show _=_;rw[M.out];simp
        go_wp2
        go_region
        all_goals
         go_wp2
         go_roundw
         case rel=>
          have j:D≠B:=by have:=Ht.out.size;omega
          refine⟨n+1,eh,by go_num,?_,iZ.other (iZ.other (iZ.other Hc5.out j _) j _) j _,NA (kQ (kQ (kQ Ht.out _ _) _ _) _ _)⟩;rw[HS3.out,<-Ji _ n _ Yy];exact iZ.set (iZ.set (iZ.set Gw.out _ _) _ _) _ _
         case measure=>simp[fa];omega
    ·have UT:¬(n:Int)<7:=eh;have j:n=7:=eh;have V:Hid _:=U;have J:Hid _:=h;have X:Hid _:=u;clear U h u
     go_wp2
     go_roundw
     case rel=>exact⟨b+1,eh,by go_num,by rw[En.out,<-j];exact V.out,J.out,X.out⟩
     case measure=>simp[fa];omega
  ·have ab2:¬(b:Int)<7:=eh;have hbe:b=7:=eh;have V:Hid (iZ wr B (hC (AB C r H 7)) 259):=by rw[<-hbe];exact U
   have X:Hid _:=u;clear U h u hbe
   go_wp2
   first|go_end0|refine iM rfl rfl ?_
   exact⟨rfl,V.out,X.out⟩
def ph(H:Nat->HP):Nat->List HP
 |0=>[]
 |n+1=>if 0<(H n).far then ph H n++ [H n]else ph H n
theorem rB(H:Nat->HP):∀n,(ph H n).length<=n
 |0=>Nat.le_refl _
 |n+1=>by
  have:=rB H n;simp only[ph];split
  ·simp;omega
  ·omega
def NB(L:List HP):List dZ:=L.flatMap λh=>[ι κ h.dst,ι κ h.far,ι κ h.rM]
theorem KX(L:List HP)(h:HP):NB (L++ [h])=NB L++ [ι κ h.dst,ι κ h.far,ι κ h.rM] :=by simp[NB]
theorem Px:∀(L:List HP) (j:Nat) (h:HP),L[j]? =μ h->(NB L)[j*3]? =μ (ι κ h.dst)/\(NB L)[j*3+1]? =μ (ι κ h.far)/\(NB L)[j*3+2]? =μ (ι κ h.rM)
 |[],j,s,h=>by simp at h
 |x::l,0,s,h=>by
  have:x=s:=by simpa using h
  subst this;exact⟨rfl,rfl,rfl⟩
 |x::l,j+1,s,h=>by
  have V:l[j]? =μ s:=by simpa using h
  obtain⟨a,b,c⟩:=Px l j s V;have e:NB (x::l)=ι κ x.dst::ι κ x.far::ι κ x.rM::NB l:=rfl;have Z:(j+1)*3=j*3+3:=eh;have Y:(j+1)*3+1=j*3+1+3:=eh;have X:(j+1)*3+2=j*3+2+3:=eh;rw[e,Y,X,Z];simp only[List.getElem?_cons_succ];exact⟨a,b,c⟩
theorem Row.hs {v:dZ} {L:List HP} (h:Row w 3 v L.length (NB L)):∃a cap,v=σ a L.length cap/\Gs w a L.length L:=by
 rcases h.2 with⟨rfl,e⟩|⟨g,cap,rfl,_⟩
 ·rw[e];exact⟨ν,0,rfl,⟨e,.inl rfl⟩⟩
 ·refine⟨_,cap,rfl,⟨rfl,.inr ⟨g,0,rfl,λj s e=> ?_⟩⟩⟩;obtain⟨a,b,c⟩:=Px L j s e;rw[show 0+j*3=j*3 by omega];exact⟨Row.cell h _ _ a,Row.cell h _ _ b,Row.cell h _ _ c⟩
theorem zC(w:dY)(x y z:dZ)(t:ew)(g:Nat)(Z:w.heap.size=g):∀(j:Nat) (u:dZ),[x,y,z][j]? =μ u->(w.alloc (γ #[x,y,z] t)).cell? ((⟨g,0,ν⟩:dX).add j)=μ u:=by
 subst Z;intro j u Y;rw[add_plain,aq];simpa using Y
theorem UX(x y z:Int):∀u∈ [eB .i64 x,eB .i64 y,eB .i64 z],u.oneCell'=true:=by simp[Value.oneCell']
theorem Py:(e7.info? 98).map (λi=>(i.zero,i.size,i.bytes))=μ (μ (.agg #[ι κ 0,ι κ 0,ι κ 0]),3,24):=gX
theorem UY(H:Nat->HP)(B:Nat)(w:dY)(hB:iZ w B (hC H) 259):
 eZ e7 166 #[π (μ ⟨B,0,ν⟩)] w λe w'=>∃a cap,e=ρ (σ a (ph H 7).length cap)/\HsN w w' a (ph H 7).length (ph H 7)/\eE w w':=by
 obtain⟨i0,hi,oB,np,mI⟩:=aX Py
 go_in
 go_wp2
 go_loopw [3,8] (λs v wr=>∃n:Nat,n<=7/\v=ι κ n/\Row wr 3 s (ph H n).length (NB (ph H n))/\(∀g,s.ownBlock=μ g->w.heap.size<=g)/\eE w wr) (λ_ v _=>7-(fa v).toNat)
 case atStart=>exact⟨0,eh,rfl,Row.nil _ _,λg h=>by simp[eu]at h,au _ _⟩
 case round=>
  obtain⟨n,hn,rfl,S,M,Z⟩:=hrel;have HL:Hid _:=rB H n;have Y:Hid (ph H (n+1)=if 0<(H n).far then ph H n++ [H n]else ph H n):=rfl;by_cases Yy:n<7
  ·have UT:(n:Int)<7:=eh;obtain⟨p0,p1,p2⟩:=A1 H n Yy;have G:=hB.below Z;have c0:=(G.cell (n*3)).trans p0;have c1:=(G.cell (n*3+1)).trans p1;have c2:=(G.cell (n*3+2)).trans p2;clear p0 p1 p2 G;obtain⟨p,hp⟩:=gq (H n);rw[hp]at c0 c1 c2 Y;clear hp;obtain⟨pd,pf,V⟩:=p;simp only at c0 c1 c2 Y;have D:=Z.alloc Z.size (γ #[ι κ pd,ι κ pf,ι κ V] 98);have u:Hid _:=D;have hws:Hid (w.heap.size<=wr.heap.size):=Z.size;have J:=S.alloc (γ #[ι κ pd,ι κ pf,ι κ V] 98);have E:Hid _:=M;by_cases hf:0<pf
   ·rw[ai hf]at Y;obtain⟨L,T⟩:=gq (ph H n);rw[T]at Y HL J;have hLl:L.length<=n:=HL.out;clear T S M Z D;go_wp2_with(at_builtin;go_must(refine iI _ rfl (.tmp 16) (.tmp 18) 94 rfl 98 i0 (.agg #[ι κ 0,ι κ 0,ι κ 0]) 3 24 underlying94 hi oB np mI rfl eA u3 L.length (NB L) rfl (J.alloc _) _ 1 1 [ι κ pd,ι κ pf,ι κ V] rfl rfl eA (zC _ _ _ _ _ _ gZ) (UX _ _ _) (by unfold maxLen;omega) eh ?_));intro j jv w3 sM U sN;have y:Hid (Row w3 3 (σ (μ ⟨j,0,ν⟩) (L.length+1) jv) (L++ [(⟨pd,pf,V⟩:HP)]).length (NB (L++ [(⟨pd,pf,V⟩:HP)]))):=by
     show Row _ _ _ _ _;rw[KX,az];exact sM
    have X:eE w ((wr.alloc (γ #[ι κ pd,ι κ pf,ι κ V] 98)).alloc (γ #[ι κ pd,ι κ pf,ι κ V] 98)):=Below.alloc u.out u.out.size _;have Hs:Hid (eE w w3):=⟨U.os.trans X.os,U.tape.trans X.tape,U.output.trans X.output,Nat.le_trans X.size U.size,λi hi=>(U.block i (Nat.lt_of_lt_of_le hi X.size) (λe=>by have:=E.out i e.symm;omega)).trans (X.block i hi)⟩
    have XD:Hid (∀g,eu (σ (μ ⟨j,0,ν⟩) (L.length+1) jv)=μ g->w.heap.size<=g):=by
     intro g h;have QH:j=g:=by simpa[eu]using h
     subst QH;rcases sN with e|e
     ·exact E.out _ e
     ·have:=hws.out;omega
    clear sM U sN X J c0 c1 c2
    go_wp2
    go_roundw
    case rel=>exact⟨n+1,eh,by go_num,by rw[Y.out];exact y.out,XD.out,Hs.out⟩
    case measure=>simp[fa];omega
   ·rw[af hf]at Y;have A:Hid _:=J;clear S M Z D J
    go_wp2
    go_roundw
    case rel=>exact⟨n+1,eh,by go_num,by rw[Y.out];exact A.out,E.out,u.out⟩
    case measure=>simp[fa];omega
  ·have UT:¬(n:Int)<7:=eh;have jx:n=7:=eh;subst jx;obtain⟨a,cap,rfl,hR⟩:=Row.hs S;have HR:Hid (HsN w wr a (ph H 7).length (ph H 7)):=⟨hR,λx e=>by subst e;exact M _ rfl⟩
   clear hR S M
   go_wp2
   go_ret
   first|exact⟨a,cap,rfl,HR.out,Z⟩|exact⟨a,⟨cap,rfl⟩,HR.out,Z⟩
def jl(C:kT)(r:Nat):Nat->Nat->HP
 |0=>kY C r 7
 |k+1=>AB C r (jl C r k) 7
def pw(C:kT)(r:Nat):List HP:=ph (jl C r 6) 7
theorem Cc {C:kT} (r:Nat)(hC:∀x y,0<=C x y/\C x y<=20):∀k,rY (jl C r k) (20+980*k)
 |0=>λn=>by
  simp only[jl,kY];have:=hC r n;split
  ·simp only;omega
  ·simp[HP.zero]
 |k+1=>λn=>by
  have:=(Cc r hC k).go (r:=r) hC 7 n;simp only[jl];push_cast at this⊢;omega
theorem Cd {C:kT} (hC:∀x y,0<=C x y/\C x y<=20):∀x y,0<=kL C x y/\kL C x y<=20:=by
 intro x y;have:=hC x y;simp only[kL];split<;>omega
theorem UZ(a:Option dX)(n cap:Nat)(S:Nat->SV)(E:Nat->List jH)(r:Nat)(w:dY)(h:uv w a n S E)(hn:n<=1000)(iQ:∀j,j<n->oD (S j).own (S j).seq (E j)=0)(lg:1<=r)(hr6:r<=6):
 eZ e7 116 #[σ a n cap,ι κ (r:Int)] w λe w'=>∃b c,e=ρ (σ b (pw (kL (jX S E n)) r).length c)/\HsN w w' b (pw (kL (jX S E n)) r).length (pw (kL (jX S E n)) r)/\eE w w':=by
 have htl:=Q9 a n cap S E w h hn iQ;have hz:=A2;have mI:=KT;have Hh:=Cd (wy S E n iQ);have y:Hid _:=Hh;have r1:¬(r:Int)<1:=eh;have r2:¬6<(r:Int):=eh;obtain⟨Z,hZ⟩:=gq (gC (λ_ _=>0));obtain⟨T,XC⟩:=gq (hC (λ_=>HP.zero));have zs:Z.size=49:=by rw[<-hZ];exact qk _
 have zs2:T.size=21:=by rw[<-XC];exact tJ _
 rw[hZ]at hz;rw[XC]at mI;clear hZ XC Hh iQ
 go_in
 go_wp2_with(fail);refine htl.mono ?_;rintro e w1 ⟨rfl,k1⟩;have AJ:=UQ (jX S E n) w1;obtain⟨C,hCe⟩:=gq (kL (jX S E n));rw[hCe]at AJ y;have HCe:Hid _:=hCe;clear htl hCe;go_wp2_with(fail);refine AJ.mono ?_;rintro e U ⟨rfl,k2⟩;have mX:=gu k1 k2;clear AJ k1 k2;have gs:(gC C).size=49:=qk _;have g1:(gC C).all (·.oneCell')=true:=Ny _;have vC:(e7.info? 256).map (·.size)=μ (gC C).size:=by rw[gs];exact xu
 have rV:Z.size=(gC C).size:=by rw[gs,zs]
 have hB:iZ (U.alloc (γ Z 256)) U.heap.size Z 256:=iZ.new _ _ _;have CY:iZ ((U.alloc (γ Z 256)).setRow U.heap.size (gC C)) U.heap.size (gC C) 256:=hB.setRow;have Hb3:Hid (eE w ((U.alloc (γ Z 256)).setRow U.heap.size (gC C))):=oR (mX.alloc mX.size _) mX.size _;have Pu:=Rf C r eh ((U.alloc (γ Z 256)).setRow U.heap.size (gC C));have AA:Hid _:=CY;have Hs2:Hid _:=mX.size;clear mX;go_wp2_with(first
  |refine lq _ rfl (.tmp 5) 256 rfl U.heap.size (gC C) _ _ rfl CY underlying256 vC ?_
  |refine mG _ rfl (.tmp 5) (.tmp 15) 256 rfl U.heap.size Z (gC C) rfl rfl hB rV vC g1 ?_)
 refine Pu.mono ?_;rintro e V ⟨rfl,k3⟩;have yx:=iZ.below AA.out k3;have sy:=gu Hb3.out k3;obtain⟨X,MH⟩:=gq (U.heap.size);have HsX:Hid (w.heap.size<=X):=by show _<=_;rw[<-MH];exact Hs2.out
 rw[MH]at yx;rw[MH];have A:Hid (X<V.heap.size):=yx.lt;clear Pu hB CY AA Hb3 k3 Hs2 MH vC rV;obtain⟨F,hF⟩:=gq (hC (kY C r 7));have fs:F.size=21:=by rw[<-hF];exact tJ _
 have f1:F.all (·.oneCell')=true:=by rw[<-hF];exact UK _
 have Rh:(e7.info? 259).map (·.size)=μ F.size:=by rw[fs];exact Jj
 have afK:T.size=F.size:=by rw[fs,zs2]
 rw[hF];have hB:iZ (V.alloc (γ T 259)) V.heap.size T 259:=iZ.new _ _ _;have hY4:iZ ((V.alloc (γ T 259)).setRow V.heap.size F) V.heap.size F 259:=hB.setRow;have hX4:iZ ((V.alloc (γ T 259)).setRow V.heap.size F) X (gC C) 256:=(yx.below (gY _ _)).UI (by have:=A.out;omega);have D:Hid (eE w ((V.alloc (γ T 259)).setRow V.heap.size F)):=oR (sy.alloc sy.size _) sy.size _;have G:Hid (iZ ((V.alloc (γ T 259)).setRow V.heap.size F) V.heap.size (hC (jl C r 0)) 259):=by show iZ _ _ (hC (kY C r 7)) _;rw[hF];exact hY4
 have J:Hid _:=hX4;have HS3:Hid _:=sy.size;clear sy hF yx;go_wp2_with(first
  |refine mG _ rfl (.tmp 6) (.tmp 18) 259 rfl V.heap.size T F rfl rfl hB afK Rh f1 ?_)
 obtain⟨Y,Rb⟩:=gq (V.heap.size);rw[Rb]at G J D A HS3;rw[Rb];clear Rb hB hY4 hX4 Rh afK fs f1;obtain⟨W4,uW⟩:=gq ((V.alloc (γ T 259)).setRow Y F);rw[uW]at G J D;rw[uW];clear uW;have HRF:=Cc r y.out;have akw:Hid _:=HRF;clear HRF
 go_loopw [19] (λv wr=>∃k:Nat,k<=6/\v=ι κ k/\iZ wr X (gC C) 256/\iZ wr Y (hC (jl C r k)) 259/\eE w wr) (λv _=>6-(fa v).toNat)
 case atStart=>exact⟨0,eh,rfl,J.out,G.out,D.out⟩
 case round=>
  clear J G D;obtain⟨k,hk,rfl,hX,hY,iN⟩:=hrel;by_cases hk6:k<6
  ·have akx:(k:Int)<6:=eh;have vC:(e7.info? 256).map (·.size)=μ (gC C).size:=by rw[gs];exact xu
   have hgo:=UU C r eh (jl C r k) Y (20+980*k) wr hY y.out (akw.out k) eh;have HX:Hid _:=hX;have M:Hid _:=iN;clear hY iN;go_wp2_with(first
    |refine lq _ rfl (.tmp 5) 256 rfl X (gC C) _ _ rfl hX underlying256 vC ?_)
   refine hgo.mono ?_;rintro e w5 ⟨rfl,hY5,u⟩;have hXl:=iZ.lt HX.out;have HX5:Hid (iZ w5 X (gC C) 256):=iZ.keep HX.out (u.block X hXl (λe=>by have:=A.out;simp at e;omega));have HY5:Hid _:=hY5;have Ht:Hid (eE w w5):=⟨u.os.trans M.out.os,u.tape.trans M.out.tape,u.output.trans M.out.output,Nat.le_trans M.out.size u.size,λi hi=>(u.block i (Nat.lt_of_lt_of_le hi M.out.size) (λe=>by have:=HS3.out;simp at e;omega)).trans (M.out.block i hi)⟩
   clear hgo hY5 u hX vC
   go_wp2
   go_roundw
   case rel=>exact⟨k+1,eh,by go_num,HX5.out,HY5.out,Ht.out⟩
   case measure=>simp[fa];omega
  ·have akx:¬(k:Int)<6:=eh;have hke:k=6:=eh;have hli:=UY (jl C r k) Y wr hY;have HL:Hid (ph (jl C r k) 7=pw (kL (jX S E n)) r):=by show _=_;rw[HCe.out,hke];rfl
   rw[HL.out]at hli;clear hX hY hke HL;go_wp2_with(fail);refine hli.mono ?_;rintro e w5 ⟨ra,rc,rfl,hR,k5⟩;have HR:Hid (HsN w w5 ra (pw (kL (jX S E n)) r).length (pw (kL (jX S E n)) r)):=⟨hR.r,λx e=>Nat.le_trans iN.size (hR.nw x e)⟩
   have M:Hid _:=gu iN k5;clear hli hR k5 iN
   go_wp2
   go_ret
   first|exact⟨_,_,rfl,HR.out,M.out⟩|exact⟨_,⟨_,rfl⟩,HR.out,M.out⟩
section
variable (C:kT) (r:Nat)
def pc:List Nat->Int
 |[] =>0
 |[n] =>C r n
 |n::m::l=>pc (m::l)+C m n
def Hu:List Nat->Prop
 |[] =>False
 |[n] =>0<C r n/\n≠r/\n<7
 |n::m::l=>Hu (m::l)/\0<C m n/\n≠r/\n<7
end
def xS:List Nat->Nat
 |[] =>0
 |[n] =>n
 |_::m::l=>xS (m::l)
def xy(a:Int×Int)(b:Int×Int):Prop:=a.1<b.1 \/(a.1=b.1/\a.2<=b.2)
theorem xy.trans {a b c:Int×Int} (h:xy a b)(k:xy b c):xy a c:=by unfold xy at*;omega
theorem xy.rfl'(a:Int×Int):xy a a:=.inr ⟨rfl,Int.le_refl _⟩
def HP.v(h:HP):Int×Int:=(h.far,h.rM)
def zD(G' G:Nat->HP):Prop:=∀x,0<(G x).far->0<(G' x).far/\xy (G' x).v (G x).v
theorem zD.refl(G:Nat->HP):zD G G:=λ_ h=>⟨h,xy.rfl' _⟩
theorem zD.trans {A B D:Nat->HP} (h:zD A B)(k:zD B D):zD A D:=λx hx=>⟨(h x (k x hx).1).1,(h x (k x hx).1).2.trans (k x hx).2⟩
theorem zE(a b:HP):ux a b=true↔b.far=0 \/a.far<b.far \/(a.far=b.far/\a.rM<b.rM):=by
 unfold ux;simp[or_assoc]
section
variable {C:kT} {r:Nat}
structure Sound(C:kT)(r:Nat)(G:Nat->HP):Prop where
 nn:∀n,0<=(G n).far
 way:∀n,0<(G n).far->(G n).dst=n/\∃p,Hu C r p/\p.head? =μ n/\pc C r p=(G n).far/\((xS p:Nat):Int)=(G n).rM
theorem Jk(hC:∀x y,0<=C x y):∀p,Hu C r p->0<pc C r p
 |[],h=>h.elim
 |[n],h=>h.1
 |n::m::l,h=>by
  have:=Jk hC (m::l) h.1;have h2:=h.2.1;simp only[pc];omega
theorem Ri(b n:Nat)(G:Nat->HP)(Z:∀x,0<=(G x).far)(hC:∀x y,0<=C x y):zD (oj C r b n G) G:=by
 intro x hx;unfold oj;split
 ·exact⟨hx,xy.rfl' _⟩
 ·rename_i hc
  split
  ·rename_i hb
   rw[zE]at hb;simp only[rA];by_cases e:x=n
   ·subst e;rw[ai rfl];have h1:=Z b;have h2:=hC b x;refine⟨by simp only;omega,?_⟩;simp only[HP.v,xy]at hb⊢;omega
   ·rw[af e];exact⟨hx,xy.rfl' _⟩
  ·exact⟨hx,xy.rfl' _⟩
theorem ND(b n:Nat)(G:Nat->HP)(Z:∀x,0<=(G x).far)(h1:0<(G b).far)(h2:0<C b n)(h3:n≠r):0<(oj C r b n G n).far/\xy (oj C r b n G n).v ((G b).far+C b n,(G b).rM):=by
 unfold oj;rw[af eh];by_cases hb:ux ⟨n,(G b).far+C b n,(G b).rM⟩ (G n)=true
 ·rw[ai hb];simp only[rA,if_true];exact⟨eh,xy.rfl' _⟩
 ·rw[af hb];rw[zE]at hb;have:=Z n;simp only at hb;refine⟨eh,?_⟩;simp only[HP.v,xy];omega
theorem NF(b n:Nat)(V:n<7)(G:Nat->HP)(Z:Sound C r G)(hC:∀x y,0<=C x y):Sound C r (oj C r b n G):=by
 unfold oj;split
 ·exact Z
 ·rename_i hc
  split
  ·have h1:=Z.nn b;have h2:=hC b n;refine⟨λx=> ?_,λx hx=> ?_⟩
   ·simp only[rA];split
    ·simp only;omega
    ·exact Z.nn x
   ·simp only[rA]at hx⊢;by_cases e:x=n
    ·subst e;simp only[if_true]at hx⊢;obtain⟨_,p,Y,X,p3,U⟩:=Z.way b eh;refine⟨trivial,x::p,?_,rfl,?_,?_⟩
     ·cases p with
      |nil=>exact Y.elim
      |cons m l=>
       have:m=b:=by simpa using X
       subst this;exact⟨Y,eh,eh,V⟩
     ·cases p with
      |nil=>exact Y.elim
      |cons m l=>
       have:m=b:=by simpa using X
       subst this;simp only[pc,p3]
     ·cases p with
      |nil=>exact Y.elim
      |cons m l=>exact U
    ·rw[af e]at hx⊢;exact Z.way x hx
  ·exact Z
theorem xA(b:Nat)(G:Nat->HP)(Z:Sound C r G)(hC:∀x y,0<=C x y):∀n,n<=7->Sound C r (oS C r b G n)
 |0,_=>Z
 |n+1,h=>NF b n eh _ (xA b G Z hC n eh) hC
theorem go_sound(G:Nat->HP)(Z:Sound C r G)(hC:∀x y,0<=C x y):∀b,Sound C r (AB C r G b)
 |0=>Z
 |b+1=>xA b _ (go_sound G Z hC b) hC 7 (Nat.le_refl _)
theorem zF(b:Nat)(G:Nat->HP)(Z:Sound C r G)(hC:∀x y,0<=C x y)(i:Nat):∀d,i+d<=7->zD (oS C r b G (i+d)) (oS C r b G i)
 |0,_=>zD.refl _
 |d+1,h=>(Ri b (i+d) _ (xA b G Z hC (i+d) eh).nn hC).trans (zF b G Z hC i d eh)
theorem Rj(b:Nat)(G:Nat->HP)(Z:Sound C r G)(hC:∀x y,0<=C x y)(m:Nat)(hm:m<7)(X:0<(G b).far)(V:0<C b m)(U:m≠r):0<(oS C r b G 7 m).far/\xy (oS C r b G 7 m).v ((G b).far+C b m,(G b).rM):=by
 have k0:=zF b G Z hC 0 m eh;rw[Nat.zero_add]at k0;have k1:=k0 b X;have k2:=ND (r:=r) b m (oS C r b G m) (xA b G Z hC m eh).nn k1.1 V U;have k3:=zF b G Z hC (m+1) (7-(m+1)) eh;rw[show m+1+(7-(m+1))=7 by omega]at k3;have Y:=k3 m k2.1;refine⟨Y.1,Y.2.trans (xy.trans k2.2 ?_)⟩;have:=k1.2;simp only[xy,HP.v,oS]at this⊢;omega
theorem Dt(G:Nat->HP)(Z:Sound C r G)(hC:∀x y,0<=C x y)(i:Nat):∀d,zD (AB C r G (i+d)) (AB C r G i)
 |0=>zD.refl _
 |d+1=>by
  have h:=zF (i+d) _ (go_sound G Z hC (i+d)) hC 0 7 eh;exact zD.trans h (Dt G Z hC i d)
theorem U1(G:Nat->HP)(Z:Sound C r G)(hC:∀x y,0<=C x y)(b m:Nat)(hb:b<7)(T:m<7)(X:0<(G b).far)(V:0<C b m)(U:m≠r):0<(AB C r G 7 m).far/\xy (AB C r G 7 m).v ((G b).far+C b m,(G b).rM):=by
 have k0:=Dt G Z hC 0 b;rw[Nat.zero_add]at k0;have k1:=k0 b X;have k2:=Rj b _ (go_sound G Z hC b) hC m T k1.1 V U;have k3:=Dt G Z hC (b+1) (7-(b+1));rw[show b+1+(7-(b+1))=7 by omega]at k3;have Y:=k3 m k2.1;refine⟨Y.1,Y.2.trans (xy.trans k2.2 ?_)⟩;have:=k1.2;simp only[xy,HP.v,AB]at this⊢;omega
def Du(C:kT)(r:Nat)(G:Nat->HP)(p:List Nat):Prop:=∀n,p.head? =μ n->0<(G n).far/\xy (G n).v (pc C r p,((xS p:Nat):Int))
theorem KY(hC:∀x y,0<=C x y)(hd:C r r=0):Sound C r (kY C r 7):=by
 refine⟨λn=> ?_,λn Z=> ?_⟩
 ·simp only[kY];have:=hC r n;split
  ·simp only;omega
  ·simp[HP.zero]
 ·simp only[kY]at Z⊢;by_cases h:n<7/\0<C r n
  ·rw[ai h]at Z⊢;refine⟨rfl,[n],⟨h.2,?_,h.1⟩,rfl,rfl,rfl⟩;rintro rfl;omega
  ·rw[af h]at Z;simp[HP.zero]at Z
theorem ql(hC:∀x y,0<=C x y)(hd:C r r=0):∀k,Sound C r (jl C r k)
 |0=>KY hC hd
 |k+1=>go_sound _ (ql hC hd k) hC 7
theorem YA:∀ {p:List Nat} {n:Nat},Hu C r p->p.head? =μ n->n<7/\n≠r
 |[],n,h,_=>h.elim
 |[m],n,h,e=>by
  have:m=n:=by simpa using e
  subst this;exact⟨h.2.2,h.2.1⟩
 |m::x::l,n,h,e=>by
  have:m=n:=by simpa using e
  subst this;exact⟨h.2.2.2,h.2.2.1⟩
theorem yE(hC:∀x y,0<=C x y)(hd:C r r=0):∀k p,Hu C r p->p.length<=k+1->Du C r (jl C r k) p
 |0,[],h,_=>h.elim
 |0,[n],h,_=>by
  intro x hx;have:n=x:=by simpa using hx
  subst this;simp only[jl,kY,if_pos (show n<7/\0<C r n from⟨h.2.2,h.1⟩)];exact⟨h.1,xy.rfl' _⟩
 |0,n::m::l,h,hl=>by simp at hl
 |k+1,p,h,hl=>by
  by_cases hs:p.length<=k+1
  ·intro n V;have Z:=yE hC hd k p h hs n V;have Y:=Dt (jl C r k) (ql hC hd k) hC 0 7 n Z.1;exact⟨Y.1,Y.2.trans Z.2⟩
  ·match p,h,hl,hs with
   |[],h,_,_=>exact h.elim
   |[n],h,_,hs=>simp at hs
   |n::m::l,h,hl,hs=>
    intro x hx;have:n=x:=by simpa using hx
    subst this;have Z:=yE hC hd k (m::l) h.1 (by simp at hl⊢;omega) m rfl;have X:=(YA h.1 (show(m::l).head? =μ m from rfl)).1;have Y:=U1 (jl C r k) (ql hC hd k) hC m n X h.2.2.2 Z.1 h.2.1 h.2.2.1;refine⟨Y.1,xy.trans Y.2 ?_⟩;have:=Z.2;simp only[xy,HP.v,pc,xS]at this⊢;omega
theorem KZ(hC:∀x y,0<=C x y)(n:Nat):∀q:List Nat,Hu C r q->q.Nodup->n∈q->∃t,Hu C r t/\t.Nodup/\t.head? =μ n/\xS t=xS q/\pc C r t<=pc C r q/\t.length<=q.length
 |[],h,_,_=>h.elim
 |[m],h,hd,hm=>by
  have:n=m:=by simpa using hm
  subst this;exact⟨[n],h,hd,rfl,rfl,Int.le_refl _,Nat.le_refl _⟩
 |m::x::l,h,hd,hm=>by
  by_cases e:m=n
  ·subst e;exact⟨_,h,hd,rfl,rfl,Int.le_refl _,Nat.le_refl _⟩
  ·have Y:n∈x::l:=by
    rcases aO.1 hm with Z|Z
    ·exact absurd Z.symm e
    ·exact Z
   obtain⟨t,t1,t2,X,V,t5,U⟩:=KZ hC n (x::l) h.1 (bq.1 hd).2 Y;refine⟨t,t1,t2,X,V,?_,by simp at U⊢;omega⟩;have:=h.2.1;simp only[pc];omega
theorem A7(hC:∀x y,0<=C x y):∀p:List Nat,Hu C r p->∃q,Hu C r q/\q.Nodup/\q.head? =p.head? /\xS q=xS p/\pc C r q<=pc C r p
 |[],h=>h.elim
 |[n],h=>⟨[n],h,gZ,rfl,rfl,Int.le_refl _⟩
 |n::m::l,h=>by
  obtain⟨q,q1,q2,V,Y,q5⟩:=A7 hC (m::l) h.1;have X:=h.2.1;by_cases Z:n∈q
  ·obtain⟨t,t1,t2,U,T,t5,_⟩:=KZ hC n q q1 q2 Z;refine⟨t,t1,t2,U,by rw[T,Y];rfl,?_⟩;simp only[pc];omega
  ·cases q with
   |nil=>exact q1.elim
   |cons x t=>
    have:x=m:=by simpa using V
    subst this;refine⟨n::x::t,⟨q1,X,h.2.2.1,h.2.2.2⟩,bq.2 ⟨Z,q2⟩,rfl,?_,?_⟩
    ·exact Y
    ·simp only[pc];omega
theorem K0:∀ {p:List Nat},Hu C r p->∀x∈p,x<7/\x≠r
 |[],h,_,_=>h.elim
 |[n],h,x,hx=>by
  have:x=n:=by simpa using hx
  subst this;exact⟨h.2.2,h.2.1⟩
 |n::m::l,h,x,hx=>by
  rcases aO.1 hx with e|e
  ·subst e;exact⟨h.2.2.2,h.2.2.1⟩
  ·exact K0 h.1 x e
theorem Jl:∀(l m:List Nat),l.Nodup->(∀x∈l,x∈m)->l.length<=m.length
 |[],_,_,_=>Nat.zero_le _
 |x::l,m,hp,hs=>by
  obtain⟨Z,Y⟩:=bq.1 hp;have hx:=hs x gZ;have:=Jl l (m.erase x) Y (λy hy=>(db (λe=>Z (by rw[<-e];exact hy))).2 (hs y (cM _ hy)));rw[cV hx]at this;have hm:0<m.length:=dN hx;simp only[List.length_cons];omega
theorem Eo(hC:∀x y,0<=C x y)(hd:C r r=0)(p:List Nat)(Y:Hu C r p):Du C r (jl C r 6) p:=by
 obtain⟨q,q1,q2,X,V,q5⟩:=A7 hC p Y;have hl:=Jl q (List.range 7) q2 (λx hx=>aP.2 (K0 q1 x hx).1);rw[dy]at hl;intro n Z;have:=yE hC hd 6 q q1 hl n (by rw[X];exact Z);refine⟨this.1,xy.trans this.2 ?_⟩;simp only[xy,V];omega
theorem K3(hC:∀x y,0<=C x y)(hd:C r r=0)(n:Nat)(U:0<(jl C r 6 n).far):(jl C r 6 n).dst=n/\∃q,Hu C r q/\q.Nodup/\q.head? =μ n/\pc C r q=(jl C r 6 n).far/\((xS q:Nat):Int)=(jl C r 6 n).rM:=by
 obtain⟨V,p,T,Z,p3,S⟩:=(ql hC hd 6).way n U;obtain⟨q,q1,q2,Y,M,q5⟩:=A7 hC p T;have X:=Eo hC hd q q1 n (by rw[Y];exact Z);have:pc C r q=(jl C r 6 n).far:=by
  have:=X.2;simp only[xy,HP.v]at this;omega
 exact⟨V,q,q1,q2,by rw[Y];exact Z,this,by rw[M];exact S⟩
