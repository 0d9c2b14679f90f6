import Derived.Test.YtieklnlbljejdaaGreatDoorM03
open Go.Value renaming int → ι, slice → σ, pointer → π, tuple → τ
open Go.IntKind renaming i64 → κ
open Go.Ending renaming returned → ρ
open Go.Obj renaming cells → γ
open Option renaming none → ν, some → μ
open Go renaming World → dY, Calls → eW
open Go.Proofs.Tryz renaming prog → eX
open Go.RowKit renaming intOf → eY
open List renaming length_cons → eZ
open Go.Value renaming ownBlock → eu
set_option maxRecDepth 100000
set_option maxHeartbeats 8000000
open Go.Proofs.Tryz
namespace Go.Proofs.YtieklnlbljejdaaGreatDoor
open Go.RowKit St
variable {C:kV} {oQ r:Nat} {bn:Nat->Bool} {by' far:Int} {p:List Nat}
def jv(C:kV)(r:Nat):Nat->Nat->HP
 |0=>lz C r 7
 |k+1=>CM C r (jv C r k) 7
def qb(C:kV)(r:Nat):List HP:=pR (jv C r 6) 7
theorem BV {C:kV} (r:Nat)(hC:∀x y,0<=C x y/\C x y<=20):∀k,rS (jv C r k) (20+980*k)
 |0=>λn=>by
  simp only[jv,lz];have:=hC r n;split
  ·simp only;omega
  ·simp[HP.zero]
 |k+1=>λn=>by
  have:=(BV r hC k).go (r:=r) hC 7 n;simp only[jv];push_cast at this⊢;omega
theorem BW(hC:∀x y,0<=C x y/\C x y<=20):∀x y,0<=kK C x y/\kK C x y<=20:=by
 intro x y;have:=hC x y;simp only[kK];split<;>omega
theorem UR(a:Option Addr)(n cap:Nat)(S:Nat->SV)(E:Nat->List jE)(r:Nat)(w:dY)(h:vP w a n S E)(hn:n<=1000)(iN:∀j,j<n->oy (S j).own (S j).seq (E j)=0)(k8:1<=r)(hr6:r<=6):
 eW eX 116 #[σ a n cap,ι κ (r:Int)] w λe w'=>∃b c,e=ρ (σ b (qb (kK (jV S E n)) r).length c)/\ZZ w w' b (qb (kK (jV S E n)) r).length (qb (kK (jV S E n)) r)/\eE w w':=by
 have htl:=Qw a n cap S E w h hn iN;have hz:=AJ;have mO:=Ky;have G4:=BW (vW S E n iN);have A:Hid _:=G4;have r1:¬(r:Int)<1:=eh;have r2:¬6<(r:Int):=eh;obtain⟨Z,hZ⟩:=gg (gC (λ_ _=>0));obtain⟨Q,W9⟩:=gg (hC (λ_=>HP.zero));have zs:Z.size=49:=by rw[<-hZ];exact pX _
 have zs2:Q.size=21:=by rw[<-W9];exact tu _
 rw[hZ]at hz;rw[W9]at mO;clear hZ W9 G4 iN
 go_in
 go_wp2_with(fail);refine htl.mono ?_;rintro e w1 ⟨rfl,k1⟩;have Aw:=Ud (jV S E n) w1;obtain⟨C,y⟩:=gg (kK (jV S E n));rw[y]at Aw A;have HCe:Hid _:=y;clear htl y;go_wp2_with(fail);refine Aw.mono ?_;rintro e T ⟨rfl,k2⟩;have mR:=gk k1 k2;clear Aw k1 k2;have gs:(gC C).size=49:=pX _;have g1:(gC C).all (·.oneCell')=true:=MX _;have vh:(eX.info? 256).map (·.size)=μ (gC C).size:=by rw[gs];exact xd
 have rQ:Z.size=(gC C).size:=by rw[gs,zs]
 have D:iX (T.alloc (γ Z 256)) T.heap.size Z 256:=iX.new _ _ _;have CL:iX ((T.alloc (γ Z 256)).setRow T.heap.size (gC C)) T.heap.size (gC C) 256:=D.setRow;have Hb3:Hid (eE w ((T.alloc (γ Z 256)).setRow T.heap.size (gC C))):=oK (mR.alloc mR.size _) mR.size _;have O0:=QA C r eh ((T.alloc (γ Z 256)).setRow T.heap.size (gC C));have Ao:Hid _:=CL;have Hs2:Hid _:=mR.size;clear mR;go_wp2_with(first
  |refine lg _ rfl (.tmp 5) 256 rfl T.heap.size (gC C) _ _ rfl CL underlying256 vh ?_
  |refine mB _ rfl (.tmp 5) (.tmp 15) 256 rfl T.heap.size Z (gC C) rfl rfl D rQ vh g1 ?_)
 refine O0.mono ?_;rintro e V ⟨rfl,k3⟩;have ym:=iX.below Ao.out k3;have r9:=gk Hb3.out k3;obtain⟨X,Mq⟩:=gg (T.heap.size);have HsX:Hid (w.heap.size<=X):=by show _<=_;rw[<-Mq];exact Hs2.out
 rw[Mq]at ym;rw[Mq];have u:Hid (X<V.heap.size):=ym.lt;clear O0 D CL Ao Hb3 k3 Hs2 Mq vh rQ;obtain⟨F,hF⟩:=gg (hC (lz C r 7));have fs:F.size=21:=by rw[<-hF];exact tu _
 have f1:F.all (·.oneCell')=true:=by rw[<-hF];exact T8 _
 have QQ:(eX.info? 259).map (·.size)=μ F.size:=by rw[fs];exact IZ
 have afk:Q.size=F.size:=by rw[fs,zs2]
 rw[hF];have D:iX (V.alloc (γ Q 259)) V.heap.size Q 259:=iX.new _ _ _;have hY4:iX ((V.alloc (γ Q 259)).setRow V.heap.size F) V.heap.size F 259:=D.setRow;have hX4:iX ((V.alloc (γ Q 259)).setRow V.heap.size F) X (gC C) 256:=(ym.below (gW _ _)).T6 (by have:=u.out;omega);have H:Hid (eE w ((V.alloc (γ Q 259)).setRow V.heap.size F)):=oK (r9.alloc r9.size _) r9.size _;have G:Hid (iX ((V.alloc (γ Q 259)).setRow V.heap.size F) V.heap.size (hC (jv C r 0)) 259):=by show iX _ _ (hC (lz C r 7)) _;rw[hF];exact hY4
 have M:Hid _:=hX4;have HS3:Hid _:=r9.size;clear r9 hF ym;go_wp2_with(first
  |refine mB _ rfl (.tmp 6) (.tmp 18) 259 rfl V.heap.size Q F rfl rfl D afk QQ f1 ?_)
 obtain⟨Y,Qy⟩:=gg (V.heap.size);rw[Qy]at G M H u HS3;rw[Qy];clear Qy D hY4 hX4 QQ afk fs f1;obtain⟨W4,uO⟩:=gg ((V.alloc (γ Q 259)).setRow Y F);rw[uO]at G M H;rw[uO];clear uO;have HRF:=BV r A.out;have ajY:Hid _:=HRF;clear HRF
 go_loopw [19] (λv wr=>∃k:Nat,k<=6/\v=ι κ k/\iX wr X (gC C) 256/\iX wr Y (hC (jv C r k)) 259/\eE w wr) (λv _=>6-(eY v).toNat)
 case atStart=>exact⟨0,eh,rfl,M.out,G.out,H.out⟩
 case round=>
  clear M G H;obtain⟨k,hk,rfl,hX,hY,iK⟩:=hrel;by_cases hk6:k<6
  ·have ajZ:(k:Int)<6:=eh;have vh:(eX.info? 256).map (·.size)=μ (gC C).size:=by rw[gs];exact xd
   have hgo:=Uh C r eh (jv C r k) Y (20+980*k) wr hY A.out (ajY.out k) eh;have HX:Hid _:=hX;have J:Hid _:=iK;clear hY iK;go_wp2_with(first
    |refine lg _ rfl (.tmp 5) 256 rfl X (gC C) _ _ rfl hX underlying256 vh ?_)
   refine hgo.mono ?_;rintro e w5 ⟨rfl,hY5,U⟩;have hXl:=iX.lt HX.out;have HX5:Hid (iX w5 X (gC C) 256):=iX.keep HX.out (U.block X hXl (λe=>by have:=u.out;simp at e;omega));have HY5:Hid _:=hY5;have G7:Hid (eE w w5):=⟨U.os.trans J.out.os,U.tape.trans J.out.tape,U.output.trans J.out.output,Nat.le_trans J.out.size U.size,λi hi=>(U.block i (Nat.lt_of_lt_of_le hi J.out.size) (λe=>by have:=HS3.out;simp at e;omega)).trans (J.out.block i hi)⟩
   clear hgo hY5 U hX vh
   go_wp2
   go_roundw
   case rel=>exact⟨k+1,eh,by go_num,HX5.out,HY5.out,G7.out⟩
   case measure=>simp[eY];omega
  ·have ajZ:¬(k:Int)<6:=eh;have hke:k=6:=eh;have hli:=Uj (jv C r k) Y wr hY;have HL:Hid (pR (jv C r k) 7=qb (kK (jV S E n)) r):=by show _=_;rw[HCe.out,hke];rfl
   rw[HL.out]at hli;clear hX hY hke HL;go_wp2_with(fail);refine hli.mono ?_;rintro e w5 ⟨ra,rc,rfl,hR,k5⟩;have HR:Hid (ZZ w w5 ra (qb (kK (jV S E n)) r).length (qb (kK (jV S E n)) r)):=⟨hR.r,λx e=>Nat.le_trans iK.size (hR.nw x e)⟩
   have J:Hid _:=gk iK k5;clear hli hR k5 iK
   go_wp2
   go_ret
   first|exact⟨_,_,rfl,HR.out,J.out⟩|exact⟨_,⟨_,rfl⟩,HR.out,J.out⟩
section
variable (C:kV) (r:Nat)
def pc:List Nat->Int
 |[] =>0
 |[n] =>C r n
 |n::m::l=>pc (m::l)+C m n
def Hj:List Nat->Prop
 |[] =>False
 |[n] =>0<C r n/\n≠r/\n<7
 |n::m::l=>Hj (m::l)/\0<C m n/\n≠r/\n<7
end
def xK:List Nat->Nat
 |[] =>0
 |[n] =>n
 |_::m::l=>xK (m::l)
def xh(a:Int×Int)(b:Int×Int):Prop:=a.1<b.1 \/(a.1=b.1/\a.2<=b.2)
theorem xh.trans {a b c:Int×Int} (h:xh a b)(k:xh b c):xh a c:=by unfold xh at*;omega
theorem xh.rfl'(a:Int×Int):xh a a:=.inr ⟨rfl,Int.le_refl _⟩
def HP.v(h:HP):Int×Int:=(h.far,h.rG)
def zA(G' G:Nat->HP):Prop:=∀x,0<(G x).far->0<(G' x).far/\xh (G' x).v (G x).v
theorem zA.refl(G:Nat->HP):zA G G:=λ_ h=>⟨h,xh.rfl' _⟩
theorem zA.trans {A B D:Nat->HP} (h:zA A B)(k:zA B D):zA A D:=λx hx=>⟨(h x (k x hx).1).1,(h x (k x hx).1).2.trans (k x hx).2⟩
theorem zB(a b:HP):uh a b=true↔b.far=0 \/a.far<b.far \/(a.far=b.far/\a.rG<b.rG):=by
 unfold uh;simp[or_assoc]
section
variable {C:kV} {r:Nat}
structure Sound(C:kV)(r:Nat)(G:Nat->HP):Prop where
 nn:∀n,0<=(G n).far
 way:∀n,0<(G n).far->(G n).dst=n/\∃p,Hj C r p/\p.head? =μ n/\pc C r p=(G n).far/\((xK p:Nat):Int)=(G n).rG
theorem I7(hC:∀x y,0<=C x y):∀p,Hj C r p->0<pc C r p
 |[],h=>h.elim
 |[n],h=>h.1
 |n::m::l,h=>by
  have:=I7 hC (m::l) h.1;have h2:=h.2.1;simp only[pc];omega
theorem QR(b n:Nat)(G:Nat->HP)(Z:∀x,0<=(G x).far)(hC:∀x y,0<=C x y):zA (oZ C r b n G) G:=by
 intro x hx;unfold oZ;split
 ·exact⟨hx,xh.rfl' _⟩
 ·rename_i hc
  split
  ·rename_i hb
   rw[zB]at hb;simp only[rh];by_cases e:x=n
   ·subst e;rw[ai rfl];have h1:=Z b;have h2:=hC b x;refine⟨by simp only;omega,?_⟩;simp only[HP.v,xh]at hb⊢;omega
   ·rw[af e];exact⟨hx,xh.rfl' _⟩
  ·exact⟨hx,xh.rfl' _⟩
theorem Nv(b n:Nat)(G:Nat->HP)(Z:∀x,0<=(G x).far)(h1:0<(G b).far)(h2:0<C b n)(h3:n≠r):0<(oZ C r b n G n).far/\xh (oZ C r b n G n).v ((G b).far+C b n,(G b).rG):=by
 unfold oZ;rw[af eh];by_cases hb:uh ⟨n,(G b).far+C b n,(G b).rG⟩ (G n)=true
 ·rw[ai hb];simp only[rh,if_true];exact⟨eh,xh.rfl' _⟩
 ·rw[af hb];rw[zB]at hb;have:=Z n;simp only at hb;refine⟨eh,?_⟩;simp only[HP.v,xh];omega
theorem Nw(b n:Nat)(V:n<7)(G:Nat->HP)(Z:Sound C r G)(hC:∀x y,0<=C x y):Sound C r (oZ C r b n G):=by
 unfold oZ;split
 ·exact Z
 ·rename_i hc
  split
  ·have h1:=Z.nn b;have h2:=hC b n;refine⟨λx=> ?_,λx hx=> ?_⟩
   ·simp only[rh];split
    ·simp only;omega
    ·exact Z.nn x
   ·simp only[rh]at hx⊢;by_cases e:x=n
    ·subst e;simp only[if_true]at hx⊢;obtain⟨_,p,Y,X,p3,U⟩:=Z.way b eh;refine⟨trivial,x::p,?_,rfl,?_,?_⟩
     ·cases p with
      |nil=>exact Y.elim
      |cons m l=>
       have:m=b:=by simpa using X
       subst this;exact⟨Y,eh,eh,V⟩
     ·cases p with
      |nil=>exact Y.elim
      |cons m l=>
       have:m=b:=by simpa using X
       subst this;simp only[pc,p3]
     ·cases p with
      |nil=>exact Y.elim
      |cons m l=>exact U
    ·rw[af e]at hx⊢;exact Z.way x hx
  ·exact Z
theorem xj(b:Nat)(G:Nat->HP)(Z:Sound C r G)(hC:∀x y,0<=C x y):∀n,n<=7->Sound C r (pC C r b G n)
 |0,_=>Z
 |n+1,h=>Nw b n eh _ (xj b G Z hC n eh) hC
theorem go_sound(G:Nat->HP)(Z:Sound C r G)(hC:∀x y,0<=C x y):∀b,Sound C r (CM C r G b)
 |0=>Z
 |b+1=>xj b _ (go_sound G Z hC b) hC 7 (Nat.le_refl _)
theorem zC(b:Nat)(G:Nat->HP)(Z:Sound C r G)(hC:∀x y,0<=C x y)(i:Nat):∀d,i+d<=7->zA (pC C r b G (i+d)) (pC C r b G i)
 |0,_=>zA.refl _
 |d+1,h=>(QR b (i+d) _ (xj b G Z hC (i+d) eh).nn hC).trans (zC b G Z hC i d eh)
theorem QS(b:Nat)(G:Nat->HP)(Z:Sound C r G)(hC:∀x y,0<=C x y)(m:Nat)(hm:m<7)(V:0<(G b).far)(U:0<C b m)(X:m≠r):0<(pC C r b G 7 m).far/\xh (pC C r b G 7 m).v ((G b).far+C b m,(G b).rG):=by
 have k0:=zC b G Z hC 0 m eh;rw[Nat.zero_add]at k0;have k1:=k0 b V;have k2:=Nv (r:=r) b m (pC C r b G m) (xj b G Z hC m eh).nn k1.1 U X;have k3:=zC b G Z hC (m+1) (7-(m+1)) eh;rw[show m+1+(7-(m+1))=7 by omega]at k3;have Y:=k3 m k2.1;refine⟨Y.1,Y.2.trans (xh.trans k2.2 ?_)⟩;have:=k1.2;simp only[xh,HP.v,pC]at this⊢;omega
theorem Dh(G:Nat->HP)(Z:Sound C r G)(hC:∀x y,0<=C x y)(i:Nat):∀d,zA (CM C r G (i+d)) (CM C r G i)
 |0=>zA.refl _
 |d+1=>by
  have h:=zC (i+d) _ (go_sound G Z hC (i+d)) hC 0 7 eh;exact zA.trans h (Dh G Z hC i d)
theorem US(G:Nat->HP)(Z:Sound C r G)(hC:∀x y,0<=C x y)(b m:Nat)(hb:b<7)(T:m<7)(V:0<(G b).far)(U:0<C b m)(X:m≠r):0<(CM C r G 7 m).far/\xh (CM C r G 7 m).v ((G b).far+C b m,(G b).rG):=by
 have k0:=Dh G Z hC 0 b;rw[Nat.zero_add]at k0;have k1:=k0 b V;have k2:=QS b _ (go_sound G Z hC b) hC m T k1.1 U X;have k3:=Dh G Z hC (b+1) (7-(b+1));rw[show b+1+(7-(b+1))=7 by omega]at k3;have Y:=k3 m k2.1;refine⟨Y.1,Y.2.trans (xh.trans k2.2 ?_)⟩;have:=k1.2;simp only[xh,HP.v,CM]at this⊢;omega
def Di(C:kV)(r:Nat)(G:Nat->HP)(p:List Nat):Prop:=∀n,p.head? =μ n->0<(G n).far/\xh (G n).v (pc C r p,((xK p:Nat):Int))
theorem KU(hC:∀x y,0<=C x y)(hd:C r r=0):Sound C r (lz C r 7):=by
 refine⟨λn=> ?_,λn Z=> ?_⟩
 ·simp only[lz];have:=hC r n;split
  ·simp only;omega
  ·simp[HP.zero]
 ·simp only[lz]at Z⊢;by_cases h:n<7/\0<C r n
  ·rw[ai h]at Z⊢;refine⟨rfl,[n],⟨h.2,?_,h.1⟩,rfl,rfl,rfl⟩;rintro rfl;omega
  ·rw[af h]at Z;simp[HP.zero]at Z
theorem qe(hC:∀x y,0<=C x y)(hd:C r r=0):∀k,Sound C r (jv C r k)
 |0=>KU hC hd
 |k+1=>go_sound _ (qe hC hd k) hC 7
theorem Yf:∀ {p:List Nat} {n:Nat},Hj C r p->p.head? =μ n->n<7/\n≠r
 |[],n,h,_=>h.elim
 |[m],n,h,e=>by
  have:m=n:=by simpa using e
  subst this;exact⟨h.2.2,h.2.1⟩
 |m::x::l,n,h,e=>by
  have:m=n:=by simpa using e
  subst this;exact⟨h.2.2.2,h.2.2.1⟩
theorem yz(hC:∀x y,0<=C x y)(hd:C r r=0):∀k p,Hj C r p->p.length<=k+1->Di C r (jv C r k) p
 |0,[],h,_=>h.elim
 |0,[n],h,_=>by
  intro x hx;have:n=x:=by simpa using hx
  subst this;simp only[jv,lz,if_pos (show n<7/\0<C r n from⟨h.2.2,h.1⟩)];exact⟨h.1,xh.rfl' _⟩
 |0,n::m::l,h,hl=>by simp at hl
 |k+1,p,h,hl=>by
  by_cases hs:p.length<=k+1
  ·intro n V;have Z:=yz hC hd k p h hs n V;have Y:=Dh (jv C r k) (qe hC hd k) hC 0 7 n Z.1;exact⟨Y.1,Y.2.trans Z.2⟩
  ·match p,h,hl,hs with
   |[],h,_,_=>exact h.elim
   |[n],h,_,hs=>simp at hs
   |n::m::l,h,hl,hs=>
    intro x hx;have:n=x:=by simpa using hx
    subst this;have Z:=yz hC hd k (m::l) h.1 (by simp at hl⊢;omega) m rfl;have X:=(Yf h.1 (show(m::l).head? =μ m from rfl)).1;have Y:=US (jv C r k) (qe hC hd k) hC m n X h.2.2.2 Z.1 h.2.1 h.2.2.1;refine⟨Y.1,xh.trans Y.2 ?_⟩;have:=Z.2;simp only[xh,HP.v,pc,xK]at this⊢;omega
theorem KW(hC:∀x y,0<=C x y)(n:Nat):∀q:List Nat,Hj C r q->q.Nodup->n∈q->∃t,Hj C r t/\t.Nodup/\t.head? =μ n/\xK t=xK q/\pc C r t<=pc C r q/\t.length<=q.length
 |[],h,_,_=>h.elim
 |[m],h,hd,hm=>by
  have:n=m:=by simpa using hm
  subst this;exact⟨[n],h,hd,rfl,rfl,Int.le_refl _,Nat.le_refl _⟩
 |m::x::l,h,hd,hm=>by
  by_cases e:m=n
  ·subst e;exact⟨_,h,hd,rfl,rfl,Int.le_refl _,Nat.le_refl _⟩
  ·have Y:n∈x::l:=by
    rcases aP.1 hm with Z|Z
    ·exact absurd Z.symm e
    ·exact Z
   obtain⟨t,t1,t2,U,V,t5,X⟩:=KW hC n (x::l) h.1 (br.1 hd).2 Y;refine⟨t,t1,t2,U,V,?_,by simp at X⊢;omega⟩;have:=h.2.1;simp only[pc];omega
theorem AY(hC:∀x y,0<=C x y):∀p:List Nat,Hj C r p->∃q,Hj C r q/\q.Nodup/\q.head? =p.head? /\xK q=xK p/\pc C r q<=pc C r p
 |[],h=>h.elim
 |[n],h=>⟨[n],h,gY,rfl,rfl,Int.le_refl _⟩
 |n::m::l,h=>by
  obtain⟨q,q1,q2,X,Z,q5⟩:=AY hC (m::l) h.1;have V:=h.2.1;by_cases Y:n∈q
  ·obtain⟨t,t1,t2,T,U,t5,_⟩:=KW hC n q q1 q2 Y;refine⟨t,t1,t2,T,by rw[U,Z];rfl,?_⟩;simp only[pc];omega
  ·cases q with
   |nil=>exact q1.elim
   |cons x t=>
    have:x=m:=by simpa using X
    subst this;refine⟨n::x::t,⟨q1,V,h.2.2.1,h.2.2.2⟩,br.2 ⟨Y,q2⟩,rfl,?_,?_⟩
    ·exact Z
    ·simp only[pc];omega
theorem KX:∀ {p:List Nat},Hj C r p->∀x∈p,x<7/\x≠r
 |[],h,_,_=>h.elim
 |[n],h,x,hx=>by
  have:x=n:=by simpa using hx
  subst this;exact⟨h.2.2,h.2.1⟩
 |n::m::l,h,x,hx=>by
  rcases aP.1 hx with e|e
  ·subst e;exact⟨h.2.2.2,h.2.2.1⟩
  ·exact KX h.1 x e
theorem I8:∀(l m:List Nat),l.Nodup->(∀x∈l,x∈m)->l.length<=m.length
 |[],_,_,_=>Nat.zero_le _
 |x::l,m,hp,hs=>by
  obtain⟨Z,Y⟩:=br.1 hp;have hx:=hs x gY;have:=I8 l (m.erase x) Y (λy hy=>(de (λe=>Z (by rw[<-e];exact hy))).2 (hs y (cQ _ hy)));rw[cX hx]at this;have hm:0<m.length:=dN hx;simp only[eZ];omega
theorem Ej(hC:∀x y,0<=C x y)(hd:C r r=0)(p:List Nat)(V:Hj C r p):Di C r (jv C r 6) p:=by
 obtain⟨q,q1,q2,Z,Y,q5⟩:=AY hC p V;have hl:=I8 q (List.range 7) q2 (λx hx=>aQ.2 (KX q1 x hx).1);rw[dA]at hl;intro n X;have:=yz hC hd 6 q q1 hl n (by rw[Z];exact X);refine⟨this.1,xh.trans this.2 ?_⟩;simp only[xh,Y];omega
theorem KY(hC:∀x y,0<=C x y)(hd:C r r=0)(n:Nat)(U:0<(jv C r 6 n).far):(jv C r 6 n).dst=n/\∃q,Hj C r q/\q.Nodup/\q.head? =μ n/\pc C r q=(jv C r 6 n).far/\((xK q:Nat):Int)=(jv C r 6 n).rG:=by
 obtain⟨X,p,T,Y,p3,Q⟩:=(qe hC hd 6).way n U;obtain⟨q,q1,q2,Z,V,q5⟩:=AY hC p T;have S:=Ej hC hd q q1 n (by rw[Z];exact Y);have:pc C r q=(jv C r 6 n).far:=by
  have:=S.2;simp only[xh,HP.v]at this;omega
 exact⟨X,q,q1,q2,by rw[Z];exact Y,this,by rw[V];exact Q⟩
end
section
variable {C:kV}
def CR(C:kV)(r n:Nat):Int:=(jv C r 6 n).far
theorem Nx(hC:∀x y,0<=C x y)(hd:C r r=0)(n:Nat):0<=CR C r n:=(qe hC hd 6).nn n
theorem KZ {r:Nat}:∀q:List Nat,Hj C r q->0<C r (xK q)/\xK q≠r/\xK q<7
 |[],h=>h.elim
 |[_],h=>h
 |_::m::l,h=>KZ (m::l) h.1
def wc(C:kV):List Nat->Int
 |[] =>0
 |[_] =>0
 |n::m::l=>wc C (m::l)+C m n
end
theorem zD(a b:Option Addr)(n ca M:Nat)(L:List HP)(w:dY)(V:OZ w a n L)(Q:OZ w b n L)(hn:n<=1000):
 eW eX 46 #[σ a n ca,σ b n M] w λe w'=>e=ρ (.bool true)/\eE w w':=by
 have hl:=V.len
 go_in
 go_wp2
 go_loopw [5] (λi wr=>∃k:Nat,k<=n/\i=ι κ k/\eE w wr) (λi _=>n-(eY i).toNat)
 case atStart=>exact⟨0,Nat.zero_le _,rfl,av _ _⟩
 case round=>
  obtain⟨k,hk,rfl,Z⟩:=hrel;by_cases kB:k<n
  ·have nQ:(k:Int)<(n:Int):=eh;have r1:=(V.below Z).row;have J:=(Q.below Z).row;rcases r1 with S|⟨b1,o1,rfl,Y⟩
   ·omega
   rcases J with S|⟨b2,o2,rfl,U⟩
   ·omega
   have X:L[k]? =μ (L[k]'(by omega)):=az eh;obtain⟨c0,c1,c2⟩:=Y k _ X;obtain⟨d0,d1,d2⟩:=U k _ X;generalize L[k]'(by omega)=p at c0 c1 c2 d0 d1 d2 X;obtain⟨pd,pf,px⟩:=p;simp only at c0 c1 c2 d0 d1 d2;clear Y U X;have T:Hid _:=Z;clear Z
   go_wp2
   go_quiet(fail)
   go_wp2
   go_roundw
   case rel=>exact⟨k+1,eh,by go_num,below_drewN T.out _⟩
   case measure=>simp[eY];omega
  ·have xP:¬(k:Int)<(n:Int):=eh
   go_wp2
   go_ret;exact⟨rfl,Z⟩
theorem Hk(S:Nat->SV)(E:Nat->List jE):∀n,(∀j,j<n->oy (S j).own (S j).seq (E j)=0)->∀x,jV S E n x x=0
 |0,_,x=>rfl
 |n+1,h,x=>by
  have ih:=Hk S E n (λj hj=>h j eh) x;have X:=h n eh;have ho:=(jt X).1;have Z:=(jt X).2.2.2;simp only[jV,ni];generalize E n=es at Z;generalize jV S E n=C at ih;have Y:∃V:Int,qt (S n).own V es=0:=⟨0,Z⟩
  clear Z
  induction es generalizing C with
  |nil=>exact ih
  |cons e es ihs=>
   rw[bH];obtain⟨V,Z⟩:=Y;simp only[qt]at Z;split at Z
   ·cases Z
   ·rename_i h1
    split at Z
    ·cases Z
    ·rename_i h2
     refine ihs _ ?_ ⟨_,Z⟩;simp only[tM];rw[af eh];exact ih
theorem Ph(S:Nat->SV)(E:Nat->List jE):∀n,(∀j,j<n->oy (S j).own (S j).seq (E j)=0)->∀x y,0<jV S E n x y->(1<=x/\x<=6)/\1<=y/\y<=6
 |0,_,x,y,h=>by simp[jV]at h
 |n+1,h,x,y,hp=>by
  have ih:=Ph S E n (λj hj=>h j eh);have X:=h n eh;have ho:=(jt X).1;have Y:=pU _ (E n) 0 (jt X).2.2.2;simp only[jV,ni]at hp;generalize E n=es at Y hp;generalize jV S E n=C at ih hp
  induction es generalizing C with
  |nil=>exact ih x y hp
  |cons e es ihs=>
   rw[bH]at hp;refine ihs (λq V=>Y q (by simp[V])) _ (λu v Z=> ?_) hp;have h1:=Y e gY;simp only[tM]at Z;split at Z
   ·rename_i h2
    omega
   ·exact ih u v Z
theorem QT(S:Nat->SV)(E:Nat->List jE)(n:Nat)(h:∀j,j<n->oy (S j).own (S j).seq (E j)=0)(x:Nat):kK (jV S E n) x x=0:=by
 simp only[kK,Hk S E n h x];rfl
theorem Yg(S:Nat->SV)(E:Nat->List jE)(n:Nat)(h:∀j,j<n->oy (S j).own (S j).seq (E j)=0)(x y:Nat)(Z:0<kK (jV S E n) x y):(1<=x/\x<=6)/\1<=y/\y<=6:=by
 simp only[kK]at Z;split at Z
 ·exact Ph S E n h x y Z
 ·omega
def bC(b:Nat->Bool):Array Value:=(Array.range 7).map λi=>.bool (b i)
theorem I9(b:Nat->Bool):(bC b).size=7:=by simp[bC]
theorem Ja(b:Nat->Bool)(i:Nat)(h:i<7):(bC b)[i]? =μ (.bool (b i)):=by simp[bC,h]
def qg(b:Nat->Bool)(n:Nat):Nat->Bool:=λx=>if x=n then true else b x
theorem abP(b:Nat->Bool)(n:Nat):(bC b).setIfInBounds n (.bool true)=bC (qg b n):=by
 apply bS;intro i;rw[bq];by_cases hi:i<7
 ·rw[Ja _ i hi,Ja _ i hi];by_cases e:n=i
  ·subst e;simp[qg,bC,hi]
  ·have Z:¬i=n:=λh=>e h.symm;simp[qg,e,Z]
 ·have hs:∀D:Nat->Bool,(bC D)[i]? =ν:=λD=>bg (by simp[bC];omega);rw[hs,hs];split
  ·simp[bC];omega
  ·rfl
theorem aaj:(eX.info? 205).map (λi=>(i.zero,i.size))=μ (μ (.agg (bC λ_=>false)),7):=gq
theorem afl(w:dY):(zeroValue 205).run eX w=.ok (.agg (bC λ_=>false)) w:=(bV aaj).1 w
theorem UU:(eX.info? 205).map (·.size)=μ 7:=(bV aaj).2
theorem Yh:(eX.info? 204).map (λi=>(i.zero,i.size))=μ (μ (.agg (hC λ_=>HP.zero)),21):=gq
theorem Yi(w:dY):(zeroValue 204).run eX w=.ok (.agg (hC λ_=>HP.zero)) w:=(bV Yh).1 w
section
variable {C:kV} {r:Nat}
def abQ(G:Nat->HP):Prop:=∀n,(G n).far=0->G n=HP.zero
structure RS(C:kV)(r:Nat)(G:Nat->HP):Prop where
 s:Sound C r G
 z:abQ G
theorem abR {G:Nat->HP} (h:RS C r G)(n:Nat)(p:List Nat)(Z:Hj C r p)(hh:p.head? =μ n)(hC:∀x y,0<=C x y):RS C r (rh G n ⟨n,pc C r p,(xK p:Nat)⟩):=by
 have qq:=I7 hC p Z;refine⟨⟨λx=> ?_,λx hx=> ?_⟩,λx hx=> ?_⟩
 ·simp only[rh];split
  ·simp only;omega
  ·exact h.s.nn x
 ·simp only[rh]at hx⊢;by_cases e:x=n
  ·subst e;simp only[if_true];exact⟨trivial,p,Z,hh,rfl,rfl⟩
  ·rw[af e]at hx⊢;exact h.s.way x hx
 ·simp only[rh]at hx⊢;by_cases e:x=n
  ·subst e;simp only[if_true]at hx;omega
  ·rw[af e]at hx⊢;exact h.z x hx
theorem UW {G:Nat->HP} (n:Nat)(q:HP)(Z:0<q.far)(hb:uh q (G n)=true):zA (rh G n q) G:=by
 intro x hx;rw[zB]at hb;simp only[rh];by_cases e:x=n
 ·subst e;rw[ai rfl];refine⟨Z,?_⟩;simp only[xh,HP.v];omega
 ·rw[af e];exact⟨hx,xh.rfl' _⟩
theorem Di.mono {G G':Nat->HP} (h:Di C r G p)(X:zA G' G):Di C r G' p:=by
 intro n V;have Z:=h n V;have Y:=X n Z.1;exact⟨Y.1,Y.2.trans Z.2⟩
def Ext(C:kV)(r:Nat)(p:List Nat)(x:Nat)(q:List Nat):Prop:=Hj C r q/\q.Nodup/\∃e,q=e++x::p
theorem QU(hC:∀x y,0<=C x y)(hd:C r r=0)(G:Nat->HP)(Q:RS C r G)(S:∀q,Hj C r q->q.Nodup->Di C r G q)(n:Nat):(G n).far=CR C r n/\(0<CR C r n->G n=jv C r 6 n):=by
 have h0:=Nx hC hd n;have g0:=Q.s.nn n;by_cases h:0<CR C r n
 ·obtain⟨k1,q,q1,q2,H,q4,q5⟩:=KY hC hd n h;have d1:=S q q1 q2 n H;obtain⟨s1,p,U,T,p3,J⟩:=Q.s.way n d1.1;have d2:=Ej hC hd p U n T;have A:=d1.2;have E:=d2.2;have M:CR C r n=(jv C r 6 n).far:=rfl;simp only[xh,HP.v]at A E;have Z:(G n).far=(jv C r 6 n).far:=eh;have V:(G n).rG=(jv C r 6 n).rG:=eh;refine⟨by rw[M];exact Z,λ_=> ?_⟩;generalize jv C r 6 n=X at k1 Z V;generalize G n=Y at s1 Z V;obtain⟨x1,x2,x3⟩:=X;obtain⟨y1,y2,y3⟩:=Y;simp only at k1 s1 Z V;rw[Z,V,k1,s1]
 ·refine⟨?_,λu=>absurd u h⟩;by_cases D:0<(G n).far
  ·obtain⟨s1,p,U,T,p3,J⟩:=Q.s.way n D;exact absurd (Ej hC hd p U n T).1 h
  ·omega
end
structure UX(C:kV)(r:Nat)(p:List Nat)(oQ:Nat)(far by':Int)(bn:Nat->Bool):Prop where
 way:(p=[] /\oQ=r/\far=0/\by'=0) \/(Hj C r p/\p.head? =μ oQ/\pc C r p=far/\((xK p:Nat):Int)=by'/\by'≠0)
 nd:p.Nodup
 been:∀x,qg bn oQ x=true↔(x∈p \/x=r)
theorem UX.next(h:UX C r p oQ far by' bn)(n:Nat)(X:n<7)(V:0<C oQ n)(hb:qg bn oQ n=false):
 Hj C r (n::p)/\(n::p).Nodup/\pc C r (n::p)=far+C oQ n/\((xK (n::p):Nat):Int)=(if by'=0 then(n:Int)else by'):=by
 have Z:¬(n∈p \/n=r):=λe=>by rw[(h.been n).2 e]at hb;cases hb
 rcases h.way with⟨rfl,rfl,rfl,rfl⟩|⟨Y,U,h3,S,T⟩
 ·refine⟨⟨V,λe=>Z (.inr e),X⟩,gY,?_,?_⟩
  ·simp[pc]
  ·simp[xK]
 ·cases p with
  |nil=>exact Y.elim
  |cons m l=>
   have:m=oQ:=by simpa using U
   subst this;refine⟨⟨Y,V,λe=>Z (.inr e),X⟩,br.2 ⟨λe=>Z (.inl e),h.nd⟩,?_,?_⟩
   ·simp only[pc];omega
   ·rw[af T];exact S
theorem UX.step(h:UX C r p oQ far by' bn)(n:Nat)(mM:1<=n)(Y:n<7)(U:0<C oQ n)(hb:qg bn oQ n=false):UX C r (n::p) n (far+C oQ n) (if by'=0 then(n:Int)else by') (qg bn oQ):=by
 obtain⟨Z,T,X,V⟩:=h.next n Y U hb;refine⟨.inr ⟨Z,rfl,X,V,?_⟩,T,λx=> ?_⟩
 ·split
  ·omega
  ·assumption
 ·show(if x=n then true else qg bn oQ x)=true↔_;by_cases e:x=n
  ·subst e;simp
  ·rw[af e,h.been x];simp[e]
theorem UX.none(h:UX C r p oQ far by' bn)(n:Nat)(hx:C oQ n=0 \/qg bn oQ n=true):∀q,¬Ext C r p n q:=by
 rintro q ⟨U,T,e,rfl⟩;have X:∀e:List Nat,Hj C r (e++n::p)->Hj C r (n::p):=by
  intro e
  induction e with
  |nil=>exact λh=>h
  |cons a t ih=>
   intro V;refine ih ?_;cases t with
   |nil=>exact V.1
   |cons b u=>exact V.1
 have Y:=X e U;rcases hx with hx|hx
 ·rcases h.way with⟨rfl,rfl,_,_⟩|⟨k1,k2,_⟩
  ·have:=Y.1;omega
  ·cases p with
   |nil=>exact k1
   |cons m l=>
    have:m=oQ:=by simpa using k2
    subst this;have:=Y.2.1;omega
 ·have Z:=(h.been n).1 hx;have S:=(bF.1 T).2.1;rcases Z with Z|Z
  ·exact(br.1 S).1 Z
  ·exact(KX Y n gY).2 Z
theorem aak {C:kV} {r:Nat} (hC:∀x y,C x y<=20):∀p:List Nat,pc C r p<=20*p.length
 |[] =>by simp[pc]
 |[n] =>by simp only[pc];have:=hC r n;simpa using this
 |n::m::l=>by
  have:=aak (r:=r) hC (m::l);have h2:=hC m n;simp only[pc,eZ]at this⊢;push_cast at this⊢;omega
theorem UX.abS(h:UX C r p oQ far by' bn)(hC:∀x y,0<=C x y/\C x y<=20)(hp:p.length<=7):0<=far/\far<=140:=by
 rcases h.way with⟨_,_,rfl,_⟩|⟨Z,_,rfl,_⟩
 ·exact⟨Int.le_refl _,eA⟩
 ·have h2:=I7 (λx y=>(hC x y).1) p Z;have h3:=aak (r:=r) (λx y=>(hC x y).2) p;omega
theorem QV(a:Option Addr)(n cap:Nat)(r:Nat)(w0:dY)(C:kV)(B:Nat)(xe:w0.heap.size<=B)
 (HED:Hid (∀(u v:Nat) W,eE w0 W->eW eX 159 #[σ a n cap,ι κ (u:Int),ι κ (v:Int)] W λe w'=>e=ρ (ι κ (C u v))/\eE W w'))
 (CN:∀x y,0<=C x y/\C x y<=20) (HI:Hid (∀u v,0<C u v->(1<=u/\u<=6)/\1<=v/\v<=6)):
 ∀(d:Nat) (p:List Nat) (oQ:Nat) (far by':Int) (bn:Nat->Bool) (G:Nat->HP) (w:dY),p.length+d=7->oQ<7->UX C r p oQ far by' bn->RS C r G->iX w B (hC G) 204->eE w0 w->
 eW eX 109 #[σ a n cap,ι κ (oQ:Int),ι κ far,ι κ by',.agg (bC bn),π (μ ⟨B,0,ν⟩)] w λe w'=>e=ρ (τ #[])/\
  (∃Z,iX w' B (hC Z) 204/\RS C r Z/\zA Z G/\∀x q,Ext C r p x q->Di C r Z q)/\w.grownBy w' (μ B):=by
 intro d
 induction d with
 |zero=>
  intro p oQ far by' bn G w hlen hat hP _ _ _
  exfalso;have ll:∀x∈p,x∈(List.range 7).erase r:=by
   intro x hx;rcases hP.way with⟨rfl,_⟩|⟨h1,_⟩
   ·cases hx
   ·have:=KX h1 x hx;exact(de this.2).2 (aQ.2 this.1)
  have h1:=I8 p _ hP.nd ll;rcases hP.way with⟨rfl,_⟩|⟨h2,h3,_⟩
  ·simp at hlen
  ·have hr:r<7 \/ ¬r<7:=eh;rcases hr with hr|hr
   ·rw[cX (aQ.2 hr),dA]at h1;omega
   ·have:=KZ p h2;have:=HI.out _ _ this.1;omega
 |succ d ih=>
  intro p oQ far by' bn G w hlen hat hP hG hB Aw
  have HIH:Hid _:=ih;clear ih;have HPr:Hid _:=hP;have HG:Hid _:=hG;obtain⟨hf0,UY⟩:=hP.abS CN eh;clear hP hG;have ha7:(oQ:Int)<7:=eh;obtain⟨c,hc⟩:=gg (bC bn);rw[hc];have hBl:=hB.lt;obtain⟨N,Xi⟩:=gg (w.heap.size);obtain⟨W1,j6⟩:=gg (w.alloc (γ c 205));have k1:eE w W1:=by rw[<-j6];exact gW _ _
  have hN:iX W1 N (bC bn) 205:=by rw[<-j6,hc];exact iX.F8 _ _ _ _ Xi
  have J:=hB.below k1;have n0:=(hN.cell oQ).trans (Ja bn oQ hat);have n1:=hN.frozen oQ;have lN:=hN.lt;have Yj:Hid (iX (W1.setCell ⟨N,oQ,ν⟩ (.bool true)) N (bC (qg bn oQ)) 205):=by show iX _ _ _ _;rw[<-abP];exact hN.set oQ _
  have HBN:Hid (B<N):=by show _<_;omega
  have Ao:Hid (iX (W1.setCell ⟨N,oQ,ν⟩ (.bool true)) B (hC G) 204):=J.other eh _;have HG2:Hid (w.grownBy (W1.setCell ⟨N,oQ,ν⟩ (.bool true)) (μ B)):=by
   have k2:eE w (W1.setCell ⟨N,oQ,ν⟩ (.bool true)):=bz k1 (by show w.heap.size<=N;omega) _;exact⟨k2.os,k2.tape,k2.output,k2.size,λi hi _=>k2.block i hi⟩
  have JY:Hid _:=j6;have HNe:Hid _:=Xi;have HBW:Hid _:=Aw;clear hc Xi j6 k1 hN J hB hBl Aw
  go_in
  go_upto_region 1 with fail
  rw[JY.out,HNe.out];go_wp2_with(fail);obtain⟨W2,nr⟩:=gg (W1.setCell ⟨N,oQ,ν⟩ (.bool true));rw[nr]at Yj Ao HG2;rw[nr];clear nr n0 n1 lN
  go_loopw [12] (λv wr=>∃(m:Nat) (Z:Nat->HP),1<=m/\m<=7/\v=ι κ m/\(RS C r Z/\zA Z G/\∀x q,x<m->Ext C r p x q->Di C r Z q)/\iX wr B (hC Z) 204/\iX wr N (bC (qg bn oQ)) 205/\w.grownBy wr (μ B)) (λv _=>7-(eY v).toNat)
  case atStart=>
   refine⟨1,G,eh,eh,rfl,⟨HG.out,zA.refl _,λx q hx hq=> ?_⟩,Ao.out,Yj.out,HG2.out⟩;have hx0:x=0:=eh;subst hx0;have h1:=CN oQ 0;have:C oQ 0=0:=by
    by_cases h2:0<C oQ 0
    ·have:=HI.out _ _ h2;omega
    ·omega
   exact absurd hq (HPr.out.none 0 (.inl this) q)
  case round=>
   clear Ao Yj HG2;obtain⟨m,Z,vM,hm7,rfl,hS,hB,hN,vf⟩:=hrel;have M:Hid _:=hS;clear hS;by_cases hm6:m<=6
   ·have abT:(m:Int)<=6:=eh;have aj8:(m:Int)<7:=eh;have he:=HED.out oQ m wr (ti HBW.out vf xe);have HB:Hid _:=hB;have HN:Hid _:=hN;have Yk:Hid _:=vf;clear hB hN vf;go_wp2_with(fail);refine he.mono ?_;rintro e w5 ⟨rfl,k5⟩;have hN5:=iX.below HN.out k5;have Pj:=iX.below HB.out k5;have nb:=(hN5.cell m).trans (Ja (qg bn oQ) m eh);have HN5:Hid _:=hN5;have j:Hid (w.grownBy w5 (μ B)):=⟨k5.os.trans Yk.out.os,k5.tape.trans Yk.out.tape,k5.output.trans Yk.out.output,Nat.le_trans Yk.out.size k5.size,λi hi Q=>(k5.block i (Nat.lt_of_lt_of_le hi Yk.out.size)).trans (Yk.out.block i hi Q)⟩
    have Xj:Hid (C oQ m=0 \/qg bn oQ m=true->∀x q,x<m+1->Ext C r p x q->Di C r Z q):=by
     intro hh x q hx hq;by_cases e:x=m
     ·subst e;exact absurd hq (HPr.out.none x hh q)
     ·exact M.out.2.2 x q eh hq
    obtain⟨p0,p1,p2⟩:=AH Z m eh;have b0:=(Pj.cell (m*3)).trans p0;have b1:=(Pj.cell (m*3+1)).trans p1;have b2:=(Pj.cell (m*3+2)).trans p2;have G7:Hid _:=Pj;clear he k5 hN5 Pj p0 p1 p2 HB HN Yk;have hcr:=CN oQ m;by_cases hz:C oQ m=0
    ·have S1:(C oQ m==0)=true:=by simpa using hz
     have abU:Hid _:=Xj.out (.inl hz);generalize C oQ m=cm at S1⊢
     go_wp2
     go_roundw
     case rel=>exact⟨m+1,Z,eh,eh,by go_num,⟨M.out.1,M.out.2.1,abU.out⟩,G7.out,HN5.out,j.out⟩
     case measure=>simp[eY];omega
    have S1:(C oQ m==0)=false:=by simpa using hz
    cases Qn:qg bn oQ m with
    |true=>
     rw[Qn]at nb;have abU:Hid _:=Xj.out (.inr Qn);generalize C oQ m=cm at S1⊢
     go_wp2
     go_roundw
     case rel=>exact⟨m+1,Z,eh,eh,by go_num,⟨M.out.1,M.out.2.1,abU.out⟩,G7.out,HN5.out,j.out⟩
     case measure=>simp[eY];omega
    |false=>
     rw[Qn]at nb;have qq:0<C oQ m:=eh;have HPn:Hid _:=HPr.out.next m eh qq Qn;have HPs:Hid _:=HPr.out.step m vM eh qq Qn;obtain⟨nx,hnx⟩:=gg ((if by'=0 then(m:Int)else by'));rw[hnx]at HPn HPs;have HNX:Hid _:=hnx;have hzo:=M.out.1.z m;have hwy:=M.out.1.s.way m;have Ap:=M.out.1.s.nn m;obtain⟨cm,FY⟩:=gg (C oQ m);rw[FY]at S1 HPn HPs hcr qq;rw[FY];have A:Hid ((Z m).dst=0↔(Z m).far=0):=by
      constructor
      ·intro e;by_cases h9:0<(Z m).far
       ·have:=(hwy h9).1;omega
       ·omega
      ·intro e;rw[hzo e];rfl
     have E:Hid (uh ⟨(m:Int),far+cm,nx⟩ (Z m)=true↔(Z m).far=0 \/far+cm<(Z m).far \/(far+cm=(Z m).far/\nx<(Z m).rG)):=zB _ _;have HU:Hid (uh ⟨(m:Int),far+cm,nx⟩ (Z m)=true->RS C r (rh Z m ⟨(m:Int),far+cm,nx⟩)/\zA (rh Z m ⟨(m:Int),far+cm,nx⟩) Z/\Di C r (rh Z m ⟨(m:Int),far+cm,nx⟩) (m::p)):=by
      intro hb;obtain⟨a1,a2,a3,a4⟩:=HPn.out;have h8:=abR M.out.1 m (m::p) a1 rfl (λx y=>(CN x y).1);rw[a3,a4]at h8;refine⟨h8,UW m _ (by simp only;omega) hb,λx hx=> ?_⟩;have:m=x:=by simpa using hx
      subst this;simp only[rh,if_true,a3,a4];exact⟨eh,xh.rfl' _⟩
     have HV:Hid (¬uh ⟨(m:Int),far+cm,nx⟩ (Z m)=true->Di C r Z (m::p)):=by
      intro hb x hx;obtain⟨a1,a2,a3,a4⟩:=HPn.out;have:m=x:=by simpa using hx
      subst this;rw[E.out]at hb;rw[a3,a4];refine⟨eh,?_⟩;simp only[xh,HP.v];omega
     clear hzo hwy FY hnx hz Qn;by_cases vK:by'=0
     ·have akc:(by'==0)=true:=by simpa using vK
      have hE:nx=(m:Int):=by rw[<-HNX.out,ai vK]
      subst hE;clear vK;obtain⟨U,hqd⟩:=gg ((Z m).dst);obtain⟨X,S⟩:=gg ((Z m).far);obtain⟨qx,hqx⟩:=gg ((Z m).rG);rw[hqd]at b0 A;rw[S]at b1 A E;rw[hqx]at b2 E;obtain⟨Y,Ym⟩:=gg (w5.alloc (γ #[ι κ U,ι κ X,ι κ qx] 98));have T:eE w5 Y:=by rw[<-Ym];exact gW _ _
      have hY:iX Y w5.heap.size #[ι κ U,ι κ X,ι κ qx] 98:=by rw[<-Ym];exact iX.new _ _ _
      have HW6:Hid _:=Ym;have Ek:=iX.below G7.out T;have HN6:Hid _:=iX.below HN5.out T;have HG6:Hid (w.grownBy Y (μ B)):=⟨T.os.trans j.out.os,T.tape.trans j.out.tape,T.output.trans j.out.output,Nat.le_trans j.out.size T.size,λi hi Q=>(T.block i (Nat.lt_of_lt_of_le hi j.out.size)).trans (j.out.block i hi Q)⟩
      have y0:Y.cell? ⟨w5.heap.size,0,ν⟩=μ (ι κ U):=hY.cell 0;have y1:Y.cell? ⟨w5.heap.size,1,ν⟩=μ (ι κ X):=hY.cell 1;have y2:Y.cell? ⟨w5.heap.size,2,ν⟩=μ (ι κ qx):=hY.cell 2;have ly:=hY.lt;have f0:=Ek.frozen (m*3);have f1:=Ek.frozen (m*3+1);have f2:=Ek.frozen (m*3+2);have g0:=(T.cell (p:=⟨B,m*3,ν⟩) (iX.lt G7.out)).trans b0;have g1:=(T.cell (p:=⟨B,m*3+1,ν⟩) (iX.lt G7.out)).trans b1;have g2:=(T.cell (p:=⟨B,m*3+2,ν⟩) (iX.lt G7.out)).trans b2;have lB:=Ek.lt;have UZ:Hid _:=Ek;clear Ym T hY hqd S hqx Ek HN5 j G7 Ap
      go_upto_region 11 with fail
      rw[HW6.out];clear b0 b1 b2 nb S1;have Yn:Hid (uh ⟨(m:Int),far+cm,(m:Int)⟩ (Z m)=true->(∃V,iX (((Y.setCell ⟨B,m*3,ν⟩ (ι κ (m:Int))).setCell ⟨B,m*3+1,ν⟩ (ι κ (far+cm))).setCell ⟨B,m*3+2,ν⟩ (ι κ (m:Int))) B (hC V) 204/\RS C r V/\zA V Z/\Di C r V (m::p))/\iX (((Y.setCell ⟨B,m*3,ν⟩ (ι κ (m:Int))).setCell ⟨B,m*3+1,ν⟩ (ι κ (far+cm))).setCell ⟨B,m*3+2,ν⟩ (ι κ (m:Int))) N (bC (qg bn oQ)) 205/\w.grownBy (((Y.setCell ⟨B,m*3,ν⟩ (ι κ (m:Int))).setCell ⟨B,m*3+1,ν⟩ (ι κ (far+cm))).setCell ⟨B,m*3+2,ν⟩ (ι κ (m:Int))) (μ B)):=by
       intro hb;obtain⟨u1,u2,u3⟩:=HU.out hb;have Q:N≠B:=by have:=HBN.out;omega
       refine⟨⟨_,?_,u1,u2,u3⟩,iX.other (iX.other (iX.other HN6.out Q _) Q _) Q _,kO (kO (kO HG6.out _ _) _ _) _ _⟩;rw[<-IY Z m ⟨(m:Int),far+cm,(m:Int)⟩ eh];exact iX.set (iX.set (iX.set UZ.out _ _) _ _) _ _
      have Xj:Hid (¬uh ⟨(m:Int),far+cm,(m:Int)⟩ (Z m)=true->(∃V,iX Y B (hC V) 204/\RS C r V/\zA V Z/\Di C r V (m::p))/\iX Y N (bC (qg bn oQ)) 205/\w.grownBy Y (μ B)):=
       λhb=>⟨⟨Z,UZ.out,M.out.1,zA.refl _,HV.out hb⟩,HN6.out,HG6.out⟩
      clear HN6 HG6 UZ HU HV HPn;have hq5:U=0 \/(¬U=0/\far+cm<X) \/(¬U=0/\¬far+cm<X/\far+cm=X/\(m:Int)<qx) \/(¬U=0/\¬far+cm<X/\far+cm=X/\¬(m:Int)<qx) \/(¬U=0/\¬far+cm<X/\¬far+cm=X):=eh;rcases hq5 with c1|⟨c1,c2⟩|⟨c1,c2,c3,c4⟩|⟨c1,c2,c3,c4⟩|⟨c1,c2,c3⟩
      have Yo:(U==0)=true:=by simpa using c1
      obtain⟨⟨V,J,FN,qT,QW⟩,D,H⟩:=Yn.out (E.out.2 (.inl (A.out.1 c1)));obtain⟨W7,Ny⟩:=gg ((((Y.setCell ⟨B,m*3,ν⟩ (ι κ (m:Int))).setCell ⟨B,m*3+1,ν⟩ (ι κ (far+cm))).setCell ⟨B,m*3+2,ν⟩ (ι κ (m:Int))));clear c1
      rotate_left
      have Yo:(U==0)=false:=by simpa using c1
      have S:¬X=0:=λe=>c1 (A.out.2 e);obtain⟨⟨V,J,FN,qT,QW⟩,D,H⟩:=Yn.out (E.out.2 (.inr (.inl c2)));obtain⟨W7,Ny⟩:=gg ((((Y.setCell ⟨B,m*3,ν⟩ (ι κ (m:Int))).setCell ⟨B,m*3+1,ν⟩ (ι κ (far+cm))).setCell ⟨B,m*3+2,ν⟩ (ι κ (m:Int))));clear c1 S
      rotate_left
      have Yo:(U==0)=false:=by simpa using c1
      have S:¬X=0:=λe=>c1 (A.out.2 e);have c3':(far+cm==X)=true:=by simpa using c3
      obtain⟨⟨V,J,FN,qT,QW⟩,D,H⟩:=Yn.out (E.out.2 (.inr (.inr ⟨c3,c4⟩)));obtain⟨W7,Ny⟩:=gg ((((Y.setCell ⟨B,m*3,ν⟩ (ι κ (m:Int))).setCell ⟨B,m*3+1,ν⟩ (ι κ (far+cm))).setCell ⟨B,m*3+2,ν⟩ (ι κ (m:Int))));clear c1 S c3
      rotate_left
      have Yo:(U==0)=false:=by simpa using c1
      have S:¬X=0:=λe=>c1 (A.out.2 e);have c3':(far+cm==X)=true:=by simpa using c3
      obtain⟨⟨V,J,FN,qT,QW⟩,D,H⟩:=Xj.out (λhb=>by have:=E.out.1 hb;omega);obtain⟨W7,Ny⟩:=gg Y;clear c1 S c3
      rotate_left
      have Yo:(U==0)=false:=by simpa using c1
      have S:¬X=0:=λe=>c1 (A.out.2 e);have c3':(far+cm==X)=false:=by simpa using c3
      obtain⟨⟨V,J,FN,qT,QW⟩,D,H⟩:=Xj.out (λhb=>by have:=E.out.1 hb;omega);obtain⟨W7,Ny⟩:=gg Y;clear c1 S c3
      rotate_left
      all_goals
       rw[Ny]at J D H;have j9:=HIH.out (m::p) m (far+cm) (m:Int) (qg bn oQ) V W7 (by simp;omega) eh HPs.out FN J (ti HBW.out H xe);have Nz:iX W7 N (bC (qg bn oQ)) 205:=D;have Xk:(eX.info? 205).map (·.size)=μ (bC (qg bn oQ)).size:=by rw[I9];exact UU
       have Yp:Hid _:=qT;have HD1:Hid _:=QW;have HN1:Hid _:=D;have AZ:Hid _:=H;have HW7:Hid _:=Ny;clear J FN qT QW D H Ny Xj Yn E A;obtain⟨bb,Jb⟩:=gg (bC (qg bn oQ));rw[Jb]at j9 Nz Xk;have Yq:Hid _:=Jb;clear Jb
       go_upto_region 13 with fail
       rw[HW7.out];go_wp2_with(first
        |refine lg _ rfl (.tmp 10) 205 rfl N bb _ _ rfl Nz underlying205 Xk ?_)
       refine j9.mono ?_;rintro e w8 ⟨rfl,⟨G2,hB8,hR8,Yr,hD8⟩,h⟩;have hN8:iX w8 N (bC (qg bn oQ)) 205:=iX.keep HN1.out (h.block N (iX.lt HN1.out) (λe=>by have:=HBN.out;simp at e;omega));have QX:Hid (RS C r G2/\zA G2 G/\∀x q,x<m+1->Ext C r p x q->Di C r G2 q):=by
        refine⟨hR8,Yr.trans (zA.trans Yp.out M.out.2.1),λx q hx hq=> ?_⟩;by_cases ex:x=m
        ·subst ex;obtain⟨q1,q2,e,rfl⟩:=hq;rcases cL e with rfl|⟨e',y,BQ⟩
         ·exact Di.mono HD1.out Yr
         ·rw[cM]at BQ;subst BQ;exact hD8 y _ ⟨q1,q2,e',gY⟩
        ·exact Di.mono (Di.mono (M.out.2.2 x q eh hq) Yp.out) Yr
       have HB8:Hid _:=hB8;have HN8:Hid _:=hN8;have HG8:Hid (w.grownBy w8 (μ B)):=⟨h.os.trans AZ.out.os,h.tape.trans AZ.out.tape,h.output.trans AZ.out.output,Nat.le_trans AZ.out.size h.size,λi hi Q=>(h.block i (Nat.lt_of_lt_of_le hi AZ.out.size) Q).trans (AZ.out.block i hi Q)⟩
       clear j9 hB8 hR8 Yr hD8 h hN8 Nz Xk
       go_wp2
       go_roundw
       case rel=>exact⟨m+1,G2,eh,eh,by go_num,QX.out,HB8.out,HN8.out,HG8.out⟩
       case measure=>simp[eY];omega
     ·have akc:(by'==0)=false:=by simpa using vK
      have hE:nx=by':=by rw[<-HNX.out,af vK]
      subst hE;clear vK;obtain⟨U,hqd⟩:=gg ((Z m).dst);obtain⟨X,S⟩:=gg ((Z m).far);obtain⟨qx,hqx⟩:=gg ((Z m).rG);rw[hqd]at b0 A;rw[S]at b1 A E;rw[hqx]at b2 E;obtain⟨Y,Ym⟩:=gg (w5.alloc (γ #[ι κ U,ι κ X,ι κ qx] 98));have T:eE w5 Y:=by rw[<-Ym];exact gW _ _
      have hY:iX Y w5.heap.size #[ι κ U,ι κ X,ι κ qx] 98:=by rw[<-Ym];exact iX.new _ _ _
      have HW6:Hid _:=Ym;have Ek:=iX.below G7.out T;have HN6:Hid _:=iX.below HN5.out T;have HG6:Hid (w.grownBy Y (μ B)):=⟨T.os.trans j.out.os,T.tape.trans j.out.tape,T.output.trans j.out.output,Nat.le_trans j.out.size T.size,λi hi Q=>(T.block i (Nat.lt_of_lt_of_le hi j.out.size)).trans (j.out.block i hi Q)⟩
      have y0:Y.cell? ⟨w5.heap.size,0,ν⟩=μ (ι κ U):=hY.cell 0;have y1:Y.cell? ⟨w5.heap.size,1,ν⟩=μ (ι κ X):=hY.cell 1;have y2:Y.cell? ⟨w5.heap.size,2,ν⟩=μ (ι κ qx):=hY.cell 2;have ly:=hY.lt;have f0:=Ek.frozen (m*3);have f1:=Ek.frozen (m*3+1);have f2:=Ek.frozen (m*3+2);have g0:=(T.cell (p:=⟨B,m*3,ν⟩) (iX.lt G7.out)).trans b0;have g1:=(T.cell (p:=⟨B,m*3+1,ν⟩) (iX.lt G7.out)).trans b1;have g2:=(T.cell (p:=⟨B,m*3+2,ν⟩) (iX.lt G7.out)).trans b2;have lB:=Ek.lt;have UZ:Hid _:=Ek;clear Ym T hY hqd S hqx Ek HN5 j G7 Ap
      go_upto_region 11 with fail
      rw[HW6.out];clear b0 b1 b2 nb S1;have Yn:Hid (uh ⟨(m:Int),far+cm,nx⟩ (Z m)=true->(∃V,iX (((Y.setCell ⟨B,m*3,ν⟩ (ι κ (m:Int))).setCell ⟨B,m*3+1,ν⟩ (ι κ (far+cm))).setCell ⟨B,m*3+2,ν⟩ (ι κ nx)) B (hC V) 204/\RS C r V/\zA V Z/\Di C r V (m::p))/\iX (((Y.setCell ⟨B,m*3,ν⟩ (ι κ (m:Int))).setCell ⟨B,m*3+1,ν⟩ (ι κ (far+cm))).setCell ⟨B,m*3+2,ν⟩ (ι κ nx)) N (bC (qg bn oQ)) 205/\w.grownBy (((Y.setCell ⟨B,m*3,ν⟩ (ι κ (m:Int))).setCell ⟨B,m*3+1,ν⟩ (ι κ (far+cm))).setCell ⟨B,m*3+2,ν⟩ (ι κ nx)) (μ B)):=by
       intro hb;obtain⟨u1,u2,u3⟩:=HU.out hb;have Q:N≠B:=by have:=HBN.out;omega
       refine⟨⟨_,?_,u1,u2,u3⟩,iX.other (iX.other (iX.other HN6.out Q _) Q _) Q _,kO (kO (kO HG6.out _ _) _ _) _ _⟩;rw[<-IY Z m ⟨(m:Int),far+cm,nx⟩ eh];exact iX.set (iX.set (iX.set UZ.out _ _) _ _) _ _
      have Xj:Hid (¬uh ⟨(m:Int),far+cm,nx⟩ (Z m)=true->(∃V,iX Y B (hC V) 204/\RS C r V/\zA V Z/\Di C r V (m::p))/\iX Y N (bC (qg bn oQ)) 205/\w.grownBy Y (μ B)):=
       λhb=>⟨⟨Z,UZ.out,M.out.1,zA.refl _,HV.out hb⟩,HN6.out,HG6.out⟩
      clear HN6 HG6 UZ HU HV HPn;have hq5:U=0 \/(¬U=0/\far+cm<X) \/(¬U=0/\¬far+cm<X/\far+cm=X/\nx<qx) \/(¬U=0/\¬far+cm<X/\far+cm=X/\¬nx<qx) \/(¬U=0/\¬far+cm<X/\¬far+cm=X):=eh;rcases hq5 with c1|⟨c1,c2⟩|⟨c1,c2,c3,c4⟩|⟨c1,c2,c3,c4⟩|⟨c1,c2,c3⟩
      have Yo:(U==0)=true:=by simpa using c1
      obtain⟨⟨V,J,FN,qT,QW⟩,D,H⟩:=Yn.out (E.out.2 (.inl (A.out.1 c1)));obtain⟨W7,Ny⟩:=gg ((((Y.setCell ⟨B,m*3,ν⟩ (ι κ (m:Int))).setCell ⟨B,m*3+1,ν⟩ (ι κ (far+cm))).setCell ⟨B,m*3+2,ν⟩ (ι κ nx)));clear c1
      rotate_left
      have Yo:(U==0)=false:=by simpa using c1
      have S:¬X=0:=λe=>c1 (A.out.2 e);obtain⟨⟨V,J,FN,qT,QW⟩,D,H⟩:=Yn.out (E.out.2 (.inr (.inl c2)));obtain⟨W7,Ny⟩:=gg ((((Y.setCell ⟨B,m*3,ν⟩ (ι κ (m:Int))).setCell ⟨B,m*3+1,ν⟩ (ι κ (far+cm))).setCell ⟨B,m*3+2,ν⟩ (ι κ nx)));clear c1 S
      rotate_left
      have Yo:(U==0)=false:=by simpa using c1
      have S:¬X=0:=λe=>c1 (A.out.2 e);have c3':(far+cm==X)=true:=by simpa using c3
      obtain⟨⟨V,J,FN,qT,QW⟩,D,H⟩:=Yn.out (E.out.2 (.inr (.inr ⟨c3,c4⟩)));obtain⟨W7,Ny⟩:=gg ((((Y.setCell ⟨B,m*3,ν⟩ (ι κ (m:Int))).setCell ⟨B,m*3+1,ν⟩ (ι κ (far+cm))).setCell ⟨B,m*3+2,ν⟩ (ι κ nx)));clear c1 S c3
      rotate_left
      have Yo:(U==0)=false:=by simpa using c1
      have S:¬X=0:=λe=>c1 (A.out.2 e);have c3':(far+cm==X)=true:=by simpa using c3
      obtain⟨⟨V,J,FN,qT,QW⟩,D,H⟩:=Xj.out (λhb=>by have:=E.out.1 hb;omega);obtain⟨W7,Ny⟩:=gg Y;clear c1 S c3
      rotate_left
      have Yo:(U==0)=false:=by simpa using c1
      have S:¬X=0:=λe=>c1 (A.out.2 e);have c3':(far+cm==X)=false:=by simpa using c3
      obtain⟨⟨V,J,FN,qT,QW⟩,D,H⟩:=Xj.out (λhb=>by have:=E.out.1 hb;omega);obtain⟨W7,Ny⟩:=gg Y;clear c1 S c3
      rotate_left
      all_goals
       rw[Ny]at J D H;have j9:=HIH.out (m::p) m (far+cm) nx (qg bn oQ) V W7 (by simp;omega) eh HPs.out FN J (ti HBW.out H xe);have Nz:iX W7 N (bC (qg bn oQ)) 205:=D;have Xk:(eX.info? 205).map (·.size)=μ (bC (qg bn oQ)).size:=by rw[I9];exact UU
       have Yp:Hid _:=qT;have HD1:Hid _:=QW;have HN1:Hid _:=D;have AZ:Hid _:=H;have HW7:Hid _:=Ny;clear J FN qT QW D H Ny Xj Yn E A;obtain⟨bb,Jb⟩:=gg (bC (qg bn oQ));rw[Jb]at j9 Nz Xk;have Yq:Hid _:=Jb;clear Jb
       go_upto_region 13 with fail
       rw[HW7.out];go_wp2_with(first
        |refine lg _ rfl (.tmp 10) 205 rfl N bb _ _ rfl Nz underlying205 Xk ?_)
       refine j9.mono ?_;rintro e w8 ⟨rfl,⟨G2,hB8,hR8,Yr,hD8⟩,h⟩;have hN8:iX w8 N (bC (qg bn oQ)) 205:=iX.keep HN1.out (h.block N (iX.lt HN1.out) (λe=>by have:=HBN.out;simp at e;omega));have QX:Hid (RS C r G2/\zA G2 G/\∀x q,x<m+1->Ext C r p x q->Di C r G2 q):=by
        refine⟨hR8,Yr.trans (zA.trans Yp.out M.out.2.1),λx q hx hq=> ?_⟩;by_cases ex:x=m
        ·subst ex;obtain⟨q1,q2,e,rfl⟩:=hq;rcases cL e with rfl|⟨e',y,BQ⟩
         ·exact Di.mono HD1.out Yr
         ·rw[cM]at BQ;subst BQ;exact hD8 y _ ⟨q1,q2,e',gY⟩
        ·exact Di.mono (Di.mono (M.out.2.2 x q eh hq) Yp.out) Yr
       have HB8:Hid _:=hB8;have HN8:Hid _:=hN8;have HG8:Hid (w.grownBy w8 (μ B)):=⟨h.os.trans AZ.out.os,h.tape.trans AZ.out.tape,h.output.trans AZ.out.output,Nat.le_trans AZ.out.size h.size,λi hi Q=>(h.block i (Nat.lt_of_lt_of_le hi AZ.out.size) Q).trans (AZ.out.block i hi Q)⟩
       clear j9 hB8 hR8 Yr hD8 h hN8 Nz Xk
       go_wp2
       go_roundw
       case rel=>exact⟨m+1,G2,eh,eh,by go_num,QX.out,HB8.out,HN8.out,HG8.out⟩
       case measure=>simp[eY];omega
   ·have abT:¬(m:Int)<=6:=eh;have HR:Hid (∃Z,iX wr B (hC Z) 204/\RS C r Z/\zA Z G/\∀x q,Ext C r p x q->Di C r Z q):=by
     refine⟨Z,hB,M.out.1,M.out.2.1,λx q hq=>M.out.2.2 x q ?_ hq⟩;obtain⟨q1,_,e,rfl⟩:=hq;have:=(KX q1 x gY).1;omega
    have Yk:Hid _:=vf;clear hB hN vf
    go_wp2
    first|go_end0|refine iJ rfl rfl ?_
    exact⟨rfl,HR.out,Yk.out⟩
theorem QY(a:Option Addr)(n cap:Nat)(S:Nat->SV)(E:Nat->List jE)(r:Nat)(w:dY)(h:vP w a n S E)(hn:n<=1000)(iN:∀j,j<n->oy (S j).own (S j).seq (E j)=0)(k8:1<=r)(hr6:r<=6):
 eW eX 48 #[σ a n cap,ι κ (r:Int)] w λe w'=>∃b c,e=ρ (σ b (qb (kK (jV S E n)) r).length c)/\OZ w' b (qb (kK (jV S E n)) r).length (qb (kK (jV S E n)) r)/\eE w w':=by
 have U:Hid (∀(u v:Nat) W,eE w W->eW eX 159 #[σ a n cap,ι κ (u:Int),ι κ (v:Int)] W λe w'=>e=ρ (ι κ (kK (jV S E n) u v))/\eE W w'):=
  λu v W hW=>Ue a n cap S E u v W (h.below hW) hn iN
 have CN:=BW (vW S E n iN);have D:=QT S E n iN;have HI:Hid (∀u v,0<kK (jV S E n) u v->(1<=u/\u<=6)/\1<=v/\v<=6):=Yg S E n iN;generalize kK (jV S E n)=C at U CN D HI⊢;clear iN;have FP:∀x y,0<=C x y:=λx y=>(CN x y).1;have hz:=afl;have mO:=Yi;have r1:¬(r:Int)<1:=eh;have r2:¬6<(r:Int):=eh;obtain⟨Z,hZ⟩:=gg (bC (λ_=>false));obtain⟨Z2,W9⟩:=gg (hC (λ_=>HP.zero));rw[hZ]at hz;rw[W9]at mO;obtain⟨W1,H⟩:=gg ((w.alloc (γ Z2 204)).alloc (γ Z 205));have k1:eE w W1:=by rw[<-H];exact(gW _ _).alloc gY _
 have hB:iX W1 w.heap.size (hC λ_=>HP.zero) 204:=by rw[<-H,W9];exact(iX.new w _ _).below (gW _ _)
 have hN:iX W1 (w.heap.size+1) Z 205:=by rw[<-H];exact iX.F8 _ _ _ _ gY
 have Xk:(eX.info? 205).map (·.size)=μ Z.size:=by rw[<-hZ,I9];exact UU
 have TJ:UX C r [] r 0 0 (λ_=>false):=by
  refine⟨.inl ⟨rfl,rfl,rfl,rfl⟩,cY,λx=> ?_⟩;simp[qg]
 have hrs:RS C r (λ_=>HP.zero):=⟨⟨λ_=>Int.le_refl _,λn hn=>by simp[HP.zero]at hn⟩,λ_ _=>rfl⟩
 have j9:=QV a n cap r w C w.heap.size (Nat.le_refl _) U CN HI 7 [] r 0 0 (λ_=>false) (λ_=>HP.zero) W1 rfl eh TJ hrs hB k1;rw[hZ]at j9;have JY:Hid _:=H;have HK1:Hid _:=k1;clear H hZ W9 TJ hrs hB k1 U
 go_in
 go_upto_region 5 with fail
 rw[JY.out];go_wp2_with(first
  |refine lg _ rfl (.tmp 6) 205 rfl (w.heap.size+1) Z _ _ rfl hN underlying205 Xk ?_)
 refine j9.mono ?_;rintro e V ⟨rfl,⟨G,CL,FO,_,hD2⟩,vf⟩;have rJ:eE w V:=ti HK1.out vf (Nat.le_refl _);have kr:=QU FP (D r) G FO (λq q1 q2=>by
  rcases cL q with rfl|⟨e,x,he⟩
  ·exact q1.elim
  ·rw[cM]at he;exact hD2 x q ⟨q1,q2,e,he⟩)
 have HD3:Hid (∀m:Nat,1<=m->((0:Int)<(G m).dst↔0<CR C r m)/\(0<CR C r m->G m=jv C r 6 m)):=by
  intro m hm;obtain⟨s1,s2⟩:=kr m;refine⟨⟨λh9=> ?_,λh9=> ?_⟩,s2⟩
  ·by_cases e:0<CR C r m
   ·exact e
   ·have e0:=Nx FP (D r) m;have:=FO.z m eh;rw[this]at h9;simp[HP.zero]at h9
  ·have:=(FO.s.way m eh).1;omega
 have HF0:Hid (CR C r 0=0):=by
  show _=_;have e0:=Nx FP (D r) 0;by_cases e:0<CR C r 0
  ·obtain⟨_,q,q1,_,q3,_⟩:=KY FP (D r) 0 e;exfalso
   match q,q1,q3 with
   |[],q1,_=>exact q1
   |[x],q1,q3=>
    have:x=0:=by simpa using q3
    subst this;have:=HI.out _ _ q1.1;omega
   |x::y::l,q1,q3=>
    have:x=0:=by simpa using q3
    subst this;have:=HI.out _ _ q1.2.1;omega
  ·omega
 have HL:Hid (∀m,pR (jv C r 6) (m+1)=if 0<CR C r m then pR (jv C r 6) m++ [jv C r 6 m]else pR (jv C r 6) m):=λm=>rfl;have HE:Hid (pR (jv C r 6) 7=qb C r):=rfl;have HLL:Hid (∀m,(pR (jv C r 6) m).length<=m):=rj _;obtain⟨i0,hi,ox,nh,Pk⟩:=aY O4;have Ao:Hid _:=CL;have HK2:Hid _:=rJ;obtain⟨B,Q⟩:=gg (w.heap.size);rw[Q]at Ao;rw[Q];clear j9 CL FO hD2 vf rJ kr hN Xk JY Q
 go_wp2
 go_loopw [7,8] (λs v wr=>∃m:Nat,1<=m/\m<=7/\v=ι κ m/\Row wr 3 s (pR (jv C r 6) m).length (M4 (pR (jv C r 6) m))/\(∀g,s.ownBlock=μ g->V.heap.size<=g)/\eE V wr) (λ_ v _=>7-(eY v).toNat)
 case atStart=>
  refine⟨1,eh,eh,rfl,?_,λg hg=>by simp[eu]at hg,av _ _⟩;have e:pR (jv C r 6) 1=[] :=by
   rw[HL.out 0,af (by rw[HF0.out];omega)];rfl
  rw[e];exact Row.nil _ _
 case round=>
  obtain⟨m,vM,hm7,rfl,X,jl,M⟩:=hrel;by_cases hm6:m<=6
  ·have abT:(m:Int)<=6:=eh;have aj8:(m:Int)<7:=eh;obtain⟨p0,p1,p2⟩:=AH G m eh;have XT:=iX.below Ao.out M;have c0:=(XT.cell (m*3)).trans p0;have c1:=(XT.cell (m*3+1)).trans p1;have c2:=(XT.cell (m*3+2)).trans p2;clear p0 p1 p2 XT;obtain⟨d1,d2⟩:=HD3.out m vM;have HS:Hid _:=HL.out m;have hll:=HLL.out m;have AQ:Hid _:=jl;have HB:Hid _:=M;by_cases hf:0<CR C r m
   ·have Y:0<(G m).dst:=d1.2 hf;have he:=d2 hf;have A:Hid (pR (jv C r 6) (m+1)=pR (jv C r 6) m++ [G m]):=by show _=_;rw[HS.out,ai hf,he]
    obtain⟨p,hp⟩:=gg (G m);rw[hp]at c0 c1 c2 Y A;obtain⟨pd,pf,px⟩:=p;simp only at c0 c1 c2 Y;obtain⟨L,hLe⟩:=gg (pR (jv C r 6) m);rw[hLe]at A X hll;have hws:Hid (V.heap.size<=wr.heap.size):=M.size;clear hp hLe d1 d2 hf he jl M HS;go_wp2_with(at_builtin;go_must(refine iG _ rfl (.tmp 28) (.tmp 32) 94 rfl 98 i0 (.agg #[ι κ 0,ι κ 0,ι κ 0]) 3 24 underlying94 hi ox nh Pk rfl eA u7 L.length (M4 L) rfl (X.alloc _) _ 1 1 [ι κ pd,ι κ pf,ι κ px] rfl rfl eA (zn _ _ _ _ _ _ gY) (Ui _ _ _) (by unfold maxLen;omega) eh ?_));intro g' jr w3 sA J sy;have HR3:Hid (Row w3 3 (σ (μ ⟨g',0,ν⟩) (L.length+1) jr) (L++ [(⟨pd,pf,px⟩:HP)]).length (M4 (L++ [(⟨pd,pf,px⟩:HP)]))):=by
     show Row _ _ _ _ _;rw[KB,aA];exact sA
    have T:eE V (wr.alloc (γ #[ι κ pd,ι κ pf,ι κ px] 98)):=Below.alloc HB.out HB.out.size _;have Gh:Hid (eE V w3):=⟨J.os.trans T.os,J.tape.trans T.tape,J.output.trans T.output,Nat.le_trans T.size J.size,λi hi=>(J.block i (Nat.lt_of_lt_of_le hi T.size) (λe=>by have:=AQ.out i e.symm;omega)).trans (T.block i hi)⟩
    have Z1:Hid (∀g,eu (σ (μ ⟨g',0,ν⟩) (L.length+1) jr)=μ g->V.heap.size<=g):=by
     intro g hg;have QB:g'=g:=by simpa[eu]using hg
     subst QB;rcases sy with e|e
     ·exact AQ.out _ e
     ·have:=hws.out;omega
    clear sA J sy T X c0 c1 c2
    go_wp2
    go_roundw
    case rel=>exact⟨m+1,eh,eh,by go_num,by rw[A.out];exact HR3.out,Z1.out,Gh.out⟩
    case measure=>simp[eY];omega
   ·have Y:¬0<(G m).dst:=λe=>hf (d1.1 e);have A:Hid (pR (jv C r 6) (m+1)=pR (jv C r 6) m):=by show _=_;rw[HS.out,af hf]
    generalize (G m).dst=pd at c0 Y;have CP:Hid _:=X;clear d1 d2 hf HS jl M X c1 c2
    go_wp2
    go_roundw
    case rel=>exact⟨m+1,eh,eh,by go_num,by rw[A.out];exact CP.out,AQ.out,HB.out⟩
    case measure=>simp[eY];omega
  ·have abT:¬(m:Int)<=6:=eh;have QZ:m=7:=eh;subst QZ;rw[HE.out]at X;obtain⟨ra,rc,rfl,hR⟩:=Row.hs X;have HR:Hid _:=hR;have Z3:Hid _:=gk HK2.out M;clear hR X jl M
   go_wp2
   go_ret
   first|exact⟨_,_,rfl,HR.out,Z3.out⟩|exact⟨_,⟨_,rfl⟩,HR.out,Z3.out⟩
