import Derived.Test.YtieklnlbljejdaaGreatDoorW00
open Go.Value renaming int → ι, slice → σ, pointer → π, tuple → τ, nilIface → η
open Go.IntKind renaming i64 → κ
open Go.Ending renaming returned → ρ
open Go.Obj renaming cells → γ
open Option renaming none → ν, some → μ
open List renaming length_cons → eT, getElem?_of_mem → fB
open Prod.mk renaming injEq → fe
open Go.Proofs.Tryz renaming prog → e7
open Go renaming World → dY, Calls → eZ, Addr → dX, Value → dZ
open Go.RowKit renaming intOf → fa
open Go.Value renaming ownBlock → eu
open Go.Instr renaming mapUpdate → fh, lookup → fq
open Go.Maps renaming atKey_put_other → fj, atKey_del_other → ft
open Go.Builtin renaming clear_ → fA
set_option maxRecDepth 100000
set_option maxHeartbeats 4000000
open Go.Proofs.Tryz
namespace Go.Proofs.YtieklnlbljejdaaGreatDoor
namespace St
variable {a b s1 s2:Int}
abbrev Ed:=Int×Int
def qy(own:Int):Int->List Ed->Nat
 |_,[] =>0
 |ah,e::r=>if e.1<1 \/6<e.1 \/e.2<1 \/20<e.2 then 1 else if e.1=own \/e.1<=ah then 3 else qy own e.1 r
def oD(own seq:Int)(es:List Ed):Nat:=if own<1 \/6<own \/seq<1 \/1000000<seq then 1 else if 6<es.length then 2 else qy own 0 es
theorem jw {own seq:Int} {es:List Ed} (h:oD own seq es=0):(1<=own/\own<=6)/\(1<=seq/\seq<=1000000)/\es.length<=6/\qy own 0 es=0:=by
 unfold oD at h;split at h
 ·simp at h
 ·split at h
  ·simp at h
  ·exact⟨eh,eh,eh,h⟩
theorem qb(own:Int):∀(es:List Ed) (Y:Int),qy own Y es=0->∀e∈es,(1<=e.1/\e.1<=6)/\(1<=e.2/\e.2<=20)
 |[],_,_,e,Z=>by simp at Z
 |x::r,Y,h,e,Z=>by
  unfold qy at h;split at h
  ·simp at h
  ·split at h
   ·simp at h
   ·rcases aO.1 Z with rfl|Z
    ·omega
    ·exact qb own r _ h e Z
def u8(x:Int):UInt8:=UInt8.ofNat x.toNat
theorem pJ(x:Int)(h0:0<=x)(h1:x<=255):((u8 x).toNat:Int)=x:=by
 unfold u8;rw[UInt8.toNat_ofNat_of_lt' (by show x.toNat<256;omega)];omega
def MF(es:List Ed):List UInt8:=es.flatMap λo=>[u8 o.1,u8 o.2]
theorem Ua(os:List Ed)(o:Ed):MF (os++ [o])=MF os++ [u8 o.1,u8 o.2] :=by simp[MF]
theorem yr(os:List Ed):(MF os).length=2*os.length:=by
 induction os with
 |nil=>rfl
 |cons o r ih=>simp only[MF,List.flatMap_cons,List.length_append,eT,List.length_nil]at ih⊢;omega
def ru(own seq:Int)(es:List Ed):List UInt8:=u8 own::u8 (seq%256)::u8 (seq/256%256)::u8 (seq/65536)::MF es
def pairs:List UInt8->List Ed
 |k::n::r=>((k.toNat:Int),(n.toNat:Int))::pairs r
 |_=>[]
theorem zq:∀l:List UInt8,(pairs l).length=l.length/2
 |[] =>rfl
 |[_] =>by simp[pairs]
 |a::b::r=>by
  have ih:=zq r;simp only[pairs,eT,ih];omega
theorem Hc:∀(os:List Ed),(∀o∈os,(0<=o.1/\o.1<=255)/\(0<=o.2/\o.2<=255))->pairs (MF os)=os
 |[],_=>rfl
 |o::r,h=>by
  have X:MF (o::r)=u8 o.1::u8 o.2::MF r:=by simp[MF]
  obtain⟨Z,Y⟩:=h o gZ;rw[X,pairs,pJ o.1 Z.1 Z.2,pJ o.2 Y.1 Y.2,Hc r (λx hx=>h x (by simp[hx]))]
def Kw(l:List UInt8):Int:=((l.getD 1 0).toNat:Int)+256*((l.getD 2 0).toNat:Int)+65536*((l.getD 3 0).toNat:Int)
def iu(l:List UInt8):Int×Int×List Ed×Nat:=
 if l.length<4 \/l.length%2=1 then(0,0,[],4)
 else if oD ((l.getD 0 0).toNat:Int) (Kw l) (pairs (l.drop 4))=0 then(((l.getD 0 0).toNat:Int),Kw l,pairs (l.drop 4),0)
 else(0,0,[],4)
theorem Kx(l:List UInt8)(h:16<l.length):iu l=(0,0,[],4):=by
 unfold iu;split
 ·rfl
 ·rename_i h1
  have hl:6<(pairs (l.drop 4)).length:=by rw[zq];simp;omega
  split
  ·rename_i Z
   have:=(jw Z).2.2.1;omega
  ·rfl
theorem nQ(own seq:Int)(es:List Ed)(hf:oD own seq es=0):iu (ru own seq es)=(own,seq,es,0):=by
 obtain⟨p1,p2,p3,V⟩:=jw hf;have X:=qb own es 0 V;have hl:(ru own seq es).length=4+2*es.length:=by
  unfold ru;simp only[eT,yr];omega
 have g0:(ru own seq es).getD 0 0=u8 own:=rfl;have Z:(ru own seq es).drop 4=MF es:=rfl;have hs:Kw (ru own seq es)=seq:=by
  show((u8 (seq%256)).toNat:Int)+256*((u8 (seq/256%256)).toNat:Int)+65536*((u8 (seq/65536)).toNat:Int)=seq;rw[pJ _ eh eh,pJ _ eh eh,pJ _ eh eh];omega
 unfold iu;rw[g0,Z,hs,pJ own eh eh,Hc es (λo Y=>by have:=X o Y;omega),hl,af eh,ai hf]
def mb(a b:Int):Int:=if a<b then-1 else if b<a then 1 else 0
def yt(a b:Ed):Int:=if mb a.1 b.1≠0 then mb a.1 b.1 else mb a.2 b.2
def mr:List Ed->List Ed->Int
 |[],[] =>0
 |[],_::_=> -1
 |_::_,[] =>1
 |a::r,b::q=>if yt a b≠0 then yt a b else mr r q
def l5(s1:Int)(e1:List Ed)(s2:Int)(e2:List Ed):Int:=if mb s1 s2≠0 then mb s1 s2 else mr e1 e2
theorem QM(a b:Int):mb a b= -mb b a:=by unfold mb;split<;>split<;>(try split)<;>omega
theorem nG:mb a b=0↔a=b:=by unfold mb;constructor<;>intro h<;>(try split at h)<;>(try split at h)<;>(try split)<;>(try split)<;>omega
theorem MY(a b:Int):mb a b= -1 \/mb a b=0 \/mb a b=1:=by unfold mb;split<;>(try split)<;>simp
theorem uk:0<mb a b↔b<a:=by unfold mb;split<;>(try split)<;>omega
theorem qN(a b:Ed):(yt a b=1/\(b.1<a.1 \/b.1=a.1/\b.2<a.2)) \/(yt a b= -1/\(a.1<b.1 \/a.1=b.1/\a.2<b.2)) \/(yt a b=0/\a=b):=by
 obtain⟨a1,a2⟩:=a;obtain⟨b1,b2⟩:=b;simp only[yt,mb,fe]
 repeat' split
 all_goals omega
theorem QN(a b:Ed):yt a b= -yt b a:=by
 obtain⟨a1,a2⟩:=a;obtain⟨b1,b2⟩:=b;simp only[yt,mb]
 repeat' split
 all_goals omega
theorem DY:∀a b:List Ed,mr a b= -1 \/mr a b=0 \/mr a b=1
 |[],[] =>by simp[mr]
 |[],_::_=>by simp[mr]
 |_::_,[] =>by simp[mr]
 |a::r,b::q=>by
  unfold mr;split
  ·rcases qN a b with h|h|h<;>simp[h.1]
  ·exact DY r q
theorem Hd:∀a b:List Ed,mr a b= -mr b a
 |[],[] =>by simp[mr]
 |[],_::_=>by simp[mr]
 |_::_,[] =>by simp[mr]
 |a::r,b::q=>by
  have h:=QN a b;have ih:=Hd r q;unfold mr;split<;>split<;>omega
theorem He:∀ {a b:List Ed},mr a b=0↔a=b
 |[],[] =>by simp[mr]
 |[],_::_=>by simp[mr]
 |_::_,[] =>by simp[mr]
 |a::r,b::q=>by
  have ih:= @He r q;unfold mr;rcases qN a b with h|h|h
  ·rw[ai eh,h.1];constructor
   ·intro e;simp at e
   ·intro e;obtain⟨Z,Y⟩:=a;obtain⟨b1,b2⟩:=b;simp at e h;omega
  ·rw[ai eh,h.1];constructor
   ·intro e;simp at e
   ·intro e;obtain⟨Z,Y⟩:=a;obtain⟨b1,b2⟩:=b;simp at e h;omega
  ·rw[af eh,ih];simp[h.2]
theorem DZ:∀ {a b c:List Ed},0<=mr a b->0<=mr b c->0<=mr a c/\(0<mr a b \/0<mr b c->0<mr a c)
 |[],[],[],_,_=>by simp[mr]
 |[],[],_::_,_,h=>by simp[mr]at h
 |[],_::_,_,h,_=>by simp[mr]at h
 |_::_,[],[],_,_=>by simp[mr]
 |_::_,[],_::_,_,h=>by simp[mr]at h
 |_::_,_::_,[],_,_=>by simp[mr]
 |a::r,b::q,c::s,h1,h2=>by
  have ih:= @DZ r q s;unfold mr at h1 h2⊢;rcases qN a b with⟨Y,U⟩|⟨Y,U⟩|⟨Y,rfl⟩
  ·rcases qN b c with⟨Z,V⟩|⟨Z,V⟩|⟨Z,rfl⟩
   ·rcases qN a c with⟨X,T⟩|⟨X,T⟩|⟨X,rfl⟩
    ·simp[X]
    ·omega
    ·omega
   ·simp[Z]at h2
   ·simp[Y]
  ·simp[Y]at h1
  ·rcases qN a c with⟨Z,V⟩|⟨Z,V⟩|⟨Z,rfl⟩
   ·simp[Z]
   ·simp[Z]at h2
   ·simp only[Y]at h1 h2⊢;simp at h1 h2⊢;exact ih h1 h2
theorem um(s1 s2:Int)(Z Y:List Ed):l5 s1 Z s2 Y= -l5 s2 Y s1 Z:=by
 have h:=QM s1 s2;have ih:=Hd Z Y;unfold l5;split<;>split<;>omega
theorem AK {e1 e2:List Ed}:l5 s1 e1 s2 e2=0↔s1=s2/\e1=e2:=by
 unfold l5;split
 ·rename_i h
  constructor
  ·intro e;exact absurd e h
  ·intro⟨e,_⟩;exact absurd (nG.2 e) h
 ·rename_i h
  have:s1=s2:=nG.1 eh;rw[He];simp[this]
theorem D3(s1 s2:Int)(Z Y:List Ed):l5 s1 Z s2 Y= -1 \/l5 s1 Z s2 Y=0 \/l5 s1 Z s2 Y=1:=by
 unfold l5;split
 ·rcases MY s1 s2 with h|h|h<;>simp[h]
 ·exact DY Z Y
theorem yu {s3:Int} {e1 e2 e3:List Ed} (Y:0<=l5 s1 e1 s2 e2)(Z:0<=l5 s2 e2 s3 e3):0<=l5 s1 e1 s3 e3/\(0<l5 s1 e1 s2 e2 \/0<l5 s2 e2 s3 e3->0<l5 s1 e1 s3 e3):=by
 unfold l5 at Y Z⊢;by_cases a:s1=s2
 ·by_cases b:s2=s3
  ·have c:s1=s3:=a.trans b;rw[af (by simp[nG.2 a])]at Y;rw[af (by simp[nG.2 b])]at Z;have X:=nG.2 a;have hb:=nG.2 b;have hc:=nG.2 c;rw[af (show¬mb s1 s2≠0 by omega),af (show¬mb s2 s3≠0 by omega),af (show¬mb s1 s3≠0 by omega)];exact DZ Y Z
  ·have hb:mb s2 s3≠0:=λe=>b (nG.1 e);rw[ai hb]at Z;have p:s3<s2:=uk.1 eh;have q:0<mb s1 s3:=uk.2 eh;rw[ai (show mb s1 s3≠0 by omega)];exact⟨eh,λ_=>q⟩
 ·have X:mb s1 s2≠0:=λe=>a (nG.1 e);rw[ai X]at Y;have p:s2<s1:=uk.1 eh;have p2:s3<=s2:=by
   by_cases b:mb s2 s3=0
   ·have:=nG.1 b;omega
   ·rw[ai b]at Z;have:=uk.1 (show 0<mb s2 s3 by omega);omega
  have q:0<mb s1 s3:=uk.2 eh;rw[ai (show mb s1 s3≠0 by omega)];exact⟨eh,λ_=>q⟩
end St
open Go.RowKit St
variable {B b n n':Nat} {k x:Int} {left:Lit->Bool} {w w':World}
theorem zr:(e7.info? 123).map (λi=>(i.zero,i.size,i.bytes))=μ (μ (.agg #[ι κ 0,ι κ 0]),2,16):=gX
theorem pQ(w:dY):(zeroValue 40).run e7 w=.ok (.agg #[ι κ 0,ι κ 0,σ ν 0 0]) w:=gX
def Ub(n:Int):Bool:=decide (1<=n)&&decide (n<=6)
theorem uS(n:Int)(w:dY):eZ e7 167 #[ι κ n] w λe w'=>e=ρ (.bool (Ub n))/\w=w':=by
 by_cases Z:1<=n
 ·by_cases Y:n<=6
  ·have hb:Ub n=true:=by simp[Ub,Z,Y]
   rw[hb];clear hb
   go_in
   go_wp2
   go_ret;exact⟨by first|rfl|(simp;omega),rfl⟩
  ·have hb:Ub n=false:=by simp[Ub,Y]
   rw[hb];clear hb
   go_in
   go_wp2
   go_ret;exact⟨by first|rfl|(simp;omega),rfl⟩
 ·have hb:Ub n=false:=by simp[Ub,Z]
  rw[hb];clear hb
  go_in
  go_wp2
  go_ret;exact⟨by first|rfl|(simp;omega),rfl⟩
theorem D4(n:Int)(h0:¬n<1)(h1:¬6<n):Ub n=true:=by simp[Ub];omega
theorem AL(n:Int)(h:n<1 \/6<n):Ub n=false:=by simp[Ub];omega
theorem D5(own:Int)(a:Option dX)(n cap:Nat)(os:List jH)(w:dY)(hn:n<=1000000)(Q:jg w a n os):
 eZ e7 168 #[ι κ own,σ a n cap] w λe w'=>e=ρ (jk (qy own 0 os))/\eE w w':=by
 have G:jk 0=η:=rfl;have E:jk 1=.iface 128 (ι κ 1):=rfl;have D:jk 3=.iface 128 (ι κ 3):=rfl;have u:Hid _:=G;have S:Hid _:=E;have J:Hid _:=D;clear G E D
 go_in
 go_wp2
 go_loopw [5,10] (λah i wr=>∃(k:Nat) (h:Int),k<=n/\ah=ι κ h/\i=ι κ k/\qy own 0 os=qy own h (os.drop k)/\eE w wr) (λ_ i _=>n-(fa i).toNat)
 case atStart=>exact⟨0,0,Nat.zero_le _,rfl,rfl,rfl,au _ _⟩
 case round=>
  obtain⟨k,h,hk,rfl,rfl,H,T⟩:=hrel;have U:Hid _:=H;clear H;by_cases kD:k<n
  ·have M:=Q.below T;rcases M.2 with h0|⟨b,off,rfl,hc⟩
   ·omega
   have A:k<os.length:=by rw[Q.1];exact kD
   obtain⟨c1,c2⟩:=hc k A;have V:Hid (os.drop k=os[k] ::os.drop (k+1)):=aS A;generalize os[k] =o at c1 c2 V;clear hc M;have nS:(k:Int)<(n:Int):=eh;have X:=T.alloc T.size (γ #[ι κ o.1,ι κ o.2] 123);have Y:=uS o.1 (wr.alloc (γ #[ι κ o.1,ι κ o.2] 123));have one:(o.1<1 \/6<o.1 \/o.2<1 \/20<o.2)->Hid (qy own 0 os=1):=λhh=>by
    show _=_;rw[U.out,V.out,qy,ai hh]
   by_cases r1:o.1<1 \/6<o.1
   ·have Z:=one eh;rw[AL o.1 r1]at Y;clear one;go_wp2_with(fail);refine Y.mono ?_;rintro e w1 ⟨rfl,rfl⟩;go_wp2_with(fail);rw[Z.out,S.out];go_ret;exact⟨rfl,X⟩
   rw[D4 o.1 eh eh]at Y;by_cases r2:o.2<1
   ·have Z:=one eh;clear one;go_wp2_with(fail);refine Y.mono ?_;rintro e w1 ⟨rfl,rfl⟩;go_wp2_with(fail);rw[Z.out,S.out];go_ret;exact⟨rfl,X⟩
   by_cases r3:20<o.2
   ·have Z:=one eh;clear one;go_wp2_with(fail);refine Y.mono ?_;rintro e w1 ⟨rfl,rfl⟩;go_wp2_with(fail);rw[Z.out,S.out];go_ret;exact⟨rfl,X⟩
   have three:(o.1=own \/o.1<=h)->Hid (qy own 0 os=3):=λhh=>by
    show _=_;rw[U.out,V.out,qy,af eh,ai hh]
   clear one;cases y:(o.1==own)
   ·by_cases r5:o.1<=h
    ·have Z:=three (.inr r5);clear three;go_wp2_with(fail);refine Y.mono ?_;rintro e w1 ⟨rfl,rfl⟩;go_wp2_with(fail);rw[Z.out,J.out];go_ret;exact⟨rfl,X⟩
    ·have j:Hid (qy own 0 os=qy own o.1 (os.drop (k+1))):=by
      show _=_;have r4':¬o.1=own:=by simpa using y
      rw[U.out,V.out,qy,af eh,af eh]
     clear three;go_wp2_with(fail);refine Y.mono ?_;rintro e w1 ⟨rfl,rfl⟩
     go_wp2
     go_roundw
     case rel=>exact⟨k+1,_,eh,rfl,by go_num,j.out,X⟩
     case measure=>simp[fa];omega
   ·have Z:=three (.inl (by simpa using y));clear three;go_wp2_with(fail);refine Y.mono ?_;rintro e w1 ⟨rfl,rfl⟩;go_wp2_with(fail);rw[Z.out,J.out];go_ret;exact⟨rfl,X⟩
  ·have Z:Hid (qy own 0 os=0):=by
    show _=_;rw[U.out,a8 (by rw[Q.1];omega),qy]
   go_wp2_with(fail);rw[Z.out,u.out];go_ret;exact⟨rfl,T⟩
theorem yv(own seq:Int)(a:Option dX)(n cap:Nat)(os:List jH)(w:dY)(S:n<=1000000)(U:jg w a n os):
 eZ e7 117 #[.agg #[ι κ own,ι κ seq,σ a n cap]] w λe w'=>e=ρ (jk (oD own seq os))/\eE w w':=by
 have X:=gY w (γ #[ι κ own,ι κ seq,σ a n cap] 40);have V:Hid (jk 1=.iface 128 (ι κ 1)):=rfl;have T:Hid (jk 2=.iface 128 (ι κ 2)):=rfl;have hl:=U.1;have Y:=uS own (w.alloc (γ #[ι κ own,ι κ seq,σ a n cap] 40));have one:(own<1 \/6<own \/seq<1 \/1000000<seq)->Hid (oD own seq os=1):=λhh=>by show _=_;rw[oD,ai hh]
 by_cases r1:own<1 \/6<own
 ·have Z:=one eh;rw[AL own r1]at Y;clear one
  go_in
  go_wp2_with(fail);refine Y.mono ?_;rintro e w1 ⟨rfl,rfl⟩;go_wp2_with(fail);rw[Z.out,V.out];go_ret;exact⟨rfl,X⟩
 rw[D4 own eh eh]at Y;by_cases r2:seq<1
 ·have Z:=one eh;clear one
  go_in
  go_wp2_with(fail);refine Y.mono ?_;rintro e w1 ⟨rfl,rfl⟩;go_wp2_with(fail);rw[Z.out,V.out];go_ret;exact⟨rfl,X⟩
 by_cases r3:1000000<seq
 ·have Z:=one eh;clear one
  go_in
  go_wp2_with(fail);refine Y.mono ?_;rintro e w1 ⟨rfl,rfl⟩;go_wp2_with(fail);rw[Z.out,V.out];go_ret;exact⟨rfl,X⟩
 clear one;by_cases r4:(6:Int)<(n:Int)
 ·have Z:Hid (oD own seq os=2):=by show _=_;rw[oD,af eh,ai eh]
  go_in
  go_wp2_with(fail);refine Y.mono ?_;rintro e w1 ⟨rfl,rfl⟩;go_wp2_with(fail);rw[Z.out,T.out];go_ret;exact⟨rfl,X⟩
 ·have Z:Hid (oD own seq os=qy own 0 os):=by show _=_;rw[oD,af eh,af eh]
  have hc:=D5 own a n cap os _ S (U.below X)
  go_in
  go_wp2_with(fail);refine Y.mono ?_;rintro e w1 ⟨rfl,rfl⟩;go_wp2_with(fail);refine hc.mono ?_;rintro e w2 ⟨rfl,k2⟩;go_wp2_with(fail);rw[Z.out];go_ret;exact⟨rfl,gu X k2⟩
theorem ajS {w1:dY} {x y z:dZ} {t:TypeId} (hb:Below (w.alloc (γ #[x,y,z] t)).heap.size (w.alloc (γ #[x,y,z] t)) w1):
 w1.cell? ⟨w.heap.size,0,ν⟩=μ x/\w1.cell? ⟨w.heap.size,1,ν⟩=μ y/\w1.cell? ⟨w.heap.size,2,ν⟩=μ z/\w.heap.size<w1.heap.size:=by
 have Z:w.heap.size<(w.alloc (γ #[x,y,z] t)).heap.size:=gZ;have hA:=λj=>aq w #[x,y,z] t (0,0) j;exact⟨(hb.cell (p:=⟨w.heap.size,0,ν⟩) Z).trans (hA 0),(hb.cell (p:=⟨w.heap.size,1,ν⟩) Z).trans (hA 1),(hb.cell (p:=⟨w.heap.size,2,ν⟩) Z).trans (hA 2),Nat.lt_of_lt_of_le Z hb.size⟩
def ahead(os:List jH)(k:Nat):Int:=if k=0 then 0 else(os.getD (k-1) (0,0)).1
theorem I8(a:Int)(w:dY):eZ e7 222 #[ι κ a] w λe w'=>e=ρ (.bool false)/\w=w':=by
 have h:(a !=a)=false:=gZ
 go_in
 go_wp2
 go_ret;exact⟨rfl,rfl⟩
theorem tF(a b:Int)(w:dY):eZ e7 204 #[ι κ a,ι κ b] w λe w'=>e=ρ (ι κ (mb a b))/\w=w':=by
 by_cases Z:a<b
 ·have hv:mb a b= -1:=by simp[mb,Z]
  rw[hv];clear hv
  go_in
  go_wp2_with(go_at_call 222;refine(I8 _ _).mono ?_;rintro e w1 ⟨rfl,rfl⟩);go_ret;exact⟨rfl,rfl⟩
 ·by_cases Y:b<a
  ·have hv:mb a b=1:=by simp[mb,Z,Y]
   rw[hv];clear hv
   go_in
   go_wp2_with(go_at_call 222;refine(I8 _ _).mono ?_;rintro e w1 ⟨rfl,rfl⟩);go_ret;exact⟨rfl,rfl⟩
  ·have hv:mb a b=0:=by simp[mb,Z,Y]
   rw[hv];clear hv
   go_in
   go_wp2_with(go_at_call 222;refine(I8 _ _).mono ?_;rintro e w1 ⟨rfl,rfl⟩);go_ret;exact⟨rfl,rfl⟩
theorem abJ(g cap:Nat)(x y:Int)(w:dY)(Z:w.cell? ⟨g,0,ν⟩=μ (ι κ x))(h1:w.cell? ⟨g,1,ν⟩=μ (ι κ y)):
 eZ e7 215 #[σ (μ ⟨g,0,ν⟩) 2 cap] w λe w'=>e=ρ (ι κ (if x≠0 then x else y))/\w=w':=by
 have hg:g<w.heap.size:=ag w _ Z;cases q:(x !=0)
 ·have hx:x=0:=by simpa using q
  cases q2:(y !=0)
  ·have hy:y=0:=by simpa using q2
   have hv:(if x≠0 then x else y)=0:=by simp[hx,hy]
   rw[hv];clear hv hx hy
   go_in
   go_wp2_with(fail);refine bZ 3 ?_;rw[bR];go_wp2_with(fail);rw[bR];go_wp2_with(fail);rw[bR]
   go_wp2
   go_ret;exact⟨rfl,rfl⟩
  ·have hv:(if x≠0 then x else y)=y:=by simp[hx]
   rw[hv];clear hv hx
   go_in
   go_wp2_with(fail);refine bZ 3 ?_;rw[bR];go_wp2_with(fail);rw[bR]
   go_wp2
   go_ret;exact⟨rfl,rfl⟩
 ·have hx:¬x=0:=by simpa using q
  have hv:(if x≠0 then x else y)=x:=by simp[hx]
  rw[hv];clear hv hx
  go_in
  go_wp2_with(fail);refine bZ 3 ?_;rw[bR]
  go_wp2
  go_ret;exact⟨rfl,rfl⟩
theorem O8(W:dY)(x y:dZ)(t:TypeId)(g:Nat)(Z:W.heap.size=g):(W.alloc (γ #[x,y] t)).drew.cell? ⟨g,0,ν⟩=μ x/\(W.alloc (γ #[x,y] t)).drew.cell? ⟨g,1,ν⟩=μ y:=by
 subst Z;exact⟨aq W #[x,y] t (0,0) 0,aq W #[x,y] t (0,0) 1⟩
theorem Uc(a b c d:Int)(w:dY):eZ e7 214 #[.agg #[ι κ a,ι κ b],.agg #[ι κ c,ι κ d]] w λe w'=>e=ρ (ι κ (yt (a,b) (c,d)))/\eE w w':=by
 have M:eE w ((w.alloc (γ #[ι κ a,ι κ b] 123)).alloc (γ #[ι κ c,ι κ d] 123)):=(gY _ _).alloc gZ _;obtain⟨p,S⟩:=gq (mb a c);obtain⟨q,Q⟩:=gq (mb b d);have hv:yt (a,b) (c,d)=if p≠0 then p else q:=by simp[yt,S,Q]
 have U:=λ(g cap:Nat) (W:dY) A V=>abJ g cap p q W A V;rw[hv];generalize (if p≠0 then p else q)=r at U;have D:Hid _:=U;clear U;have V:=λW=>tF a c W;have H:=λW=>tF b d W;rw[S]at V;rw[Q]at H;clear hv S Q
 go_in
 go_wp2_with(fail);obtain⟨Z,Y⟩:=gq ((w.alloc (γ #[ι κ a,ι κ b] 123)).alloc (γ #[ι κ c,ι κ d] 123));have hs:Z.heap.size=w.heap.size+1+1:=by rw[<-Y];simp
 have x0:Z.cell? ⟨w.heap.size,0,ν⟩=μ (ι κ a):=by rw[<-Y];exact((gY _ _).cell (p:=⟨w.heap.size,0,ν⟩) gZ).trans (aq w #[ι κ a,ι κ b] 123 (0,0) 0)
 have x1:Z.cell? ⟨w.heap.size,1,ν⟩=μ (ι κ b):=by rw[<-Y];exact((gY _ _).cell (p:=⟨w.heap.size,1,ν⟩) gZ).trans (aq w #[ι κ a,ι κ b] 123 (0,0) 1)
 have J:Z.cell? ⟨w.heap.size+1,0,ν⟩=μ (ι κ c):=by rw[<-Y];simp
 have G:Z.cell? ⟨w.heap.size+1,1,ν⟩=μ (ι κ d):=by rw[<-Y];simp
 have y:w.heap.size<Z.heap.size:=ag Z _ x0;have u:w.heap.size+1<Z.heap.size:=ag Z _ J;rw[Y]at M⊢;have HS:Hid _:=hs;clear Y hs;obtain⟨X,T⟩:=gq (w.heap.size);have HX:Hid _:=T;rw[T]at x0 x1 J G y u⊢;clear T;have E:Z.drew.cell? ⟨X,0,ν⟩=μ (ι κ a)/\Z.drew.cell? ⟨X,1,ν⟩=μ (ι κ b)/\Z.drew.cell? ⟨X+1,0,ν⟩=μ (ι κ c)/\Z.drew.cell? ⟨X+1,1,ν⟩=μ (ι κ d):=⟨x0,x1,J,G⟩
 go_region_held3(λx=>x.cell? ⟨X,0,ν⟩=μ (ι κ a)/\x.cell? ⟨X,1,ν⟩=μ (ι κ b)/\x.cell? ⟨X+1,0,ν⟩=μ (ι κ c)/\x.cell? ⟨X+1,1,ν⟩=μ (ι κ d))
  (first|assumption|exact E|go_keep)
  (first
   |(go_at_call_of 204 a;refine(V _).mono ?_;rintro e w1 ⟨rfl,rfl⟩)
   |(go_at_call_of 204 b;refine(H _).mono ?_;rintro e w1 ⟨rfl,rfl⟩)
   |(go_at_call 215;refine(D.out _ _ _ (O8 _ _ _ _ _ (by rfl)).1 (O8 _ _ _ _ _ (by rfl)).2).mono ?_;rintro e w1 ⟨rfl,rfl⟩))
 all_goals
  go_wp2
  go_ret;exact⟨rfl,below_drewN (M.alloc M.size _) 1⟩
theorem CU(a b:Option dX)(n m ca y:Nat)(es fs:List jH)(w:dY)(E:jg w a n es)(hb:jg w b m fs)(hn:n<=1000000):
 eZ e7 213 #[σ a n ca,σ b m y,.func (.func 214) #[] #[]] w λe w'=>e=ρ (ι κ (mr es fs))/\eE w w':=by
 have hla:=E.1;have QO:=hb.1
 go_in
 go_wp2
 go_loopw [13] (λi wr=>∃k:Nat,k<=n/\k<=m/\i=ι κ k/\mr es fs=mr (es.drop k) (fs.drop k)/\eE w wr) (λi _=>n-(fa i).toNat)
 case atStart=>exact⟨0,Nat.zero_le _,Nat.zero_le _,rfl,rfl,au _ _⟩
 case round=>
  obtain⟨k,hk,MZ,rfl,H,X⟩:=hrel;have V:Hid _:=H;clear H;by_cases kD:k<n
  ·have nS:(k:Int)<(n:Int):=eh;rcases(E.below X).2 with u|⟨b1,o1,rfl,hA⟩
   ·omega
   obtain⟨c1,c2⟩:=hA k eh;have Y:Hid (es.drop k=es[k]'(by omega)::es.drop (k+1)):=aS eh;generalize es[k]'(by omega)=o at c1 c2 Y;clear hA;have U:=X.alloc X.size (γ #[ι κ o.1,ι κ o.2] 123);by_cases hlm:k<m
   ·have S:¬(m:Int)<=(k:Int):=eh;have aps:(k:Int)<(m:Int):=eh;rcases(hb.below U).2 with u|⟨b2,o2,rfl,G⟩
    ·omega
    obtain⟨c3,c4⟩:=G k eh;have J:Hid (fs.drop k=fs[k]'(by omega)::fs.drop (k+1)):=aS eh;generalize fs[k]'(by omega)=q at c3 c4 J;clear G;have A:=U.alloc U.size (γ #[ι κ q.1,ι κ q.2] 123);have hc:=λW=>Uc o.1 o.2 q.1 q.2 W;have Z:Hid (mr es fs=if yt (o.1,o.2) (q.1,q.2)≠0 then yt (o.1,o.2) (q.1,q.2)else mr (es.drop (k+1)) (fs.drop (k+1))):=by
     show _=_;rw[V.out,Y.out,J.out,mr]
    generalize yt (o.1,o.2) (q.1,q.2)=r at hc Z;cases D:(r !=0)
    ·have M:Hid (mr es fs=mr (es.drop (k+1)) (fs.drop (k+1))):=by
      show _=_;have T:r=0:=by simpa using D
      rw[Z.out,T];simp
     go_wp2_with(fail);refine(hc _).mono ?_;rintro e w1 ⟨rfl,k1⟩;have Q:=gu A k1;clear hc
     go_wp2
     go_roundw
     case rel=>exact⟨k+1,eh,eh,by go_num,M.out,Q⟩
     case measure=>simp[fa];omega
    ·have M:Hid (mr es fs=r):=by
      show _=_;have T:¬r=0:=by simpa using D
      rw[Z.out,ai T]
     go_wp2_with(fail);refine(hc _).mono ?_;rintro e w1 ⟨rfl,k1⟩;have Q:=gu A k1;clear hc;go_wp2_with(fail);rw[M.out];go_ret;exact⟨rfl,Q⟩
   ·have S:(m:Int)<=(k:Int):=eh;have Z:Hid (mr es fs=1):=by
     show _=_;rw[V.out,Y.out,a8 (show fs.length<=k by omega),mr]
    go_wp2_with(fail);rw[Z.out];go_ret;exact⟨rfl,U⟩
  ·have xZ:¬(k:Int)<(n:Int):=eh;have Y:es.drop k=[] :=a8 eh;by_cases O9:(n:Int)<(m:Int)
   ·have Z:Hid (mr es fs= -1):=by
     show _=_;rw[V.out,Y,aS (show k<fs.length by omega),mr]
    clear Y;go_wp2_with(fail);rw[Z.out];go_ret;exact⟨rfl,X⟩
   ·have Z:Hid (mr es fs=0):=by
     show _=_;rw[V.out,Y,a8 (show fs.length<=k by omega),mr]
    clear Y;go_wp2_with(fail);rw[Z.out];go_ret;exact⟨rfl,X⟩
theorem Hf(o1 s1 o2 s2:Int)(a b:Option dX)(n m ca X:Nat)(es fs:List jH)(w:dY)(S:jg w a n es)(hb:jg w b m fs)(Q:n<=1000000):
 eZ e7 189 #[.agg #[ι κ o1,ι κ s1,σ a n ca],.agg #[ι κ o2,ι κ s2,σ b m X]] w λe w'=>e=ρ (ι κ (l5 s1 es s2 fs))/\eE w w':=by
 have T:eE w ((w.alloc (γ #[ι κ o1,ι κ s1,σ a n ca] 40)).alloc (γ #[ι κ o2,ι κ s2,σ b m X] 40)):=(gY _ _).alloc gZ _;have Y:=tF s1 s2 ((w.alloc (γ #[ι κ o1,ι κ s1,σ a n ca] 40)).alloc (γ #[ι κ o2,ι κ s2,σ b m X] 40));have V:=CU a b n m ca X es fs _ (S.below T) (hb.below T) Q;have hv:l5 s1 es s2 fs=if mb s1 s2≠0 then mb s1 s2 else mr es fs:=rfl
 rw[hv];clear hv;generalize mr es fs=q at V;generalize mb s1 s2=r at Y;cases U:(r !=0)
 ·have Z:(if r≠0 then r else q)=q:=by simp at U;simp[U]
  rw[Z];clear Z
  go_in
  go_wp2_with(fail);refine Y.mono ?_;rintro e w1 ⟨rfl,rfl⟩;clear Y;go_wp2_with(fail);refine V.mono ?_;rintro e w2 ⟨rfl,k2⟩;clear V
  go_wp2
  go_ret;exact⟨rfl,gu T k2⟩
 ·have Z:(if r≠0 then r else q)=r:=by simp at U;simp[U]
  rw[Z];clear Z V
  go_in
  go_wp2_with(fail);refine Y.mono ?_;rintro e w1 ⟨rfl,rfl⟩;clear Y
  go_wp2
  go_ret;exact⟨rfl,T⟩
theorem Ky(a:dX)(n cap:Nat)(w:dY):(binOp .eql 38 (σ (μ a) n cap) (σ ν 0 0)).run e7 w=.ok (.bool false) w:=gX
theorem Yf(w:dY):(binOp .eql 38 (σ ν 0 0) (σ ν 0 0)).run e7 w=.ok (.bool true) w:=gX
theorem BV(a:dX)(cap:Nat)(w:dY):
 eZ e7 206 #[σ (μ a) 0 cap] w λe w'=>∃(v:dZ),e=ρ v/\Made w w' v [] :=by
 have hq:=Ky
 go_in
 go_wp2
 go_ret;exact⟨_,rfl,⟨Row.made w 2 _ #[] (0,0) 0 0 [] rfl rfl (Nat.le_refl _) eA (.inl rfl) gZ,λj Z=>kH (Nat.le_refl _) Z,gY _ _⟩⟩
theorem M3(w:dY):
 eZ e7 206 #[σ ν 0 0] w λe w'=>∃(v:dZ),e=ρ v/\Made w w' v [] :=by
 have hq:=Yf
 go_in
 go_wp2
 go_ret;exact⟨_,rfl,⟨Row.nil w 2,λj Z=>m9 Z,au _ _⟩⟩
theorem Kz(b off n cap:Nat)(os:List jH)(w:dY)(hn:n<=1000000)(T:0<n)(Y:jg w (μ ⟨b,off,ν⟩) n os):
 eZ e7 206 #[σ (μ ⟨b,off,ν⟩) n cap] w λe w'=>∃(v:dZ),e=ρ v/\Made w w' v os:=by
 obtain⟨i0,hi,E,G,J⟩:=aX zr;have hq:=Ky;have U:eE w (w.alloc (γ #[] 123)):=gY _ _;have hl:=Y.1;have S:Row (w.alloc (γ #[] 123)) 2 (σ (μ ⟨w.heap.size,0,ν⟩) 0 0) 0 [] :=Row.made w 2 _ #[] (0,0) 0 0 [] rfl rfl (Nat.le_refl _) eA (.inl rfl) gZ
 go_in
 go_wp2_with(at_builtin;go_must(refine iI _ rfl (.tmp 5) (.tmp 6) 38 rfl 123 i0 (.agg #[ι κ 0,ι κ 0]) 2 16 underlying38 hi E G J rfl eA (σ (μ ⟨w.heap.size,0,ν⟩) 0 0) 0 [] rfl S _ n cap (iV os) rfl (by rw[ln];omega) T ((Y.below U).cells T) (Km _) (by unfold maxLen;omega) eh ?_));intro g1 CQ w1 M V X;have Q:=l9 U V (λj Z=>kH (Nat.le_refl _) Z);have H:=nW (B:=w.heap.size) X eh (λj Z=>kH (Nat.le_refl _) Z);clear V X
 go_wp2
 go_ret;refine⟨_,rfl,⟨?_,λj Z=>kH H Z,Q⟩⟩;rw[hl];exact M
theorem M4(a:Option dX)(n cap:Nat)(os:List jH)(w:dY)(V:n<=1000000)(U:kN a cap)(Z:jg w a n os):
 eZ e7 206 #[σ a n cap] w λe w'=>∃(v:dZ),e=ρ v/\Made w w' v os:=by
 rcases Z.2 with X|⟨b,off,rfl,hc⟩
 ·subst X;have Y:os=[] :=aH Z.1;subst Y;cases a with
  |none=>
   obtain rfl:=U rfl;exact M3 w
  |some a=>exact BV a cap w
 ·by_cases T:0<n
  ·exact Kz b off n cap os w V T Z
  ·have X:n=0:=eh;subst X;have Y:os=[] :=aH Z.1;subst Y;exact BV _ cap w
structure Ud(w w':dY)(e:Ending)(own seq:Int)(os:List jH):Prop where
 out:∃(a:Option dX) (cap:Nat),e=ρ (.agg #[ι κ own,ι κ seq,σ a os.length cap])/\jg w' a os.length os/\kN a cap/\os.length<=cap/\(∀j,eu (σ a os.length cap)=μ j->w.heap.size<=j/\j<w'.heap.size)
 below:eE w w'
theorem D6(own seq:Int)(a:Option dX)(n cap:Nat)(os:List jH)(w:dY)(hn:n<=1000000)(kr:kN a cap)(ho:jg w a n os):
 eZ e7 169 #[.agg #[ι κ own,ι κ seq,σ a n cap]] w λe w'=>Ud w w' e own seq os:=by
 have hz:=pQ;have H:eE w ((w.alloc (γ #[ι κ own,ι κ seq,σ a n cap] 40)).alloc (γ #[ι κ 0,ι κ 0,σ ν 0 0] 40)):=(gY _ _).alloc gZ _;obtain⟨M,S⟩:=gq ((w.alloc (γ #[ι κ own,ι κ seq,σ a n cap] 40)).alloc (γ #[ι κ 0,ι κ 0,σ ν 0 0] 40));have X:M.heap[w.heap.size]? =μ (γ #[ι κ own,ι κ seq,σ a n cap] 40 (0,0)):=by
  rw[<-S,aU _ _ _ gZ];exact aY w _
 have Y:M.heap[w.heap.size+1]? =μ (γ #[ι κ 0,ι κ 0,σ ν 0 0] 40 (0,0)):=by
  have h:=aY (w.alloc (γ #[ι κ own,ι κ seq,σ a n cap] 40)) (γ #[ι κ 0,ι κ 0,σ ν 0 0] 40);rw[S]at h;simpa using h
 rw[S]at H;have qW:=M4 a n cap os M hn kr (ho.below H);have HW:Hid _:=S;clear S
 go_in
 go_wp2_with(fail);rw[HW.out];refine qW.mono ?_;rintro e w1 ⟨v,rfl,V⟩;clear qW;obtain⟨Q,vc,rfl,vn,vl⟩:=V.shape;have k1:=V.below;have T:=(k1.block _ (ax.1 X).1).trans X;have Z:=(k1.block _ (ax.1 Y).1).trans Y;have x0:w1.cell? ⟨w.heap.size,0,ν⟩=μ (ι κ own):=aw w1 _ 0 _ _ (0,0) T;have x1:w1.cell? ⟨w.heap.size,1,ν⟩=μ (ι κ seq):=aw w1 _ 1 _ _ (0,0) T;have x2:w1.cell? ⟨w.heap.size,2,ν⟩=μ (σ a n cap):=aw w1 _ 2 _ _ (0,0) T;have y0:w1.cell? ⟨w.heap.size+1,0,ν⟩=μ (ι κ 0):=aw w1 _ 0 _ _ (0,0) Z;have y1:w1.cell? ⟨w.heap.size+1,1,ν⟩=μ (ι κ 0):=aw w1 _ 1 _ _ (0,0) Z;have y2:w1.cell? ⟨w.heap.size+1,2,ν⟩=μ (σ ν 0 0):=aw w1 _ 2 _ _ (0,0) Z;have fx:=λj=>bB w1 w.heap.size j _ _ T;have fy:=λj=>bB w1 (w.heap.size+1) j _ _ Z;have lx:w.heap.size<w1.heap.size:=ag w1 _ x0;have ly:w.heap.size+1<w1.heap.size:=ag w1 _ y0;have D:=gu H k1;have J:∀j,eu (σ Q os.length vc)=μ j->w.heap.size+2<=j:=λj U=>by
  have h1:=V.new j U;have h2:w.heap.size+1<M.heap.size:=(ax.1 Y).1;omega
 have A:∀j,eu (σ Q os.length vc)=μ j->j<w1.heap.size:=V.row.lt;have G:=V.opts.2;have HC:Hid (∀u v x y:dZ,Ud w ((((w1.setCell ⟨w.heap.size,2,ν⟩ u).setCell ⟨w.heap.size+1,0,ν⟩ v).setCell ⟨w.heap.size+1,1,ν⟩ x).setCell ⟨w.heap.size+1,2,ν⟩ y) (ρ (.agg #[ι κ own,ι κ seq,σ Q os.length vc])) own seq os):=by
  intro u v x y;refine⟨⟨Q,vc,rfl,?_,vn,vl,λj U=>⟨by have:=J j U;omega,by simpa using A j U⟩⟩,(((D.setCell (Nat.le_refl _) _).setCell (by show _<=w.heap.size+1;omega) _).setCell (by show _<=w.heap.size+1;omega) _).setCell (by show _<=w.heap.size+1;omega) _⟩;refine⟨rfl,?_⟩;rcases G.2 with h0|⟨b,off,rfl,hc⟩
  ·exact .inl h0
  ·refine .inr ⟨b,off,rfl,λj U=> ?_⟩;have hb:w.heap.size+2<=b:=J b rfl;have E:∀o,((((w1.setCell ⟨w.heap.size,2,ν⟩ u).setCell ⟨w.heap.size+1,0,ν⟩ v).setCell ⟨w.heap.size+1,1,ν⟩ x).setCell ⟨w.heap.size+1,2,ν⟩ y).cell? ⟨b,o,ν⟩=w1.cell? ⟨b,o,ν⟩:=λo=>by
    apply aj;rw[ak _ _ _ _ (by show b≠w.heap.size+1;omega),ak _ _ _ _ (by show b≠w.heap.size+1;omega),ak _ _ _ _ (by show b≠w.heap.size+1;omega),ak _ _ _ _ (by show b≠w.heap.size;omega)]
   rw[E,E];exact hc j U
 clear V k1 T Z J A G D X Y;go_wp2_with(fail);refine aE (v:=.agg #[ι κ own,ι κ seq,σ Q os.length vc]) (by simp[results,results169,go_sem,y0,y1,y2]) rfl ?_;exact HC.out _ _ _ _
open Go.Maps (Keyed)
open Go.ChangeMaps Go.MapKept
open Go.WideElems (Fit)
structure SV where
 own:Int
 seq:Int
 a:Option dX
 n:Nat
 cap:Nat
def SV.v(s:SV):dZ:=.agg #[ι κ s.own,ι κ s.seq,σ s.a s.n s.cap]
def SV.zero:SV:=⟨0,0,ν,0,0⟩
def abL:dZ->Option SV
 | .agg cs=>(match cs.toList with
   |[.int .i64 o,.int .i64 q,.slice a n c] =>some ⟨o,q,a,n,c⟩
   |_=>none)
 |_=>none
theorem Ue {v:dZ} {s:SV} (h:abL v=μ s):v=s.v:=by
 unfold abL at h;split at h
 ·rename_i cs
  split at h
  ·rename_i o q a n c e
   obtain rfl:=Option.some.inj h;have:cs= #[ι κ o,ι κ q,σ a n c] :=by
    apply dE.1;simpa using e
   rw[this];rfl
  ·cases h
 ·cases h
def tG(v:dZ):Option (DataW SV×List MemPlace):=(abL v).map λs=>(.held s,[])
theorem zu(s:SV):tG s.v=μ (.held s,[]):=rfl
theorem xr {v:dZ} {y:DataW SV×List MemPlace} (h:tG v=μ y):∃s,v=s.v/\y=(.held s,[]):=by
 unfold tG at h;obtain⟨s,hs,rfl⟩:=Option.map_eq_some_iff.1 h;exact⟨s,Ue hs,rfl⟩
theorem uT:Keyed e7 3:=Go.Maps.int_keyed underlying3
theorem KA(w:dY):(zeroValue 40).run e7 w=.ok SV.zero.v w:=gX
def sJ(k:Int):Prop:= -9223372036854775808<=k/\k<=9223372036854775807
theorem D7(h:sJ k):keyOf e7 3 (.int .i64 k)=μ (.int .i64 k):=by
 refine Go.Maps.keyOf_int_mk underlying3 ?_;exact WalkArith.wf_i64 (by obtain⟨h1,h2⟩:=h;omega)
structure SMap(w:dY)(b n:Nat)(f:Int->Option SV):Prop where
 own:∃D:DataW SV,w.ownsMap e7 3 tG b n D/\∀k,sJ k->match f k with
  |none=>∀z,D.atKey (.int .i64 k) z=z
  |some s=>∀z,D.atKey (.int .i64 k) z=.held s
theorem SMap.made(w:dY):SMap (w.alloc (.map #[] 0)) w.heap.size 0 (λ_=>ν):=
 ⟨⟨.map [],World.ownsMap_made w _ _ _,λ_ _ _=>rfl⟩⟩
theorem SMap.lt {w:dY} {b n:Nat} {f:Int->Option SV} (h:SMap w b n f):b<w.heap.size:=by obtain⟨D,Z,_⟩:=h.own;exact Z.lt
theorem SMap.mono {w:dY} {b n m:Nat} {f:Int->Option SV} (h:SMap w b n f)(X:n<=m):SMap w b m f:=by obtain⟨D,Z,Y⟩:=h.own;exact⟨⟨D,Z.mono X,Y⟩⟩
theorem SMap.kept {w w':dY} {b n:Nat} {f:Int->Option SV} {row:Option Nat} (h:SMap w b n f)(X:w.grownBy w' row)(V:μ b≠row):SMap w' b n f:=by obtain⟨D,Z,Y⟩:=h.own;exact⟨⟨D,Z.kept X V,Y⟩⟩
theorem SMap.keep {f:Int->Option SV} (h:SMap w b n f)(hb:w'.heap[b]? =w.heap[b]?):SMap w' b n f:=by
 obtain⟨D,⟨es,clock,Z,X⟩,Y⟩:=h.own;exact⟨⟨D,⟨es,clock,hb.trans Z,X⟩,Y⟩⟩
theorem SMap.below {f:Int->Option SV} (h:SMap w b n f)(hb:eE w w'):SMap w' b n f:=h.keep (hb.block b h.lt)
theorem SMap.drew {w:dY} {b n:Nat} {f:Int->Option SV} (h:SMap w b n f):SMap w.drew b n f:=h.keep rfl
theorem SMap.alloc {w:dY} {b n:Nat} {f:Int->Option SV} (h:SMap w b n f)(o:Obj):SMap (w.alloc o) b n f:=h.below (gY _ _)
theorem I9(h:x≠k):(Lit.int .i64 x)≠ .int .i64 k:=λe=>h (by simpa using e)
theorem Yg(k:Int)(h:sJ k):WideAt.IsKeyLit (.int .i64 k):=uT.key (D7 h)
theorem SMap.store {w:dY} {b n:Nat} {f:Int->Option SV} (h:SMap w b n f)(U:n<maxLen)(k:Int)(Y:sJ k)(s:SV):
 ∃w',(fh 211 (.map (μ b)) (ι κ k) s.v).run e7 w=.ok () w'/\SMap w' b (n+1) (λx=>if x=k then μ s else f x)/\w.mapTurned w' b:=by
 obtain⟨D,Z,X⟩:=h.own;obtain⟨w',S,T,Q⟩:=Z.store uT underlying211 U (D7 Y) (zu s);refine⟨w',S,⟨⟨_,T,λx hx=> ?_⟩⟩,Q⟩;have V:=Z.isMap;by_cases e:x=k
 ·subst e;simp only[if_true];exact λz=>Maps.atKey_put_same V (Yg x Y) _ z
 ·rw[af e];have:=X x hx;cases hf:f x with
  |none=>rw[hf]at this;exact λz=>(fj (I9 e) _ z).trans (this z)
  |some s'=>rw[hf]at this;exact λz=>(fj (I9 e) _ z).trans (this z)
theorem SMap.look {f:Int->Option SV} (h:SMap w b n f)(k:Int)(Z:sJ k):
 (fq 211 (.map (μ b)) (ι κ k) false).run e7 w=.ok ((f k).getD SV.zero).v w:=by
 obtain⟨D,Y,X⟩:=h.own;obtain⟨v,ps,V,hv⟩:=Y.lookup uT underlying211 (KA w) (zu SV.zero) (D7 Z);rw[V];obtain⟨s,rfl,e⟩:=xr hv;have hx:=X k Z;simp only[fe]at e;cases hf:f k with
 |none=>
  rw[hf]at hx;rw[hx]at e;have:SV.zero=s:=by simpa using e.1
  rw[<-this];rfl
 |some s'=>
  rw[hf]at hx;rw[hx]at e;have:s'=s:=by simpa using e.1
  rw[this];rfl
theorem SMap.look_ok {w:dY} {b n:Nat} {f:Int->Option SV} (h:SMap w b n f)(k:Int)(Z:sJ k):
 (fq 211 (.map (μ b)) (ι κ k) true).run e7 w=.ok (τ #[((f k).getD SV.zero).v,.bool (f k).isSome]) w:=by
 obtain⟨D,Y,X⟩:=h.own;obtain⟨v,ps,V,hv⟩:=Y.look_ok uT underlying211 (KA w) (zu SV.zero) (D7 Z);rw[V];obtain⟨s,rfl,e⟩:=xr hv;have hx:=X k Z;simp only[fe]at e;cases hf:f k with
 |none=>
  rw[hf]at hx;rw[hx]at e;have:SV.zero=s:=by simpa using e.1
  rw[<-this,dK hx];rfl
 |some s'=>
  rw[hf]at hx;rw[hx]at e;have:s'=s:=by simpa using e.1
  rw[this,dM hx];rfl
theorem SMap.drop {w:dY} {b n:Nat} {f:Int->Option SV} (h:SMap w b n f)(k:Int)(X:sJ k)(ty:TypeId):
 ∃w',(Builtin.delete_ #[211,3] ty #[.map (μ b),ι κ k]).run e7 w=.ok (τ #[]) w'/\SMap w' b n (λx=>if x=k then ν else f x)/\w.mapTurned w' b:=by
 obtain⟨D,Z,Y⟩:=h.own;obtain⟨w',U,V,T⟩:=Z.drop uT underlying211 (D7 X) ty;refine⟨w',U,⟨⟨_,V,λx hx=> ?_⟩⟩,T⟩;by_cases e:x=k
 ·subst e;simp only[if_true];exact λz=>Maps.atKey_del_same z
 ·rw[af e];have:=Y x hx;cases hf:f x with
  |none=>rw[hf]at this;exact λz=>(ft (I9 e) z).trans (this z)
  |some s'=>rw[hf]at this;exact λz=>(ft (I9 e) z).trans (this z)
theorem SMap.clear {f:Int->Option SV} (h:SMap w b n f)(ty:TypeId):
 ∃w',(fA #[211] ty #[.map (μ b)]).run e7 w=.ok (τ #[]) w'/\SMap w' b n (λ_=>ν)/\w.mapTurned w' b:=by
 obtain⟨D,⟨es,clock,hb,F,hs,hD⟩,h2⟩:=h.own;refine⟨setBlock w b (.map #[] clock),?_,⟨⟨.map [],⟨#[],clock,heap_setBlock_same hb _,⟨gZ,?_,gZ⟩,gZ,rfl⟩,λ_ _ _=>rfl⟩⟩,⟨es,clock,#[],clock,hb,rfl⟩⟩
 ·simp[fA,run_underlying underlying211,MapKept.run_getObj_map hb,MapKept.run_setObj_map _ hb,Result.andThen,setBlock]
 ·exact stamped_empty clock
open Go.ChangeShapes Go.WideShapes Go.ChangeAt
theorem AO(own seq:Int)(a:Option dX)(n cap:Nat)(os:List jH)(w:dY)(S:n<=maxLen)(U:jg w a n os):
 eZ e7 117 #[.agg #[ι κ own,ι κ seq,σ a n cap]] w λe w'=>e=ρ (jk (oD own seq os))/\eE w w':=by
 by_cases h6:n<=6
 ·exact yv own seq a n cap os w eh U
 unfold maxLen at S;have X:=gY w (γ #[ι κ own,ι κ seq,σ a n cap] 40);have V:Hid (jk 1=.iface 128 (ι κ 1)):=rfl;have T:Hid (jk 2=.iface 128 (ι κ 2)):=rfl;have hl:=U.1;have Y:=uS own (w.alloc (γ #[ι κ own,ι κ seq,σ a n cap] 40));have one:(own<1 \/6<own \/seq<1 \/1000000<seq)->Hid (oD own seq os=1):=λhh=>by show _=_;rw[oD,ai hh]
 by_cases r1:own<1 \/6<own
 ·have Z:=one eh;rw[AL own r1]at Y;clear one
  go_in
  go_wp2_with(fail);refine Y.mono ?_;rintro e w1 ⟨rfl,rfl⟩;go_wp2_with(fail);rw[Z.out,V.out];go_ret;exact⟨rfl,X⟩
 rw[D4 own eh eh]at Y;by_cases r2:seq<1
 ·have Z:=one eh;clear one
  go_in
  go_wp2_with(fail);refine Y.mono ?_;rintro e w1 ⟨rfl,rfl⟩;go_wp2_with(fail);rw[Z.out,V.out];go_ret;exact⟨rfl,X⟩
 by_cases r3:1000000<seq
 ·have Z:=one eh;clear one
  go_in
  go_wp2_with(fail);refine Y.mono ?_;rintro e w1 ⟨rfl,rfl⟩;go_wp2_with(fail);rw[Z.out,V.out];go_ret;exact⟨rfl,X⟩
 clear one;have r4:(6:Int)<(n:Int):=eh;have Z:Hid (oD own seq os=2):=by show _=_;rw[oD,af eh,ai eh]
 go_in
 go_wp2_with(fail);refine Y.mono ?_;rintro e w1 ⟨rfl,rfl⟩;go_wp2_with(fail);rw[Z.out,T.out];go_ret;exact⟨rfl,X⟩
structure FM where
 bm:Nat
 g:Nat
 cap:Nat
 bs:List Nat
 no:Nat->Prop:=λ_=>False
def FM.sl(m:FM):dZ:=σ (μ ⟨m.g,0,ν⟩) m.bs.length m.cap
def FM.row(m:FM):List dZ:=m.bs.map λb=>Value.map (μ b)
structure FB(w:dY)(B:Nat)(m:FM)(n:Nat)(kn:Int->Option SV)(ow:Nat->Int->Option SV):Prop where
 oh:w.heap[B]? =μ (γ #[.map (μ m.bm),m.sl] 214 (0,0))
 row:Row w 1 m.sl m.bs.length m.row
 km:SMap w m.bm n kn
 om:∀i b,m.bs[i]? =μ b->SMap w b n (ow i)
 few:m.bs.length<=3
 nB:m.bm≠B/\m.g≠B/\m.bm≠m.g/\(∀b∈m.bs,b≠B/\b≠m.g/\b≠m.bm)
 nd:m.bs.Nodup
theorem FB.lt {m:FM} {kn:Int->Option SV} {ow:Nat->Int->Option SV} (h:FB w B m n kn ow):B<w.heap.size:=(ax.1 h.oh).1
theorem FB.c0 {m:FM} {kn:Int->Option SV} {ow:Nat->Int->Option SV} (h:FB w B m n kn ow):w.cell? ⟨B,0,ν⟩=μ (.map (μ m.bm)):=aw w B 0 _ _ (0,0) h.oh
theorem FB.c1 {m:FM} {kn:Int->Option SV} {ow:Nat->Int->Option SV} (h:FB w B m n kn ow):w.cell? ⟨B,1,ν⟩=μ m.sl:=aw w B 1 _ _ (0,0) h.oh
theorem FB.below {w w':dY} {B:Nat} {m:FM} {n:Nat} {kn:Int->Option SV} {ow:Nat->Int->Option SV} (h:FB w B m n kn ow)(hb:eE w w'):FB w' B m n kn ow:=
 ⟨(hb.block B h.lt).trans h.oh,h.row.below hb,h.km.below hb,λi b e=>(h.om i b e).below hb,h.few,h.nB,h.nd⟩
theorem FB.port {m:FM} {kn:Int->Option SV} {ow:Nat->Int->Option SV} (h:FB w B m n kn ow)(i:Nat)(b:Nat)(e:m.bs[i]? =μ b):w.cell? ⟨m.g,i,ν⟩=μ (.map (μ b)):=by
 refine Row.cell h.row i _ ?_;unfold FM.row;rw[cE,e];rfl
theorem Dl(B:Nat)(m:FM)(n:Nat)(kn:Int->Option SV)(ow:Nat->Int->Option SV)(port:Int)(w:dY)(h:FB w B m n kn ow):
 eZ e7 176 #[π (μ ⟨B,0,ν⟩),ι κ port] w λe w'=>e=ρ (.bool (decide (0<=port)&&decide (port<(m.bs.length:Int))))/\w=w':=by
 have hl:=h.lt;have c1:w.cell? ⟨B,1,ν⟩=μ (σ (μ ⟨m.g,0,ν⟩) m.bs.length m.cap):=h.c1;have hf:=h.few;by_cases Z:0<=port
 ·by_cases Y:port<(m.bs.length:Int)
  ·have hv:(decide (0<=port)&&decide (port<(m.bs.length:Int)))=true:=by simp[Z,Y]
   rw[hv];clear hv h
   go_in
   go_wp2
   go_ret;exact⟨by first|rfl|(simp;omega),rfl⟩
  ·have hv:(decide (0<=port)&&decide (port<(m.bs.length:Int)))=false:=by simp[Y]
   rw[hv];clear hv h
   go_in
   go_wp2
   go_ret;exact⟨by first|rfl|(simp;omega),rfl⟩
 ·have hv:(decide (0<=port)&&decide (port<(m.bs.length:Int)))=false:=by simp[Z]
  rw[hv];clear hv h
  go_in
  go_wp2
  go_ret;exact⟨by first|rfl|(simp;omega),rfl⟩
def wa(afe:Nat)(port own seq:Int)(es:List jH):Nat:=if 0<=port/\port<(afe:Int)then oD own seq es else 1
theorem qO(B:Nat)(m:FM)(k:Nat)(kn:Int->Option SV)(ow:Nat->Int->Option SV)(port own seq:Int)(a:Option dX)(n cap:Nat)(es:List jH)(w:dY)(h:FB w B m k kn ow)(V:n<=maxLen)(U:jg w a n es):
 eZ e7 216 #[π (μ ⟨B,0,ν⟩),ι κ port,.agg #[ι κ own,ι κ seq,σ a n cap]] w λe w'=>e=ρ (jk (wa m.bs.length port own seq es))/\eE w w':=by
 have Z:=gY w (γ #[ι κ own,ι κ seq,σ a n cap] 40);have hh:=Dl B m k kn ow port _ (h.below Z);have hc:=AO own seq a n cap es _ V (U.below Z);have X:Hid (jk 1=.iface 128 (ι κ 1)):=rfl;by_cases Y:0<=port/\port<(m.bs.length:Int)
 ·have hv:(decide (0<=port)&&decide (port<(m.bs.length:Int)))=true:=by simp[Y.1,Y.2]
  have hf:wa m.bs.length port own seq es=oD own seq es:=by rw[wa,ai Y]
  rw[hv]at hh;rw[hf];clear hv hf h
  go_in
  go_wp2_with(fail);refine hh.mono ?_;rintro e w1 ⟨rfl,rfl⟩;go_wp2_with(fail);refine hc.mono ?_;rintro e w2 ⟨rfl,k2⟩
  go_wp2
  go_ret;exact⟨rfl,gu Z k2⟩
 ·have hv:(decide (0<=port)&&decide (port<(m.bs.length:Int)))=false:=by
   simp only[Bool.and_eq_false_iff,decide_eq_false_iff_not];omega
  have hf:Hid (wa m.bs.length port own seq es=1):=by show _=_;rw[wa,af Y]
  rw[hv]at hh;clear hv h
  go_in
  go_wp2_with(fail);refine hh.mono ?_;rintro e w1 ⟨rfl,rfl⟩;go_wp2_with(fail);rw[hf.out,X.out];go_ret;exact⟨rfl,Z⟩
theorem M6(B:Nat)(m:FM)(k:Nat)(kn:Int->Option SV)(ow:Nat->Int->Option SV)(own seq:Int)(a:Option dX)(n cap:Nat)(w:dY)(h:FB w B m k kn ow)(U:sJ own)(V:kn own=ν):
 eZ e7 217 #[π (μ ⟨B,0,ν⟩),.agg #[ι κ own,ι κ seq,σ a n cap]] w λe w'=>e=ρ (ι κ 1)/\eE w w':=by
 have hz:=pQ;have hb:=gY w (γ #[ι κ own,ι κ seq,σ a n cap] 40);have Y:=h.below hb;obtain⟨Z,X⟩:=gq (w.alloc (γ #[ι κ own,ι κ seq,σ a n cap] 40));have x0:Z.cell? ⟨w.heap.size,0,ν⟩=μ (ι κ own):=by rw[<-X];exact aq w #[ι κ own,ι κ seq,σ a n cap] 40 (0,0) 0
 rw[X]at hb Y;have T:Hid _:=X;clear X;have pI:(fq 211 (.map (μ m.bm)) (ι κ own) true).run e7 Z.drew=.ok (τ #[.agg #[ι κ 0,ι κ 0,σ ν 0 0],.bool false]) Z.drew:=by
  have:=Y.km.drew.look_ok own U;rw[V]at this;exact this
 have ajU:(fq 211 (.map (μ m.bm)) (ι κ own) true).run e7 (Z.alloc (γ #[ι κ 0,ι κ 0,σ ν 0 0] 40)).drew=.ok (τ #[.agg #[ι κ 0,ι κ 0,σ ν 0 0],.bool false]) (Z.alloc (γ #[ι κ 0,ι κ 0,σ ν 0 0] 40)).drew:=by
  have:=(Y.km.alloc (γ #[ι κ 0,ι κ 0,σ ν 0 0] 40)).drew.look_ok own U;rw[V]at this;exact this
 have c0:=Y.c0;have hl:=Y.lt;have hx:w.heap.size<Z.heap.size:=ag Z _ x0;clear h Y V
 go_in
 go_wp2_with(fail);rw[T.out]
 go_region
 all_goals
  go_wp2
  go_ret;exact⟨rfl,below_drewN (hb.alloc hb.size _) 1⟩
theorem M7(B:Nat)(m:FM)(k:Nat)(kn:Int->Option SV)(ow:Nat->Int->Option SV)(own seq:Int)(a:Option dX)(n cap:Nat)(es:List jH)(t:SV)(fs:List jH)(w:dY)(h:FB w B m k kn ow)(H:sJ own)(S:kn own=μ t)(J:jg w a n es)(E:n<=1000000)(Q:jg w t.a t.n fs):
 eZ e7 217 #[π (μ ⟨B,0,ν⟩),.agg #[ι κ own,ι κ seq,σ a n cap]] w λe w'=>e=ρ (ι κ (l5 seq es t.seq fs))/\eE w w':=by
 obtain⟨T,ts,ta,tn,U⟩:=t;simp only at Q;have hz:=pQ;have hb:=gY w (γ #[ι κ own,ι κ seq,σ a n cap] 40);have Y:=h.below hb;obtain⟨Z,X⟩:=gq (w.alloc (γ #[ι κ own,ι κ seq,σ a n cap] 40));have V:Z.heap[w.heap.size]? =μ (γ #[ι κ own,ι κ seq,σ a n cap] 40 (0,0)):=by rw[<-X];exact aY w _
 rw[X]at hb Y;have G:Hid _:=X;clear X;have x0:Z.cell? ⟨w.heap.size,0,ν⟩=μ (ι κ own):=aw Z _ 0 _ _ (0,0) V;have pI:(fq 211 (.map (μ m.bm)) (ι κ own) true).run e7 Z.drew=.ok (τ #[.agg #[ι κ T,ι κ ts,σ ta tn U],.bool true]) Z.drew:=by
  have:=Y.km.drew.look_ok own H;rw[S]at this;exact this
 have ajU:(fq 211 (.map (μ m.bm)) (ι κ own) true).run e7 (Z.alloc (γ #[ι κ 0,ι κ 0,σ ν 0 0] 40)).drew=.ok (τ #[.agg #[ι κ T,ι κ ts,σ ta tn U],.bool true]) (Z.alloc (γ #[ι κ 0,ι κ 0,σ ν 0 0] 40)).drew:=by
  have:=(Y.km.alloc (γ #[ι κ 0,ι κ 0,σ ν 0 0] 40)).drew.look_ok own H;rw[S]at this;exact this
 have c0:=Y.c0;have hl:=Y.lt;have hx:w.heap.size<Z.heap.size:=ag Z _ x0;have M:eE w ((Z.alloc (γ #[ι κ T,ι κ ts,σ ta tn U] 40)).drew):=below_drewN (hb.alloc hb.size _) 1;have D:=Hf own seq T ts a ta n tn cap U es fs _ (J.below M) (Q.below M) E;have x1:Z.cell? ⟨w.heap.size,1,ν⟩=μ (ι κ seq):=aw Z _ 1 _ _ (0,0) V;have x2:Z.cell? ⟨w.heap.size,2,ν⟩=μ (σ a n cap):=aw Z _ 2 _ _ (0,0) V;clear h Y S Q J V
 go_in
 go_wp2_with(fail);rw[G.out]
 go_region
 all_goals
  go_wp2_with(fail);refine D.mono ?_;rintro e w2 ⟨rfl,k2⟩
  go_wp2
  go_ret;exact⟨rfl,gu M k2⟩
structure jF(w w':dY)(m:FM):Prop where
 os:w'.os=w.os
 tape:w'.tape=w.tape
 output:w'.output=w.output
 size:w.heap.size<=w'.heap.size
 block:∀i,i<w.heap.size->i≠m.bm->i∉m.bs->w'.heap[i]? =w.heap[i]?
theorem jF.iW(m:FM)(h:eE w w'):jF w w' m:=⟨h.os,h.tape,h.output,h.size,λi hi _ _=>h.block i hi⟩
theorem jF.trans {a b c:dY} {m:FM} (h:jF a b m)(k:jF b c m):jF a c m:=
 ⟨k.os.trans h.os,k.tape.trans h.tape,k.output.trans h.output,Nat.le_trans h.size k.size,λi hi Z Y=>(k.block i (Nat.lt_of_lt_of_le hi h.size) Z Y).trans (h.block i hi Z Y)⟩
theorem jF.pR {m:FM} (h:w.mapTurned w' b)(hb:b=m.bm \/b∈m.bs):jF w w' m:=by
 have g:=h.grown;refine⟨g.os,g.tape,g.output,g.size,λi hi Z Y=>g.block i hi (λe=> ?_)⟩;have:i=b:=by simpa using e
 subst this;rcases hb with hb|hb
 ·exact Z hb
 ·exact Y hb
theorem jF.below {a b:dY} {m:FM} (h:eE w a)(k:jF a b m)(h1:w.heap.size<=m.bm)(Z:∀x∈m.bs,w.heap.size<=x):eE w b:=
 ⟨k.os.trans h.os,k.tape.trans h.tape,k.output.trans h.output,Nat.le_trans h.size k.size,λi hi=>by
  rw[k.block i (Nat.lt_of_lt_of_le hi h.size) eh (λe=>by have:=Z i e;omega)];exact h.block i hi⟩
theorem nT {x:Nat} (h:w.mapTurned w' b)(hx:x<w.heap.size)(Z:x≠b):w'.heap[x]? =w.heap[x]? :=h.grown.block x hx (λe=>Z (by simpa using e))
theorem FB.ajV {m:FM} {kn kn':Int->Option SV} {ow:Nat->Int->Option SV} (h:FB w B m n kn ow)(Z:w.mapTurned w' m.bm)(V:SMap w' m.bm n' kn')(U:n<=n'):FB w' B m n' kn' ow:=by
 refine⟨(nT Z h.lt (λe=>h.nB.1 e.symm)).trans h.oh,h.row.keep Z.grown.size (λk Y=> ?_),V,λi b e=> ?_,h.few,h.nB,h.nd⟩
 ·have X:m.g=k:=by simpa[FM.sl,eu]using Y
  subst X;exact nT Z (h.row.lt _ Y) (λe=>h.nB.2.2.1 e.symm)
 ·have hb:=h.nB.2.2.2 b (bI e);exact((h.om i b e).keep (nT Z (h.om i b e).lt hb.2.2)).mono U
theorem FB.M8 {m:FM} {kn:Int->Option SV} {ow:Nat->Int->Option SV} {f:Int->Option SV} {i:Nat} (h:FB w B m n kn ow)(hi:m.bs[i]? =μ b)(Z:w.mapTurned w' b)(S:SMap w' b n' f)(X:n<=n'):FB w' B m n' kn (λj=>if j=i then f else ow j):=by
 have hb:=h.nB.2.2.2 b (bI hi);refine⟨(nT Z h.lt (λe=>hb.1 e.symm)).trans h.oh,h.row.keep Z.grown.size (λk V=> ?_),(h.km.keep (nT Z h.km.lt (λe=>hb.2.2 e.symm))).mono X,λj c e=> ?_,h.few,h.nB,h.nd⟩
 ·have T:m.g=k:=by simpa[FM.sl,eu]using V
  subst T;exact nT Z (h.row.lt _ V) (λe=>hb.2.1 e.symm)
 ·by_cases Y:j=i
  ·subst Y;rw[hi]at e;obtain rfl:=Option.some.inj e;simp only[if_true];exact S
  ·rw[af Y];have Q:c≠b:=λU=>by
    subst U;exact Y ((List.getElem?_inj (aK.1 e).1 h.nd).1 (e.trans hi.symm))
   exact((h.om j c e).keep (nT Z (h.om j c e).lt Q)).mono X
def tT(f:Int->Option SV)(k:Int)(s:SV):Int->Option SV:=λx=>if x=k then μ s else f x
structure Ja(w w':dY)(B:Nat)(m:FM)(n:Nat)(kn:Int->Option SV)(ow:Nat->Int->Option SV)(own seq:Int)(es:List jH)(s:SV):Prop where
 so:s.own=own
 ss:s.seq=seq
 sn:s.n=es.length
 so2:jg w' s.a s.n es
 nil:kN s.a s.cap
 new:∀j,eu (σ s.a s.n s.cap)=μ j->w.heap.size<=j/\j<w'.heap.size
 fb:FB w' B m (n+1+m.bs.length) (tT kn own s) (λi=>if i<m.bs.length then tT (ow i) own s else ow i)
 kept:jF w w' m
theorem jg.Uf {a:Option dX} {cap:Nat} {os:List jH} {m:FM} (h:jg w a n os)(X:jF w w' m)(hf:∀j,eu (σ a n cap)=μ j->j≠m.bm/\j∉m.bs):jg w' a n os:=by
 refine⟨h.1,?_⟩;rcases h.2 with Z|⟨b,off,rfl,Z⟩
 ·exact .inl Z
 ·refine .inr ⟨b,off,rfl,λj Y=> ?_⟩;obtain⟨c1,c2⟩:=Z j Y;obtain⟨f1,f2⟩:=hf b rfl;have e:=X.block b (ag w _ c1) f1 f2;exact⟨(aj (a:=⟨b,off+j*2,ν⟩) e).trans c1,(aj (a:=⟨b,off+j*2+1,ν⟩) e).trans c2⟩
theorem Hg(B:Nat)(m:FM)(k:Nat)(kn:Int->Option SV)(ow:Nat->Int->Option SV)(own seq:Int)(a:Option dX)(n cap:Nat)(es:List jH)(w:dY)(h:FB w B m k kn ow)(hr:sJ own)(ho:jg w a n es)(kr:kN a cap)(hn:n<=1000000)(hk:k<=1000000):
 eZ e7 118 #[π (μ ⟨B,0,ν⟩),.agg #[ι κ own,ι κ seq,σ a n cap]] w λe w'=>e=ρ (τ #[])/\∃s,Ja w w' B m k kn ow own seq es s:=by
 have hb:=gY w (γ #[ι κ own,ι κ seq,σ a n cap] 40);have J:=h.below hb;obtain⟨W1,j8⟩:=gq (w.alloc (γ #[ι κ own,ι κ seq,σ a n cap] 40));have qe:W1.heap[w.heap.size]? =μ (γ #[ι κ own,ι κ seq,σ a n cap] 40 (0,0)):=by rw[<-j8];exact aY w _
 rw[j8]at hb J;have HW:Hid _:=j8;clear j8;have Dm:=D6 own seq a n cap es W1 hn kr (ho.below hb)
 go_in
 go_wp2_with(fail);rw[HW.out];refine Dm.mono ?_;rintro e X ⟨⟨Y,vc,rfl,vo,vn,vl,Gm⟩,k2⟩;clear Dm;have G:=(k2.block _ (ax.1 qe).1).trans qe;have x0:X.cell? ⟨w.heap.size,0,ν⟩=μ (ι κ own):=aw X _ 0 _ _ (0,0) G;have x1:X.cell? ⟨w.heap.size,1,ν⟩=μ (ι κ seq):=aw X _ 1 _ _ (0,0) G;have x2:X.cell? ⟨w.heap.size,2,ν⟩=μ (σ a n cap):=aw X _ 2 _ _ (0,0) G;have fx:=λj=>bB X w.heap.size j _ _ G;have xl:w.heap.size<X.heap.size:=ag X _ x0
 go_upto_region 2 with fail
 obtain⟨Z,E⟩:=gq (((X.setCell ⟨w.heap.size,0,ν⟩ (ι κ own)).setCell ⟨w.heap.size,1,ν⟩ (ι κ seq)).setCell ⟨w.heap.size,2,ν⟩ (σ Y es.length vc));have rO:=gu hb k2;have b3:eE w Z:=by rw[<-E];exact((rO.setCell (Nat.le_refl _) _).setCell (Nat.le_refl _) _).setCell (Nat.le_refl _) _
 have yx:Z.heap[w.heap.size]? =μ (γ #[ι κ own,ι κ seq,σ Y es.length vc] 40 (0,0)):=by
  rw[<-E];have s1:=cC X w.heap.size #[ι κ own,ι κ seq,σ a n cap] (#[ι κ own,ι κ seq,σ a n cap].setIfInBounds 0 (ι κ own)) 40 (0,0) G;rw[<-bL X w.heap.size 0 _ _ (0,0) _ G]at s1;have s2:=cC _ w.heap.size _ ((#[ι κ own,ι κ seq,σ a n cap].setIfInBounds 0 (ι κ own)).setIfInBounds 1 (ι κ seq)) 40 (0,0) s1;rw[<-bL _ w.heap.size 1 _ _ (0,0) _ s1]at s2;have s3:=cC _ w.heap.size _ (((#[ι κ own,ι κ seq,σ a n cap].setIfInBounds 0 (ι κ own)).setIfInBounds 1 (ι κ seq)).setIfInBounds 2 (σ Y es.length vc)) 40 (0,0) s2;rw[<-bL _ w.heap.size 2 _ _ (0,0) _ s2]at s3;exact s3
 have u:W1.heap.size=w.heap.size+1:=by have:=HW.out;rw[<-this];simp
 have vo3:jg Z Y es.length es:=by
  refine vo.kept (cap:=vc) (λj hj=> ?_);have:=(Gm j hj).1;rw[<-E,ak _ _ _ _ (by show j≠w.heap.size;omega),ak _ _ _ _ (by show j≠w.heap.size;omega),ak _ _ _ _ (by show j≠w.heap.size;omega)]
 have hs3:X.heap.size=Z.heap.size:=by rw[<-E];simp
 rw[E];have S:=h.below b3;have Pb:eE w Z.drew:=below_drewN b3 1;have M:=h.below Pb;obtain⟨W4,hr4,S4,T4⟩:=M.km.store (by unfold maxLen;omega) own hr ⟨own,seq,Y,es.length,vc⟩;have ajY:(fh 211 (.map (μ m.bm)) (ι κ own) (.agg #[ι κ own,ι κ seq,σ Y es.length vc])).run e7 Z.drew=.ok () W4:=hr4;have U:=M.ajV T4 S4 (Nat.le_succ _);have c0:=S.c0;have lB:=S.lt;have y0:Z.cell? ⟨w.heap.size,0,ν⟩=μ (ι κ own):=aw Z _ 0 _ _ (0,0) yx;have y1:Z.cell? ⟨w.heap.size,1,ν⟩=μ (ι κ seq):=aw Z _ 1 _ _ (0,0) yx;have y2:Z.cell? ⟨w.heap.size,2,ν⟩=μ (σ Y es.length vc):=aw Z _ 2 _ _ (0,0) yx;have yl:w.heap.size<Z.heap.size:=ag Z _ y0;clear x0 x1 x2 fx xl E hr4 S4
 go_region
 have A:jF Z.drew W4 m:=jF.pR T4 (.inl rfl);have QP:∀x,x=m.bm \/x∈m.bs->x<w.heap.size:=by
  intro x hx;rcases hx with rfl|hx
  ·exact h.km.lt
  ·obtain⟨i,hi⟩:=fB hx;exact(h.om i x hi).lt
 have y:∀V:dY,jF Z.drew V m->V.heap[w.heap.size]? =μ (γ #[ι κ own,ι κ seq,σ Y es.length vc] 40 (0,0)):=λV hV=>
  (hV.block w.heap.size yl (λe=>by have:=QP m.bm (.inl rfl);omega) (λe=>by have:=QP _ (.inr e);omega)).trans yx
 obtain⟨s,hs⟩:∃s:SV,(⟨own,seq,Y,es.length,vc⟩:SV)=s:=⟨_,rfl⟩
 have afi:FB W4 B m (k+1+0) (tT kn own s) (λi=>if i<0 then tT (ow i) own s else ow i):=by
  rw[<-hs];have e0:(λi=>if i<0 then tT (ow i) own ⟨own,seq,Y,es.length,vc⟩else ow i)=ow:=by funext i;simp
  rw[e0];exact U
 have yy:=h.few;have c1:W4.cell? ⟨B,1,ν⟩=μ (σ (μ ⟨m.g,0,ν⟩) m.bs.length m.cap):=U.c1;have lB4:=U.lt;have Q:Hid _:=hs;have HX:Hid _:=y;have H3:Hid (jg Z Y es.length es/\eE w Z/\X.heap.size=Z.heap.size/\W1.heap.size=w.heap.size+1):=⟨vo3,b3,hs3,u⟩
 have D:Hid _:=QP;clear hs y c0 lB y0 y1 y2 yl S M U ajY T4 J G qe yx b3 Pb hb k2 rO QP vo3 hs3 u vo
 go_wp2
 go_loopw [20] (λi wr=>∃j:Nat,j<=m.bs.length/\i=ι κ j/\FB wr B m (k+1+j) (tT kn own s) (λi=>if i<j then tT (ow i) own s else ow i)/\jF Z.drew wr m) (λi _=>m.bs.length-(fa i).toNat)
 case atStart=>exact⟨0,Nat.zero_le _,rfl,afi,A⟩
 case round=>
  clear afi A c1 lB4;obtain⟨j,hj,rfl,hF,H⟩:=hrel;by_cases kD:j<m.bs.length
  ·have nS:(j:Int)<(m.bs.length:Int):=eh;have hX:=HX.out wr H;have z0:wr.cell? ⟨w.heap.size,0,ν⟩=μ (ι κ own):=aw wr _ 0 _ _ (0,0) hX;have z1:wr.cell? ⟨w.heap.size,1,ν⟩=μ (ι κ seq):=aw wr _ 1 _ _ (0,0) hX;have z2:wr.cell? ⟨w.heap.size,2,ν⟩=μ (σ Y es.length vc):=aw wr _ 2 _ _ (0,0) hX;have zl:w.heap.size<wr.heap.size:=ag wr _ z0;have T:m.bs[j]? =μ m.bs[j] :=ay kD;have cp:=hF.port j _ T;have gl:m.g<wr.heap.size:=ag wr _ cp;obtain⟨W5,M9,S5,T5⟩:=(hF.om j _ T).store (by unfold maxLen;omega) own hr s;have F5:=hF.M8 T T5 S5 (Nat.le_succ _);have M5:jF Z.drew W5 m:=H.trans (jF.pR T5 (.inr (aF _)));have F5':FB W5 B m (k+1+(j+1)) (tT kn own s) (λi=>if i<j+1 then tT (ow i) own s else ow i):=by
    have e:(λi=>if i<j+1 then tT (ow i) own s else ow i)=(λi=>if i=j then(λx=>if x=own then μ s else(if j<j then tT (ow j) own s else ow j) x)else(if i<j then tT (ow i) own s else ow i)):=by
     funext i
     by_cases J:i=j
     ·rw[J,ai (Nat.lt_succ_self j),ai rfl,af (Nat.lt_irrefl j)];rfl
     ·by_cases h2:i<j
      ·rw[ai eh,af J,ai h2]
      ·rw[af eh,af J,af h2]
    rw[e];exact F5
   have ajZ:(fh 211 (.map (μ m.bs[j])) (ι κ own) (.agg #[ι κ own,ι κ seq,σ Y es.length vc])).run e7 wr=.ok () W5:=by
    have:=M9;rw[<-Q.out]at this;exact this
   generalize m.bs[j] =bj at cp ajZ;clear M9 S5 T5 F5 hF H T hX
   go_wp2
   go_roundw
   case rel=>exact⟨j+1,eh,by go_num,F5',M5⟩
   case measure=>simp[fa];omega
  ·have O2:j=m.bs.length:=eh;subst O2;have HF:Hid (∃s,Ja w wr B m k kn ow own seq es s):=by
    obtain⟨q1,q2,q3,q4⟩:=H3.out;have uU:∀x,eu (σ Y es.length vc)=μ x->x≠m.bm/\x∉m.bs:=λx hx=>by
     have J:=(Gm x hx).1;exact⟨λe=>by have:=D.out m.bm (.inl rfl);omega,λe=>by have:=D.out x (.inr e);omega⟩
    have o1:=(q1.drewN 1).Uf (cap:=vc) H uU;have rV:=H.size;have apv:Z.heap.size<=wr.heap.size:=rV;refine⟨s,?_,?_,?_,?_,?_,?_,hF,(jF.iW m (below_drewN q2 1)).trans H⟩
    ·rw[<-Q.out]
    ·rw[<-Q.out]
    ·rw[<-Q.out]
    ·rw[<-Q.out];exact o1
    ·rw[<-Q.out];exact vn
    ·rw[<-Q.out];intro x hx;have:=Gm x hx;omega
   clear hF H
   go_wp2
   first|go_end0|refine iM rfl rfl ?_
   exact⟨rfl,HF.out⟩
def del(f:Int->Option SV)(k:Int):Int->Option SV:=λx=>if x=k then ν else f x
theorem FB.mlt {m:FM} {kn:Int->Option SV} {ow:Nat->Int->Option SV} (h:FB w B m n kn ow):∀x,x=m.bm \/x∈m.bs->x<w.heap.size:=by
 intro x hx;rcases hx with rfl|hx
 ·exact h.km.lt
 ·obtain⟨i,hi⟩:=fB hx;exact(h.om i x hi).lt
theorem FB.mono {w:dY} {B:Nat} {m:FM} {n n':Nat} {kn:Int->Option SV} {ow:Nat->Int->Option SV} (h:FB w B m n kn ow)(Z:n<=n'):FB w B m n' kn ow:=⟨h.oh,h.row,h.km.mono Z,λi b e=>(h.om i b e).mono Z,h.few,h.nB,h.nd⟩
theorem Ug {W V:dY} {m:FM} {kn:Int->Option SV} {ow:Nat->Int->Option SV} {C:Array dZ} (h:FB w B m n kn ow)(Z:W.heap[w.heap.size]? =μ (γ C 40 (0,0)))(Y:jF W V m):V.heap[w.heap.size]? =μ (γ C 40 (0,0)):=
 (Y.block w.heap.size (ax.1 Z).1 (λe=>by have:=h.mlt m.bm (.inl rfl);omega) (λe=>by have:=h.mlt _ (.inr e);omega)).trans Z
theorem take_zero(B:Nat)(m:FM)(k:Nat)(kn:Int->Option SV)(ow:Nat->Int->Option SV)(p:Nat)(own seq:Int)(a:Option dX)(n cap:Nat)(es:List jH)(w:dY)(h:FB w B m k kn ow)(hr:sJ own)(hp:p<m.bs.length)(ho:jg w a n es)(hn:n<=maxLen)(hf:oD own seq es=0)
 (u:∀W,eE w W->eZ e7 217 #[π (μ ⟨B,0,ν⟩),.agg #[ι κ own,ι κ seq,σ a n cap]] W λe w'=>e=ρ (ι κ 0)/\eE W w'):
 eZ e7 190 #[π (μ ⟨B,0,ν⟩),ι κ (p:Int),.agg #[ι κ own,ι κ seq,σ a n cap]] w λe w'=>e=ρ (τ #[ι κ 0,η])/\FB w' B m k kn (λi=>if i=p then del (ow p) own else ow i)/\jF w w' m:=by
 have hb:=gY w (γ #[ι κ own,ι κ seq,σ a n cap] 40);obtain⟨A,U⟩:=gq (w.alloc (γ #[ι κ own,ι κ seq,σ a n cap] 40));have M:A.heap[w.heap.size]? =μ (γ #[ι κ own,ι κ seq,σ a n cap] 40 (0,0)):=by rw[<-U];exact aY w _
 rw[U]at hb;have HW:Hid _:=U;have J:=qO B m k kn ow (p:Int) own seq a n cap es A (h.below hb) hn (ho.below hb);have y:wa m.bs.length (p:Int) own seq es=0:=by rw[wa,ai eh,hf]
 have G:jk 0=η:=rfl;rw[y,G]at J;have Uh:Hid _:=u;have hpi:(p:Int)<(m.bs.length:Int):=eh;have yy:=h.few;clear U y G u hf
 go_in
 go_wp2_with(fail);rw[HW.out];refine J.mono ?_;rintro e Z ⟨rfl,k2⟩;have b2:=gu hb k2;have X:=(k2.block _ (ax.1 M).1).trans M;have x0:Z.cell? ⟨w.heap.size,0,ν⟩=μ (ι κ own):=aw Z _ 0 _ _ (0,0) X;have x1:Z.cell? ⟨w.heap.size,1,ν⟩=μ (ι κ seq):=aw Z _ 1 _ _ (0,0) X;have x2:Z.cell? ⟨w.heap.size,2,ν⟩=μ (σ a n cap):=aw Z _ 2 _ _ (0,0) X;have H:w.heap.size<Z.heap.size:=ag Z _ x0;clear J M hb k2;go_wp2_with(fail);refine(Uh.out Z b2).mono ?_;rintro e Y ⟨rfl,k3⟩;have b3:=gu b2 k3;have yx:=(k3.block _ H).trans X;clear x0 x1 x2 H X;have x0:Y.cell? ⟨w.heap.size,0,ν⟩=μ (ι κ own):=aw Y _ 0 _ _ (0,0) yx;have H:w.heap.size<Y.heap.size:=ag Y _ x0;have V:=h.below b3;have E:eE w Y.drew:=below_drewN b3 1;have S:=h.below E;have T:m.bs[p]? =μ m.bs[p] :=ay hp;obtain⟨W5,M9,D,Q⟩:=(S.om p _ T).drop own hr 0;have j:=S.M8 T Q D (Nat.le_refl _);have M5:jF w W5 m:=(jF.iW m E).trans (jF.pR Q (.inr (aF _)));have c1:Y.cell? ⟨B,1,ν⟩=μ (σ (μ ⟨m.g,0,ν⟩) m.bs.length m.cap):=V.c1;have lB:=V.lt;have cp:=V.port p _ T;have gl:m.g<Y.heap.size:=ag Y _ cp;generalize m.bs[p] =bp at cp M9;clear V S D Q T k3
 go_wp2
 go_region
 all_goals
  go_wp2
  go_ret2
  exact⟨rfl,j,M5⟩
theorem Ui(B:Nat)(m:FM)(k:Nat)(kn:Int->Option SV)(ow:Nat->Int->Option SV)(p:Nat)(own seq:Int)(a:Option dX)(n cap:Nat)(es:List jH)(w:dY)(h:FB w B m k kn ow)(u:sJ own)(hp:p<m.bs.length)(ho:jg w a n es)(hn:n<=maxLen)(hf:oD own seq es=0)(t:SV)(j:kn own=μ t)(hk:k<=1000000)
 (tq:∀W,eE w W->eZ e7 217 #[π (μ ⟨B,0,ν⟩),.agg #[ι κ own,ι κ seq,σ a n cap]] W λe w'=>e=ρ (ι κ (-1))/\eE W w'):
 eZ e7 190 #[π (μ ⟨B,0,ν⟩),ι κ (p:Int),.agg #[ι κ own,ι κ seq,σ a n cap]] w λe w'=>e=ρ (τ #[ι κ (-1),η])/\FB w' B m (k+1) kn (λi=>if i=p then tT (ow p) own t else ow i)/\jF w w' m:=by
 have hb:=gY w (γ #[ι κ own,ι κ seq,σ a n cap] 40);obtain⟨y,T⟩:=gq (w.alloc (γ #[ι κ own,ι κ seq,σ a n cap] 40));have M:y.heap[w.heap.size]? =μ (γ #[ι κ own,ι κ seq,σ a n cap] 40 (0,0)):=by rw[<-T];exact aY w _
 rw[T]at hb;have HW:Hid _:=T;have J:=qO B m k kn ow (p:Int) own seq a n cap es y (h.below hb) hn (ho.below hb);have rL:wa m.bs.length (p:Int) own seq es=0:=by rw[wa,ai eh,hf]
 have G:jk 0=η:=rfl;rw[rL,G]at J;have Uh:Hid _:=tq;have hpi:(p:Int)<(m.bs.length:Int):=eh;have yy:=h.few;clear T rL G tq hf
 go_in
 go_wp2_with(fail);rw[HW.out];refine J.mono ?_;rintro e Y ⟨rfl,k2⟩;have b2:=gu hb k2;have V:=(k2.block _ (ax.1 M).1).trans M;have x0:Y.cell? ⟨w.heap.size,0,ν⟩=μ (ι κ own):=aw Y _ 0 _ _ (0,0) V;have x1:Y.cell? ⟨w.heap.size,1,ν⟩=μ (ι κ seq):=aw Y _ 1 _ _ (0,0) V;have x2:Y.cell? ⟨w.heap.size,2,ν⟩=μ (σ a n cap):=aw Y _ 2 _ _ (0,0) V;have H:w.heap.size<Y.heap.size:=ag Y _ x0;clear J M hb k2;go_wp2_with(fail);refine(Uh.out Y b2).mono ?_;rintro e Z ⟨rfl,k3⟩;have b3:=gu b2 k3;have yx:=(k3.block _ H).trans V;clear x0 x1 x2 H V;have x0:Z.cell? ⟨w.heap.size,0,ν⟩=μ (ι κ own):=aw Z _ 0 _ _ (0,0) yx;have H:w.heap.size<Z.heap.size:=ag Z _ x0;have X:=h.below b3;have D:eE w Z.drew:=below_drewN b3 1;have U:=h.below D;have S:m.bs[p]? =μ m.bs[p] :=ay hp;have pI:(fq 211 (.map (μ m.bm)) (ι κ own) false).run e7 Z.drew=.ok t.v Z.drew:=by
  have:=U.km.look own u;rw[j]at this;exact this
 obtain⟨W5,E,A,Q⟩:=(U.om p _ S).store (by unfold maxLen;omega) own u t;have F5:=U.M8 S Q A (Nat.le_succ _);have M5:jF w W5 m:=(jF.iW m D).trans (jF.pR Q (.inr (aF _)));have c0:=X.c0;have c1:Z.cell? ⟨B,1,ν⟩=μ (σ (μ ⟨m.g,0,ν⟩) m.bs.length m.cap):=X.c1;have lB:=X.lt;have cp:=X.port p _ S;have gl:m.g<Z.heap.size:=ag Z _ cp;generalize m.bs[p] =bp at cp E;generalize t.v=tv at pI E;clear X U A Q S k3 j
 go_wp2
 go_region
 all_goals
  go_wp2
  go_ret2
  exact⟨rfl,F5,M5⟩
structure afj(w w':dY)(B:Nat)(m:FM)(n:Nat)(kn:Int->Option SV)(ow:Nat->Int->Option SV)(p:Nat)(own seq:Int)(es:List jH)(s:SV):Prop where
 so:s.own=own
 ss:s.seq=seq
 sn:s.n=es.length
 so2:jg w' s.a s.n es
 nil:kN s.a s.cap
 new:∀j,eu (σ s.a s.n s.cap)=μ j->w.heap.size<=j/\j<w'.heap.size
 fb:FB w' B m (n+1+m.bs.length) (tT kn own s) (λi=>if i=p then del (tT (ow p) own s) own else if i<m.bs.length then tT (ow i) own s else ow i)
 kept:jF w w' m
theorem Uj(B:Nat)(m:FM)(k:Nat)(kn:Int->Option SV)(ow:Nat->Int->Option SV)(p:Nat)(own seq:Int)(a:Option dX)(n cap:Nat)(es:List jH)(w:dY)(h:FB w B m k kn ow)(hr:sJ own)(hp:p<m.bs.length)(ho:jg w a n es)(hn:n<=maxLen)(kr:kN a cap)(hk:k<=1000000)(hf:oD own seq es=0)
 (tq:∀W,eE w W->eZ e7 217 #[π (μ ⟨B,0,ν⟩),.agg #[ι κ own,ι κ seq,σ a n cap]] W λe w'=>e=ρ (ι κ 1)/\eE W w'):
 eZ e7 190 #[π (μ ⟨B,0,ν⟩),ι κ (p:Int),.agg #[ι κ own,ι κ seq,σ a n cap]] w λe w'=>e=ρ (τ #[ι κ 1,η])/\∃s,afj w w' B m k kn ow p own seq es s:=by
 have hb:=gY w (γ #[ι κ own,ι κ seq,σ a n cap] 40);obtain⟨W1,G⟩:=gq (w.alloc (γ #[ι κ own,ι κ seq,σ a n cap] 40));have qe:W1.heap[w.heap.size]? =μ (γ #[ι κ own,ι κ seq,σ a n cap] 40 (0,0)):=by rw[<-G];exact aY w _
 rw[G]at hb;have HW:Hid _:=G;have sK:=qO B m k kn ow (p:Int) own seq a n cap es W1 (h.below hb) hn (ho.below hb);have rL:wa m.bs.length (p:Int) own seq es=0:=by rw[wa,ai eh,hf]
 have E0:jk 0=η:=rfl;rw[rL,E0]at sK;have Uh:Hid _:=tq;have HN:Hid (n<=6):=by show n<=6;have:=(jw hf).2.2.1;rw[ho.1]at this;exact this
 have hpi:(p:Int)<(m.bs.length:Int):=eh;have yy:=h.few;clear G rL E0 tq hf
 go_in
 go_wp2_with(fail);rw[HW.out];refine sK.mono ?_;rintro e V ⟨rfl,k2⟩;have b2:=gu hb k2;have J:=(k2.block _ (ax.1 qe).1).trans qe;have x0:V.cell? ⟨w.heap.size,0,ν⟩=μ (ι κ own):=aw V _ 0 _ _ (0,0) J;have x1:V.cell? ⟨w.heap.size,1,ν⟩=μ (ι κ seq):=aw V _ 1 _ _ (0,0) J;have x2:V.cell? ⟨w.heap.size,2,ν⟩=μ (σ a n cap):=aw V _ 2 _ _ (0,0) J;have H:w.heap.size<V.heap.size:=ag V _ x0;clear sK qe hb k2;go_wp2_with(fail);refine(Uh.out V b2).mono ?_;rintro e U ⟨rfl,k3⟩;have b3:=gu b2 k3;have D:=(k3.block _ H).trans J;clear x0 x1 x2 H J;have x0:U.cell? ⟨w.heap.size,0,ν⟩=μ (ι κ own):=aw U _ 0 _ _ (0,0) D;have H:w.heap.size<U.heap.size:=ag U _ x0;have x1:U.cell? ⟨w.heap.size,1,ν⟩=μ (ι κ seq):=aw U _ 1 _ _ (0,0) D;have x2:U.cell? ⟨w.heap.size,2,ν⟩=μ (σ a n cap):=aw U _ 2 _ _ (0,0) D;have F3:=h.below b3;have u:n<=1000000:=by have:=HN.out;omega
 have M:=Hg B m k kn ow own seq a n cap es U F3 hr (ho.below b3) kr u hk;clear k3;go_wp2_with(fail);refine M.mono ?_;rintro e Z ⟨rfl,s,Y⟩;clear M x0 x1 x2 H;have y:=Ug h D Y.kept;have x0:Z.cell? ⟨w.heap.size,0,ν⟩=μ (ι κ own):=aw Z _ 0 _ _ (0,0) y;have H:w.heap.size<Z.heap.size:=ag Z _ x0;have S:=Y.fb;have T:=S.below (show eE Z Z.drew from below_drewN (au _ _) 1);have E:m.bs[p]? =μ m.bs[p] :=ay hp;obtain⟨W5,M9,S5,A⟩:=(T.om p _ E).drop own hr 0;have F5:=T.M8 E A S5 (Nat.le_refl _);have X:jF Z W5 m:=(jF.iW m (show eE Z Z.drew from below_drewN (au _ _) 1)).trans (jF.pR A (.inr (aF _)));have hT:Hid (afj w W5 B m k kn ow p own seq es s):=by
  have uU:∀x,eu (σ s.a s.n s.cap)=μ x->x≠m.bm/\x∉m.bs:=λx hx=>by
   have Q:=(Y.new x hx).1;have h2:=b3.size;exact⟨λe=>by have:=h.mlt m.bm (.inl rfl);omega,λe=>by have:=h.mlt x (.inr e);omega⟩
  refine⟨Y.so,Y.ss,Y.sn,Y.so2.Uf (cap:=s.cap) X uU,Y.nil,λj hj=> ?_,?_,((jF.iW m b3).trans Y.kept).trans X⟩
  ·have:=Y.new j hj;have h2:=b3.size;have h3:=X.size;omega
  ·have e:(λi=>if i=p then del (tT (ow p) own s) own else if i<m.bs.length then tT (ow i) own s else ow i)=(λj=>if j=p then(λx=>if x=own then ν else(λi=>if i<m.bs.length then tT (ow i) own s else ow i) p x)else(λi=>if i<m.bs.length then tT (ow i) own s else ow i) j):=by
    funext i
    by_cases Q:i=p
    ·rw[ai Q,ai Q]
     funext x
     simp only[del,if_pos hp]
    ·rw[af Q,af Q]
   rw[e];exact F5
 have c1:Z.cell? ⟨B,1,ν⟩=μ (σ (μ ⟨m.g,0,ν⟩) m.bs.length m.cap):=S.c1;have lB:=S.lt;have cp:=S.port p _ E;have gl:m.g<Z.heap.size:=ag Z _ cp;generalize m.bs[p] =bp at cp M9;clear F3 S T S5 A E Y F5 X
 go_wp2
 go_region
 all_goals
  go_wp2
  go_ret2
  exact⟨rfl,s,hT.out⟩
theorem Uk {c:Nat} (h:c≠0):jk c=.iface 128 (ι κ (c:Int)):=by rw[jk,af h]
theorem Ul(B:Nat)(m:FM)(k:Nat)(kn:Int->Option SV)(ow:Nat->Int->Option SV)(p:Nat)(w:dY)(h:FB w B m k kn ow)(Q:p<m.bs.length):
 eZ e7 124 #[π (μ ⟨B,0,ν⟩),ι κ (p:Int)] w λe w'=>e=ρ (τ #[])/\FB w' B m k kn (λi=>if i=p then λ_=>ν else ow i)/\jF w w' m:=by
 have hh:=Dl B m k kn ow (p:Int) w h;have hv:(decide (0<=(p:Int))&&decide ((p:Int)<(m.bs.length:Int)))=true:=by
  simp;omega
 rw[hv]at hh;clear hv;have hpi:(p:Int)<(m.bs.length:Int):=eh;have yy:=h.few;have Z:m.bs[p]? =μ m.bs[p] :=ay Q;obtain⟨S,T,X,Y⟩:=(h.om p _ Z).clear 0;have V:=h.M8 Z Y X (Nat.le_refl _);have U:jF w S m:=jF.pR Y (.inr (aF _));have c1:w.cell? ⟨B,1,ν⟩=μ (σ (μ ⟨m.g,0,ν⟩) m.bs.length m.cap):=h.c1;have lB:=h.lt;have cp:=h.port p _ Z;have gl:m.g<w.heap.size:=ag w _ cp;generalize m.bs[p] =bp at cp T;clear X Y Z
 go_in
 go_wp2_with(fail);refine hh.mono ?_;rintro e w1 ⟨rfl,rfl⟩;clear hh
 go_wp2
 first|go_end0|refine iM rfl rfl ?_
 exact⟨rfl,V,U⟩
theorem abN(B:Nat)(m:FM)(k:Nat)(kn:Int->Option SV)(ow:Nat->Int->Option SV)(own seq:Int)(a:Option dX)(n cap:Nat)(es:List jH)(w:dY)(h:FB w B m k kn ow)(u:sJ own)(S:jg w a n es)(kr:kN a cap)(y:k<=1000000)(hf:oD own seq es=0):
 eZ e7 67 #[π (μ ⟨B,0,ν⟩),.agg #[ι κ own,ι κ seq,σ a n cap]] w λe w'=>e=ρ η/\∃s,Ja w w' B m k kn ow own seq es s:=by
 have T:n<=1000000:=by have:=(jw hf).2.2.1;rw[S.1]at this;omega
 have hb:=gY w (γ #[ι κ own,ι κ seq,σ a n cap] 40);obtain⟨G,U⟩:=gq (w.alloc (γ #[ι κ own,ι κ seq,σ a n cap] 40));have Q:G.heap[w.heap.size]? =μ (γ #[ι κ own,ι κ seq,σ a n cap] 40 (0,0)):=by rw[<-U];exact aY w _
 rw[U]at hb;have A:Hid _:=U;have J:=AO own seq a n cap es G (by unfold maxLen;omega) (S.below hb);have H:jk 0=η:=rfl;rw[hf,H]at J;clear U H hf
 go_in
 go_wp2_with(fail);rw[A.out];refine J.mono ?_;rintro e Y ⟨rfl,k2⟩;have b2:=gu hb k2;have M:=(k2.block _ (ax.1 Q).1).trans Q;have x0:Y.cell? ⟨w.heap.size,0,ν⟩=μ (ι κ own):=aw Y _ 0 _ _ (0,0) M;have x1:Y.cell? ⟨w.heap.size,1,ν⟩=μ (ι κ seq):=aw Y _ 1 _ _ (0,0) M;have x2:Y.cell? ⟨w.heap.size,2,ν⟩=μ (σ a n cap):=aw Y _ 2 _ _ (0,0) M;have xl:w.heap.size<Y.heap.size:=ag Y _ x0;have V:=Hg B m k kn ow own seq a n cap es Y (h.below b2) u (S.below b2) kr T y;clear J Q hb k2;go_wp2_with(fail);refine V.mono ?_;rintro e w4 ⟨rfl,s,Z⟩;have X:=b2.size;have D:Hid (∃s,Ja w w4 B m k kn ow own seq es s):=⟨s,Z.so,Z.ss,Z.sn,Z.so2,Z.nil,λj E=>⟨Nat.le_trans X (Z.new j E).1,(Z.new j E).2⟩,Z.fb,(jF.iW m b2).trans Z.kept⟩
 clear V x0 x1 x2 xl Z X b2
 go_wp2
 go_ret;exact⟨rfl,D.out⟩
theorem Na(B:Nat)(m:FM)(k:Nat)(kn:Int->Option SV)(ow:Nat->Int->Option SV)(p:Nat)(own seq:Int)(a:Option dX)(n cap:Nat)(es:List jH)(w:dY)(h:FB w B m k kn ow)(hr:sJ own)(hp:p<m.bs.length)(ho:jg w a n es)(hn:n<=maxLen)(hf:oD own seq es=0)
 (u:∀W,eE w W->eZ e7 217 #[π (μ ⟨B,0,ν⟩),.agg #[ι κ own,ι κ seq,σ a n cap]] W λe w'=>e=ρ (ι κ 0)/\eE W w'):
 eZ e7 191 #[π (μ ⟨B,0,ν⟩),ι κ (p:Int),.agg #[ι κ own,ι κ seq,σ a n cap]] w λe w'=>e=ρ η/\FB w' B m k kn (λi=>if i=p then del (ow p) own else ow i)/\jF w w' m:=by
 have hb:=gY w (γ #[ι κ own,ι κ seq,σ a n cap] 40);obtain⟨A,U⟩:=gq (w.alloc (γ #[ι κ own,ι κ seq,σ a n cap] 40));have M:A.heap[w.heap.size]? =μ (γ #[ι κ own,ι κ seq,σ a n cap] 40 (0,0)):=by rw[<-U];exact aY w _
 rw[U]at hb;have HW:Hid _:=U;have J:=qO B m k kn ow (p:Int) own seq a n cap es A (h.below hb) hn (ho.below hb);have y:wa m.bs.length (p:Int) own seq es=0:=by rw[wa,ai eh,hf]
 have G:jk 0=η:=rfl;rw[y,G]at J;have Uh:Hid _:=u;have hpi:(p:Int)<(m.bs.length:Int):=eh;have yy:=h.few;clear U y G u hf
 go_in
 go_wp2_with(fail);rw[HW.out];refine J.mono ?_;rintro e Z ⟨rfl,k2⟩;have b2:=gu hb k2;have X:=(k2.block _ (ax.1 M).1).trans M;have x0:Z.cell? ⟨w.heap.size,0,ν⟩=μ (ι κ own):=aw Z _ 0 _ _ (0,0) X;have x1:Z.cell? ⟨w.heap.size,1,ν⟩=μ (ι κ seq):=aw Z _ 1 _ _ (0,0) X;have x2:Z.cell? ⟨w.heap.size,2,ν⟩=μ (σ a n cap):=aw Z _ 2 _ _ (0,0) X;have H:w.heap.size<Z.heap.size:=ag Z _ x0;clear J M hb k2;go_wp2_with(fail);refine(Uh.out Z b2).mono ?_;rintro e Y ⟨rfl,k3⟩;have b3:=gu b2 k3;have yx:=(k3.block _ H).trans X;clear x0 x1 x2 H X;have x0:Y.cell? ⟨w.heap.size,0,ν⟩=μ (ι κ own):=aw Y _ 0 _ _ (0,0) yx;have H:w.heap.size<Y.heap.size:=ag Y _ x0;have V:=h.below b3;have E:eE w Y.drew:=below_drewN b3 1;have S:=h.below E;have T:m.bs[p]? =μ m.bs[p] :=ay hp;obtain⟨W5,M9,D,Q⟩:=(S.om p _ T).drop own hr 0;have j:=S.M8 T Q D (Nat.le_refl _);have M5:jF w W5 m:=(jF.iW m E).trans (jF.pR Q (.inr (aF _)));have c1:Y.cell? ⟨B,1,ν⟩=μ (σ (μ ⟨m.g,0,ν⟩) m.bs.length m.cap):=V.c1;have lB:=V.lt;have cp:=V.port p _ T;have gl:m.g<Y.heap.size:=ag Y _ cp;generalize m.bs[p] =bp at cp M9;clear V S D Q T k3
 go_wp2
 go_region
 all_goals
  go_wp2
  go_ret;exact⟨rfl,j,M5⟩
theorem QQ(B:Nat)(m:FM)(k:Nat)(kn:Int->Option SV)(ow:Nat->Int->Option SV)(p:Nat)(own seq:Int)(a:Option dX)(n cap:Nat)(es:List jH)(w:dY)(h:FB w B m k kn ow)(hr:sJ own)(hp:p<m.bs.length)(ho:jg w a n es)(hn:n<=maxLen)(hf:oD own seq es=0)
 (u:∀W,eE w W->eZ e7 217 #[π (μ ⟨B,0,ν⟩),.agg #[ι κ own,ι κ seq,σ a n cap]] W λe w'=>e=ρ (ι κ 1)/\eE W w'):
 eZ e7 191 #[π (μ ⟨B,0,ν⟩),ι κ (p:Int),.agg #[ι κ own,ι κ seq,σ a n cap]] w λe w'=>e=ρ η/\FB w' B m k kn (λi=>if i=p then del (ow p) own else ow i)/\jF w w' m:=by
 have hb:=gY w (γ #[ι κ own,ι κ seq,σ a n cap] 40);obtain⟨A,U⟩:=gq (w.alloc (γ #[ι κ own,ι κ seq,σ a n cap] 40));have M:A.heap[w.heap.size]? =μ (γ #[ι κ own,ι κ seq,σ a n cap] 40 (0,0)):=by rw[<-U];exact aY w _
 rw[U]at hb;have HW:Hid _:=U;have J:=qO B m k kn ow (p:Int) own seq a n cap es A (h.below hb) hn (ho.below hb);have y:wa m.bs.length (p:Int) own seq es=0:=by rw[wa,ai eh,hf]
 have G:jk 0=η:=rfl;rw[y,G]at J;have Uh:Hid _:=u;have hpi:(p:Int)<(m.bs.length:Int):=eh;have yy:=h.few;clear U y G u hf
 go_in
 go_wp2_with(fail);rw[HW.out];refine J.mono ?_;rintro e Z ⟨rfl,k2⟩;have b2:=gu hb k2;have X:=(k2.block _ (ax.1 M).1).trans M;have x0:Z.cell? ⟨w.heap.size,0,ν⟩=μ (ι κ own):=aw Z _ 0 _ _ (0,0) X;have x1:Z.cell? ⟨w.heap.size,1,ν⟩=μ (ι κ seq):=aw Z _ 1 _ _ (0,0) X;have x2:Z.cell? ⟨w.heap.size,2,ν⟩=μ (σ a n cap):=aw Z _ 2 _ _ (0,0) X;have H:w.heap.size<Z.heap.size:=ag Z _ x0;clear J M hb k2;go_wp2_with(fail);refine(Uh.out Z b2).mono ?_;rintro e Y ⟨rfl,k3⟩;have b3:=gu b2 k3;have yx:=(k3.block _ H).trans X;clear x0 x1 x2 H X;have x0:Y.cell? ⟨w.heap.size,0,ν⟩=μ (ι κ own):=aw Y _ 0 _ _ (0,0) yx;have H:w.heap.size<Y.heap.size:=ag Y _ x0;have V:=h.below b3;have E:eE w Y.drew:=below_drewN b3 1;have S:=h.below E;have T:m.bs[p]? =μ m.bs[p] :=ay hp;obtain⟨W5,M9,D,Q⟩:=(S.om p _ T).drop own hr 0;have j:=S.M8 T Q D (Nat.le_refl _);have M5:jF w W5 m:=(jF.iW m E).trans (jF.pR Q (.inr (aF _)));have c1:Y.cell? ⟨B,1,ν⟩=μ (σ (μ ⟨m.g,0,ν⟩) m.bs.length m.cap):=V.c1;have lB:=V.lt;have cp:=V.port p _ T;have gl:m.g<Y.heap.size:=ag Y _ cp;generalize m.bs[p] =bp at cp M9;clear V S D Q T k3
 go_wp2
 go_region
 all_goals
  go_wp2
  go_ret;exact⟨rfl,j,M5⟩
theorem QR(B:Nat)(m:FM)(k:Nat)(kn:Int->Option SV)(ow:Nat->Int->Option SV)(p:Nat)(own seq:Int)(a:Option dX)(n cap:Nat)(es:List jH)(w:dY)(h:FB w B m k kn ow)(hp:p<m.bs.length)(D:jg w a n es)(E:n<=maxLen)(hf:oD own seq es=0)
 (M:∀W,eE w W->eZ e7 217 #[π (μ ⟨B,0,ν⟩),.agg #[ι κ own,ι κ seq,σ a n cap]] W λe w'=>e=ρ (ι κ (-1))/\eE W w'):
 eZ e7 191 #[π (μ ⟨B,0,ν⟩),ι κ (p:Int),.agg #[ι κ own,ι κ seq,σ a n cap]] w λe w'=>e=ρ η/\eE w w':=by
 have hb:=gY w (γ #[ι κ own,ι κ seq,σ a n cap] 40);obtain⟨S,X⟩:=gq (w.alloc (γ #[ι κ own,ι κ seq,σ a n cap] 40));have V:S.heap[w.heap.size]? =μ (γ #[ι κ own,ι κ seq,σ a n cap] 40 (0,0)):=by rw[<-X];exact aY w _
 rw[X]at hb;have H:Hid _:=X;have U:=qO B m k kn ow (p:Int) own seq a n cap es S (h.below hb) E (D.below hb);have Q:wa m.bs.length (p:Int) own seq es=0:=by rw[wa,ai eh,hf]
 have T:jk 0=η:=rfl;rw[Q,T]at U;have G:Hid _:=M;have hpi:(p:Int)<(m.bs.length:Int):=eh;have yy:=h.few;clear X Q T M hf
 go_in
 go_wp2_with(fail);rw[H.out];refine U.mono ?_;rintro e Z ⟨rfl,k2⟩;have b2:=gu hb k2;have Y:=(k2.block _ (ax.1 V).1).trans V;have x0:Z.cell? ⟨w.heap.size,0,ν⟩=μ (ι κ own):=aw Z _ 0 _ _ (0,0) Y;have x1:Z.cell? ⟨w.heap.size,1,ν⟩=μ (ι κ seq):=aw Z _ 1 _ _ (0,0) Y;have x2:Z.cell? ⟨w.heap.size,2,ν⟩=μ (σ a n cap):=aw Z _ 2 _ _ (0,0) Y;have J:w.heap.size<Z.heap.size:=ag Z _ x0;clear U V hb k2;go_wp2_with(fail);refine(G.out Z b2).mono ?_;rintro e w3 ⟨rfl,k3⟩;have b3:=gu b2 k3;have yx:=(k3.block _ J).trans Y;clear x0 x1 x2 J Y;clear k3
 go_wp2
 go_ret;exact⟨rfl,b3⟩
theorem Pc(B:Nat)(m:FM)(k:Nat)(kn:Int->Option SV)(ow:Nat->Int->Option SV)(i:Int)(t:SV)(ok:Bool)(fs:List jH)(w:dY)(h:FB w B m k kn ow)(hr:sJ i)(hd:(kn i).getD SV.zero=t)(hs:(kn i).isSome=ok)(M:jg w t.a t.n fs)(hn:t.n<=1000000)(kr:kN t.a t.cap):
 eZ e7 177 #[π (μ ⟨B,0,ν⟩),ι κ i] w λe w'=>∃(a:Option dX) (cap:Nat),e=ρ (τ #[.agg #[ι κ t.own,ι κ t.seq,σ a fs.length cap],.bool ok])/\jg w' a fs.length fs/\kN a cap/\eE w w':=by
 obtain⟨T,ts,ta,tn,S⟩:=t;simp only at M hn kr;have hz:=pQ;have hb:=gY w (γ #[ι κ 0,ι κ 0,σ ν 0 0] 40);obtain⟨Y,U⟩:=gq (w.alloc (γ #[ι κ 0,ι κ 0,σ ν 0 0] 40));have qe:Y.heap[w.heap.size]? =μ (γ #[ι κ 0,ι κ 0,σ ν 0 0] 40 (0,0)):=by rw[<-U];exact aY w _
 have H:Y.heap.size=w.heap.size+1:=by rw[<-U];simp
 rw[U]at hb;have HW:Hid _:=U;clear U;have X:=h.below hb;have pI:(fq 211 (.map (μ m.bm)) (ι κ i) true).run e7 Y=.ok (τ #[.agg #[ι κ T,ι κ ts,σ ta tn S],.bool ok]) Y:=by
  have:=X.km.look_ok i hr;rw[hd,hs]at this;exact this
 have c0:=X.c0;have hl:=X.lt;have J:eE w (Y.alloc (γ #[ι κ T,ι κ ts,σ ta tn S] 40)):=hb.alloc hb.size _;have G:=D6 T ts ta tn S fs _ hn kr (M.below J);have A:(Y.alloc (γ #[ι κ T,ι κ ts,σ ta tn S] 40)).heap[w.heap.size]? =μ (γ #[ι κ 0,ι κ 0,σ ν 0 0] 40 (0,0)):=by
  rw[aU _ _ _ eh];exact qe
 have HB:Hid _:=J;have D:Hid _:=A;have HS:Hid _:=H;clear h X hd hs M hb J A qe H
 go_in
 go_upto_region 1 with fail
 rw[HW.out];go_wp2_with(fail);refine G.mono ?_;rintro e Z ⟨⟨Q,vc,rfl,vo,vn,vl,E⟩,k2⟩;clear G pI c0;have V:=(k2.block _ (ax.1 D.out).1).trans D.out;have y0:Z.cell? ⟨w.heap.size,0,ν⟩=μ (ι κ 0):=aw Z _ 0 _ _ (0,0) V;have y1:Z.cell? ⟨w.heap.size,1,ν⟩=μ (ι κ 0):=aw Z _ 1 _ _ (0,0) V;have y2:Z.cell? ⟨w.heap.size,2,ν⟩=μ (σ ν 0 0):=aw Z _ 2 _ _ (0,0) V;have fy:=λj=>bB Z w.heap.size j _ _ V;have ly:w.heap.size<Z.heap.size:=ag Z _ y0;have y:=gu HB.out k2;have HC:Hid (∀u v x:dZ,jg (((Z.setCell ⟨w.heap.size,0,ν⟩ u).setCell ⟨w.heap.size,1,ν⟩ v).setCell ⟨w.heap.size,2,ν⟩ x) Q fs.length fs/\kN Q vc/\eE w (((Z.setCell ⟨w.heap.size,0,ν⟩ u).setCell ⟨w.heap.size,1,ν⟩ v).setCell ⟨w.heap.size,2,ν⟩ x)):=by
  intro u v x;refine⟨vo.kept (cap:=vc) (λj hj=> ?_),vn,((y.setCell (Nat.le_refl _) _).setCell (Nat.le_refl _) _).setCell (Nat.le_refl _) _⟩;have X:=(E j hj).1;have h2:=HS.out;have h3:w.heap.size+1<=j:=by simp at X;omega
  rw[ak _ _ _ _ (by show j≠w.heap.size;omega),ak _ _ _ _ (by show j≠w.heap.size;omega),ak _ _ _ _ (by show j≠w.heap.size;omega)]
 clear vo E k2 V y;go_wp2_with(fail);refine aE (v:=τ #[.agg #[ι κ T,ι κ ts,σ Q fs.length vc],.bool ok]) (by simp[results,results177,go_sem,y0,y1,y2]) rfl ?_;exact⟨Q,vc,rfl,HC.out _ _ _⟩
open Go.Maps (Keyed)
theorem AP(h:(Lit.int .i64 x).wf=true):sJ x:=by
 simp[Lit.wf,IntKind.min,IntKind.max,IntKind.signed,IntKind.bits]at h;exact⟨eh,eh⟩
theorem ry(x y:Int):(Lit.int .i64 x).sameKey (.int .i64 y)=decide (x=y):=by simp[Lit.sameKey]
def mix(fd fs:Int->Option SV)(left:Lit->Bool):Int->Option SV:=λk=>if left (.int .i64 k)=false/\(fs k).isSome=true then fs k else fd k
theorem Um {fd fs:Int->Option SV} {s:SV} (h:fs x=μ s):(λk=>if k=x then μ s else mix fd fs left k)=mix fd fs (λz=>left z&& !z.sameKey (.int .i64 x)):=by
 funext k
 by_cases e:k=x
 ·subst e;simp[mix,ry,h]
 ·simp[mix,ry,e]
def over(fd fs:Int->Option SV):Int->Option SV:=λk=>if(fs k).isSome=true then fs k else fd k
theorem Yh {fd fs:Int->Option SV} (h:∀Z,left Z=false):mix fd fs left=over fd fs:=by
 funext k
 simp[mix,over,h]
theorem SMap.congr {f g:Int->Option SV} (h:SMap w b n f)(e:∀k,sJ k->f k=g k):SMap w b n g:=by
 obtain⟨D,Y,X⟩:=h.own;exact⟨⟨D,Y,λk Z=>by rw[<-e k Z];exact X k Z⟩⟩
theorem QS(bd bs nd ns:Nat)(fd fs:Int->Option SV)(w:dY)(hd:SMap w bd nd fd)(hs:SMap w bs ns fs)(jx:bd≠bs)(aam:nd+ns<=2000000):
 eZ e7 181 #[.map (μ bd),.map (μ bs)] w λe w'=>e=ρ (τ #[])/\SMap w' bd (nd+ns) (over fd fs)/\w.grownBy w' (μ bd):=by
 obtain⟨D,jq,Nc⟩:=hs.own;have rV:=jq.size_le;have kD:=hd.lt;have Ga:=hs.lt;have hz:=pQ;have H0:Hid (∀k,sJ k->fs k=ν->∀z,D.atKey (.int .i64 k) z=z):=λk H e=>by have:=Nc k H;rw[e]at this;exact this
 have H1:Hid (∀k s,sJ k->fs k=μ s->∀z,D.atKey (.int .i64 k) z=.held s):=λk s H e=>by have:=Nc k H;rw[e]at this;exact this
 clear Nc hs
 go_in
 go_wp2_with(first
  |(at_range;refine wpList_range_own _ rfl _ 211 rfl 3 40 uT underlying211 tG bs ns _ rfl jq ?_;intro w0 Un Pf hs0)
  |fail)
 go_frame
 go_loopw [8] (λ_ wr=>∃(left:Lit->Bool) (X:Nat),wr.ranges e7 3 tG bs w.heap.size ns D left X/\X<=ns/\SMap wr bd (nd+(ns-X)) (mix fd fs left)/\w.grownBy wr (μ bd))
  (λ_ wr=>wr.rangeLeft bs w.heap.size)
 case atStart=>
  refine⟨_,_,Un,rV,((hd.kept Pf gZ).mono eh).congr (λk H=> ?_),Pf.but _⟩;cases e:fs k with
  |none=>simp[mix,e]
  |some s=>simp[mix,Maps.has_true_of_atKey (H1.out k s H e)]
 case round=>
  clear Un Pf hs0 jq hd;obtain⟨left,X,E,hcs,u,Kj⟩:=hrel;go_wp2_with(first
   |(at_next;refine wpList_next_ranges _ rfl _ rfl 3 uT tG (Value.int .i64) SV.v (λkey kl h=>by obtain⟨x,rfl,_⟩:=cz underlying3 h;exact⟨x,rfl⟩) (λv y hv=>by obtain⟨s,rfl,_⟩:=xr hv;exact⟨s,rfl⟩) bs w.heap.size ns _ _ _ rfl E ?_ ?_)
   |fail)
  ·intro rL vY;have HE:Hid (SMap wr bd (nd+ns) (over fd fs)):=by
    show SMap wr bd (nd+ns) (over fd fs);rw[<-Yh vY];exact u.mono eh
   clear E u
   go_wp2
   first|go_end0|refine iM rfl rfl ?_
   exact⟨rfl,HE.out,Kj⟩
  ·intro x c kl yd yp w1 A h hlx hv hat Uo Gn kG DV Az;obtain⟨x',ex,rfl,G⟩:=cz underlying3 h;cases ex;have zv:=AP G;obtain⟨V,cs,ca,Y,Z⟩:=c;rw[zu]at hv;have hy:yd=.held ⟨V,cs,ca,Y,Z⟩:=by have:=Option.some.inj hv;simp only[fe]at this;exact this.1.symm
   have M:fs x=μ ⟨V,cs,ca,Y,Z⟩:=by
    cases e:fs x with
    |none=>
     have Q:=H0.out x zv e .nil;rw[hat,hy]at Q;cases Q
    |some s=>
     have Q:=H1.out x s zv e .nil;rw[hat,hy]at Q;cases Q;rfl
   have S:=(u.kept kG (λe=>by have:=Option.some.inj e;omega)).alloc (γ #[ι κ V,ι κ cs,σ ca Y Z] 40);obtain⟨T,tj,S2,T2⟩:=S.store (by unfold maxLen;omega) x zv ⟨V,cs,ca,Y,Z⟩;have apw:(fh 211 (.map (μ bd)) (ι κ x) (.agg #[ι κ V,ι κ cs,σ ca Y Z])).run e7 (w1.alloc (γ #[ι κ V,ι κ cs,σ ca Y Z] 40))=.ok () T:=tj;rw[Um M]at S2;have afl:(Instr.entry (π (μ ⟨w.heap.size,0,ν⟩))).run e7 w1=.ok (τ #[ι κ x,.agg #[ι κ V,ι κ cs,σ ca Y Z]]) w1:=Az;have U:=(Uo.alloc (γ #[ι κ V,ι κ cs,σ ca Y Z] 40)).kept T2.grown (λe=>jx (Option.some.inj e).symm) (λe=>by have:=Option.some.inj e;omega);have BQ:w.grownBy T (μ bd):=((Kj.andThen kG (λj J=>.inl (by cases J;exact Nat.le_refl _))).andThen ((World.grownBy_alloc w1 (γ #[ι κ V,ι κ cs,σ ca Y Z] 40) ν).but (μ bd)) (λj J=>.inr J)).andThen T2.grown (λj J=>.inr J);have HR:Hid (T.ranges e7 3 tG bs w.heap.size ns D (λz=>left z&& !z.sameKey (.int .i64 x)) A/\A<=ns/\SMap T bd (nd+(ns-A)) (mix fd fs (λz=>left z&& !z.sameKey (.int .i64 x)))/\w.grownBy T (μ bd)):=⟨U,eh,S2.mono eh,BQ⟩
   have HM:Hid (T.rangeLeft bs w.heap.size<wr.rangeLeft bs w.heap.size):=by
    show _<_;rw[U.left_eq,E.left_eq];exact Gn
   clear tj Az S2 T2 S u E Uo U kG BQ Kj hat hy hv M hlx h G;go_wp2_with(fail)
   first|go_frame|skip
   go_roundw
   case rel=>exact⟨_,A,HR.out⟩
   case measure=>exact HM.out
