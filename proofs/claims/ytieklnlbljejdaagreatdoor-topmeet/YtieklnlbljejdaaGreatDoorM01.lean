import Derived.Test.YtieklnlbljejdaaGreatDoorM00
open Go.Value renaming int → ι, slice → σ, pointer → π, tuple → τ, nilIface → η
open Go.IntKind renaming i64 → κ
open Go.Ending renaming returned → ρ
open Go.Obj renaming cells → γ
open Option renaming none → ν, some → μ
open List renaming length_cons → eZ, map_cons → eN, map_nil → eO
open Prod.mk renaming injEq → e7
open Go.Proofs.Tryz renaming prog → eX
open Go renaming World → dY, Calls → eW, Addr → dX, Value → dZ, TypeId → ew
open Go.RowKit renaming intOf → eY
open Go.Value renaming ownBlock → eu
open Go.Instr renaming mapUpdate → fa, lookup → fe
open Go.Maps renaming atKey_put_other → fc, atKey_del_other → fh
open Go.Builtin renaming clear_ → fj
set_option maxRecDepth 100000
set_option maxHeartbeats 4000000
open Go.Proofs.Tryz
namespace Go.Proofs.YtieklnlbljejdaaGreatDoor
namespace St
variable {a b s1 s2:Int}
abbrev Ed:=Int×Int
def qt(own:Int):Int->List Ed->Nat
 |_,[] =>0
 |ah,e::r=>if e.1<1 \/6<e.1 \/e.2<1 \/20<e.2 then 1 else if e.1=own \/e.1<=ah then 3 else qt own e.1 r
def oy(own seq:Int)(es:List Ed):Nat:=if own<1 \/6<own \/seq<1 \/1000000<seq then 1 else if 6<es.length then 2 else qt own 0 es
theorem jt {own seq:Int} {es:List Ed} (h:oy own seq es=0):(1<=own/\own<=6)/\(1<=seq/\seq<=1000000)/\es.length<=6/\qt own 0 es=0:=by
 unfold oy at h;split at h
 ·simp at h
 ·split at h
  ·simp at h
  ·exact⟨eh,eh,eh,h⟩
theorem pU(own:Int):∀(es:List Ed) (Y:Int),qt own Y es=0->∀e∈es,(1<=e.1/\e.1<=6)/\(1<=e.2/\e.2<=20)
 |[],_,_,e,Z=>by simp at Z
 |x::r,Y,h,e,Z=>by
  unfold qt at h;split at h
  ·simp at h
  ·split at h
   ·simp at h
   ·rcases aP.1 Z with rfl|Z
    ·omega
    ·exact pU own r _ h e Z
def u8(x:Int):UInt8:=UInt8.ofNat x.toNat
theorem pA(x:Int)(h0:0<=x)(h1:x<=255):((u8 x).toNat:Int)=x:=by
 unfold u8;rw[UInt8.toNat_ofNat_of_lt' (by show x.toNat<256;omega)];omega
def Mp(es:List Ed):List UInt8:=es.flatMap λo=>[u8 o.1,u8 o.2]
theorem TB(os:List Ed)(o:Ed):Mp (os++ [o])=Mp os++ [u8 o.1,u8 o.2] :=by simp[Mp]
theorem yh(os:List Ed):(Mp os).length=2*os.length:=by
 induction os with
 |nil=>rfl
 |cons o r ih=>simp only[Mp,List.flatMap_cons,List.length_append,eZ,List.length_nil]at ih⊢;omega
def rb(own seq:Int)(es:List Ed):List UInt8:=u8 own::u8 (seq%256)::u8 (seq/256%256)::u8 (seq/65536)::Mp es
def pairs:List UInt8->List Ed
 |k::n::r=>((k.toNat:Int),(n.toNat:Int))::pairs r
 |_=>[]
theorem zg:∀l:List UInt8,(pairs l).length=l.length/2
 |[] =>rfl
 |[_] =>by simp[pairs]
 |a::b::r=>by
  have ih:=zg r;simp only[pairs,eZ,ih];omega
theorem GK:∀(os:List Ed),(∀o∈os,(0<=o.1/\o.1<=255)/\(0<=o.2/\o.2<=255))->pairs (Mp os)=os
 |[],_=>rfl
 |o::r,h=>by
  have X:Mp (o::r)=u8 o.1::u8 o.2::Mp r:=by simp[Mp]
  obtain⟨Z,Y⟩:=h o gY;rw[X,pairs,pA o.1 Z.1 Z.2,pA o.2 Y.1 Y.2,GK r (λx hx=>h x (by simp[hx]))]
def Kg(l:List UInt8):Int:=((l.getD 1 0).toNat:Int)+256*((l.getD 2 0).toNat:Int)+65536*((l.getD 3 0).toNat:Int)
def il(l:List UInt8):Int×Int×List Ed×Nat:=
 if l.length<4 \/l.length%2=1 then(0,0,[],4)
 else if oy ((l.getD 0 0).toNat:Int) (Kg l) (pairs (l.drop 4))=0 then(((l.getD 0 0).toNat:Int),Kg l,pairs (l.drop 4),0)
 else(0,0,[],4)
theorem Kh(l:List UInt8)(h:16<l.length):il l=(0,0,[],4):=by
 unfold il;split
 ·rfl
 ·rename_i h1
  have hl:6<(pairs (l.drop 4)).length:=by rw[zg];simp;omega
  split
  ·rename_i Z
   have:=(jt Z).2.2.1;omega
  ·rfl
theorem nO(own seq:Int)(es:List Ed)(hf:oy own seq es=0):il (rb own seq es)=(own,seq,es,0):=by
 obtain⟨p1,p2,p3,X⟩:=jt hf;have Y:=pU own es 0 X;have hl:(rb own seq es).length=4+2*es.length:=by
  unfold rb;simp only[eZ,yh];omega
 have g0:(rb own seq es).getD 0 0=u8 own:=rfl;have V:(rb own seq es).drop 4=Mp es:=rfl;have hs:Kg (rb own seq es)=seq:=by
  show((u8 (seq%256)).toNat:Int)+256*((u8 (seq/256%256)).toNat:Int)+65536*((u8 (seq/65536)).toNat:Int)=seq;rw[pA _ eh eh,pA _ eh eh,pA _ eh eh];omega
 unfold il;rw[g0,V,hs,pA own eh eh,GK es (λo Z=>by have:=Y o Z;omega),hl,af eh,ai hf]
def lW(a b:Int):Int:=if a<b then-1 else if b<a then 1 else 0
def yi(a b:Ed):Int:=if lW a.1 b.1≠0 then lW a.1 b.1 else lW a.2 b.2
def l7:List Ed->List Ed->Int
 |[],[] =>0
 |[],_::_=> -1
 |_::_,[] =>1
 |a::r,b::q=>if yi a b≠0 then yi a b else l7 r q
def lS(s1:Int)(e1:List Ed)(s2:Int)(e2:List Ed):Int:=if lW s1 s2≠0 then lW s1 s2 else l7 e1 e2
theorem Qk(a b:Int):lW a b= -lW b a:=by unfold lW;split<;>split<;>(try split)<;>omega
theorem nC:lW a b=0↔a=b:=by unfold lW;constructor<;>intro h<;>(try split at h)<;>(try split at h)<;>(try split)<;>(try split)<;>omega
theorem ME(a b:Int):lW a b= -1 \/lW a b=0 \/lW a b=1:=by unfold lW;split<;>(try split)<;>simp
theorem tZ:0<lW a b↔b<a:=by unfold lW;split<;>(try split)<;>omega
theorem qH(a b:Ed):(yi a b=1/\(b.1<a.1 \/b.1=a.1/\b.2<a.2)) \/(yi a b= -1/\(a.1<b.1 \/a.1=b.1/\a.2<b.2)) \/(yi a b=0/\a=b):=by
 obtain⟨a1,a2⟩:=a;obtain⟨b1,b2⟩:=b;simp only[yi,lW,e7]
 repeat' split
 all_goals omega
theorem Ql(a b:Ed):yi a b= -yi b a:=by
 obtain⟨a1,a2⟩:=a;obtain⟨b1,b2⟩:=b;simp only[yi,lW]
 repeat' split
 all_goals omega
theorem DI:∀a b:List Ed,l7 a b= -1 \/l7 a b=0 \/l7 a b=1
 |[],[] =>by simp[l7]
 |[],_::_=>by simp[l7]
 |_::_,[] =>by simp[l7]
 |a::r,b::q=>by
  unfold l7;split
  ·rcases qH a b with h|h|h<;>simp[h.1]
  ·exact DI r q
theorem GL:∀a b:List Ed,l7 a b= -l7 b a
 |[],[] =>by simp[l7]
 |[],_::_=>by simp[l7]
 |_::_,[] =>by simp[l7]
 |a::r,b::q=>by
  have h:=Ql a b;have ih:=GL r q;unfold l7;split<;>split<;>omega
theorem GM:∀ {a b:List Ed},l7 a b=0↔a=b
 |[],[] =>by simp[l7]
 |[],_::_=>by simp[l7]
 |_::_,[] =>by simp[l7]
 |a::r,b::q=>by
  have ih:= @GM r q;unfold l7;rcases qH a b with h|h|h
  ·rw[ai eh,h.1];constructor
   ·intro e;simp at e
   ·intro e;obtain⟨Y,Z⟩:=a;obtain⟨b1,b2⟩:=b;simp at e h;omega
  ·rw[ai eh,h.1];constructor
   ·intro e;simp at e
   ·intro e;obtain⟨Y,Z⟩:=a;obtain⟨b1,b2⟩:=b;simp at e h;omega
  ·rw[af eh,ih];simp[h.2]
theorem DJ:∀ {a b c:List Ed},0<=l7 a b->0<=l7 b c->0<=l7 a c/\(0<l7 a b \/0<l7 b c->0<l7 a c)
 |[],[],[],_,_=>by simp[l7]
 |[],[],_::_,_,h=>by simp[l7]at h
 |[],_::_,_,h,_=>by simp[l7]at h
 |_::_,[],[],_,_=>by simp[l7]
 |_::_,[],_::_,_,h=>by simp[l7]at h
 |_::_,_::_,[],_,_=>by simp[l7]
 |a::r,b::q,c::s,h1,h2=>by
  have ih:= @DJ r q s;unfold l7 at h1 h2⊢;rcases qH a b with⟨Y,U⟩|⟨Y,U⟩|⟨Y,rfl⟩
  ·rcases qH b c with⟨Z,V⟩|⟨Z,V⟩|⟨Z,rfl⟩
   ·rcases qH a c with⟨X,T⟩|⟨X,T⟩|⟨X,rfl⟩
    ·simp[X]
    ·omega
    ·omega
   ·simp[Z]at h2
   ·simp[Y]
  ·simp[Y]at h1
  ·rcases qH a c with⟨Z,V⟩|⟨Z,V⟩|⟨Z,rfl⟩
   ·simp[Z]
   ·simp[Z]at h2
   ·simp only[Y]at h1 h2⊢;simp at h1 h2⊢;exact ih h1 h2
theorem ub(s1 s2:Int)(Z Y:List Ed):lS s1 Z s2 Y= -lS s2 Y s1 Z:=by
 have h:=Qk s1 s2;have ih:=GL Z Y;unfold lS;split<;>split<;>omega
theorem Ax {e1 e2:List Ed}:lS s1 e1 s2 e2=0↔s1=s2/\e1=e2:=by
 unfold lS;split
 ·rename_i h
  constructor
  ·intro e;exact absurd e h
  ·intro⟨e,_⟩;exact absurd (nC.2 e) h
 ·rename_i h
  have:s1=s2:=nC.1 eh;rw[GM];simp[this]
theorem DK(s1 s2:Int)(Z Y:List Ed):lS s1 Z s2 Y= -1 \/lS s1 Z s2 Y=0 \/lS s1 Z s2 Y=1:=by
 unfold lS;split
 ·rcases ME s1 s2 with h|h|h<;>simp[h]
 ·exact DI Z Y
theorem yj {s3:Int} {e1 e2 e3:List Ed} (Y:0<=lS s1 e1 s2 e2)(Z:0<=lS s2 e2 s3 e3):0<=lS s1 e1 s3 e3/\(0<lS s1 e1 s2 e2 \/0<lS s2 e2 s3 e3->0<lS s1 e1 s3 e3):=by
 unfold lS at Y Z⊢;by_cases a:s1=s2
 ·by_cases b:s2=s3
  ·have c:s1=s3:=a.trans b;rw[af (by simp[nC.2 a])]at Y;rw[af (by simp[nC.2 b])]at Z;have X:=nC.2 a;have hb:=nC.2 b;have hc:=nC.2 c;rw[af (show¬lW s1 s2≠0 by omega),af (show¬lW s2 s3≠0 by omega),af (show¬lW s1 s3≠0 by omega)];exact DJ Y Z
  ·have hb:lW s2 s3≠0:=λe=>b (nC.1 e);rw[ai hb]at Z;have p:s3<s2:=tZ.1 eh;have q:0<lW s1 s3:=tZ.2 eh;rw[ai (show lW s1 s3≠0 by omega)];exact⟨eh,λ_=>q⟩
 ·have X:lW s1 s2≠0:=λe=>a (nC.1 e);rw[ai X]at Y;have p:s2<s1:=tZ.1 eh;have p2:s3<=s2:=by
   by_cases b:lW s2 s3=0
   ·have:=nC.1 b;omega
   ·rw[ai b]at Z;have:=tZ.1 (show 0<lW s2 s3 by omega);omega
  have q:0<lW s1 s3:=tZ.2 eh;rw[ai (show lW s1 s3≠0 by omega)];exact⟨eh,λ_=>q⟩
end St
open Go.RowKit St
variable {B b n n':Nat} {k:Int} {w w':World}
theorem zh:(eX.info? 123).map (λi=>(i.zero,i.size,i.bytes))=μ (μ (.agg #[ι κ 0,ι κ 0]),2,16):=gq
theorem pJ(w:dY):(zeroValue 40).run eX w=.ok (.agg #[ι κ 0,ι κ 0,σ ν 0 0]) w:=gq
def TC(n:Int):Bool:=decide (1<=n)&&decide (n<=6)
theorem uI(n:Int)(w:dY):eW eX 167 #[ι κ n] w λe w'=>e=ρ (.bool (TC n))/\w=w':=by
 by_cases Z:1<=n
 ·by_cases Y:n<=6
  ·have hb:TC n=true:=by simp[TC,Z,Y]
   rw[hb];clear hb
   go_in
   go_wp2
   go_ret;exact⟨by first|rfl|(simp;omega),rfl⟩
  ·have hb:TC n=false:=by simp[TC,Y]
   rw[hb];clear hb
   go_in
   go_wp2
   go_ret;exact⟨by first|rfl|(simp;omega),rfl⟩
 ·have hb:TC n=false:=by simp[TC,Z]
  rw[hb];clear hb
  go_in
  go_wp2
  go_ret;exact⟨by first|rfl|(simp;omega),rfl⟩
theorem DL(n:Int)(h0:¬n<1)(h1:¬6<n):TC n=true:=by simp[TC];omega
theorem Ay(n:Int)(h:n<1 \/6<n):TC n=false:=by simp[TC];omega
theorem DM(own:Int)(a:Option dX)(n cap:Nat)(os:List jE)(w:dY)(hn:n<=1000000)(Q:jc w a n os):
 eW eX 168 #[ι κ own,σ a n cap] w λe w'=>e=ρ (jm (qt own 0 os))/\eE w w':=by
 have H:jm 0=η:=rfl;have E:jm 1=.iface 128 (ι κ 1):=rfl;have G:jm 3=.iface 128 (ι κ 3):=rfl;have H0:Hid _:=H;have S:Hid _:=E;have A:Hid _:=G;clear H E G
 go_in
 go_wp2
 go_loopw [5,10] (λj i wr=>∃(k:Nat) (h:Int),k<=n/\j=ι κ h/\i=ι κ k/\qt own 0 os=qt own h (os.drop k)/\eE w wr) (λ_ i _=>n-(eY i).toNat)
 case atStart=>exact⟨0,0,Nat.zero_le _,rfl,rfl,rfl,av _ _⟩
 case round=>
  obtain⟨k,h,hk,rfl,rfl,D,U⟩:=hrel;have V:Hid _:=D;clear D;by_cases kB:k<n
  ·have M:=Q.below U;rcases M.2 with h0|⟨b,off,rfl,hc⟩
   ·omega
   have y:k<os.length:=by rw[Q.1];exact kB
   obtain⟨c1,c2⟩:=hc k y;have T:Hid (os.drop k=os[k] ::os.drop (k+1)):=aS y;generalize os[k] =o at c1 c2 T;clear hc M;have nQ:(k:Int)<(n:Int):=eh;have X:=U.alloc U.size (γ #[ι κ o.1,ι κ o.2] 123);have Y:=uI o.1 (wr.alloc (γ #[ι κ o.1,ι κ o.2] 123));have one:(o.1<1 \/6<o.1 \/o.2<1 \/20<o.2)->Hid (qt own 0 os=1):=λhh=>by
    show _=_;rw[V.out,T.out,qt,ai hh]
   by_cases r1:o.1<1 \/6<o.1
   ·have Z:=one eh;rw[Ay o.1 r1]at Y;clear one;go_wp2_with(fail);refine Y.mono ?_;rintro e w1 ⟨rfl,rfl⟩;go_wp2_with(fail);rw[Z.out,S.out];go_ret;exact⟨rfl,X⟩
   rw[DL o.1 eh eh]at Y;by_cases r2:o.2<1
   ·have Z:=one eh;clear one;go_wp2_with(fail);refine Y.mono ?_;rintro e w1 ⟨rfl,rfl⟩;go_wp2_with(fail);rw[Z.out,S.out];go_ret;exact⟨rfl,X⟩
   by_cases r3:20<o.2
   ·have Z:=one eh;clear one;go_wp2_with(fail);refine Y.mono ?_;rintro e w1 ⟨rfl,rfl⟩;go_wp2_with(fail);rw[Z.out,S.out];go_ret;exact⟨rfl,X⟩
   have three:(o.1=own \/o.1<=h)->Hid (qt own 0 os=3):=λhh=>by
    show _=_;rw[V.out,T.out,qt,af eh,ai hh]
   clear one;cases J:(o.1==own)
   ·by_cases u:o.1<=h
    ·have Z:=three (.inr u);clear three;go_wp2_with(fail);refine Y.mono ?_;rintro e w1 ⟨rfl,rfl⟩;go_wp2_with(fail);rw[Z.out,A.out];go_ret;exact⟨rfl,X⟩
    ·have HN:Hid (qt own 0 os=qt own o.1 (os.drop (k+1))):=by
      show _=_;have r4':¬o.1=own:=by simpa using J
      rw[V.out,T.out,qt,af eh,af eh]
     clear three;go_wp2_with(fail);refine Y.mono ?_;rintro e w1 ⟨rfl,rfl⟩
     go_wp2
     go_roundw
     case rel=>exact⟨k+1,_,eh,rfl,by go_num,HN.out,X⟩
     case measure=>simp[eY];omega
   ·have Z:=three (.inl (by simpa using J));clear three;go_wp2_with(fail);refine Y.mono ?_;rintro e w1 ⟨rfl,rfl⟩;go_wp2_with(fail);rw[Z.out,A.out];go_ret;exact⟨rfl,X⟩
  ·have Z:Hid (qt own 0 os=0):=by
    show _=_;rw[V.out,a9 (by rw[Q.1];omega),qt]
   go_wp2_with(fail);rw[Z.out,H0.out];go_ret;exact⟨rfl,U⟩
theorem yk(own seq:Int)(a:Option dX)(n cap:Nat)(os:List jE)(w:dY)(T:n<=1000000)(U:jc w a n os):
 eW eX 117 #[.agg #[ι κ own,ι κ seq,σ a n cap]] w λe w'=>e=ρ (jm (oy own seq os))/\eE w w':=by
 have X:=gW w (γ #[ι κ own,ι κ seq,σ a n cap] 40);have V:Hid (jm 1=.iface 128 (ι κ 1)):=rfl;have S:Hid (jm 2=.iface 128 (ι κ 2)):=rfl;have hl:=U.1;have Y:=uI own (w.alloc (γ #[ι κ own,ι κ seq,σ a n cap] 40));have one:(own<1 \/6<own \/seq<1 \/1000000<seq)->Hid (oy own seq os=1):=λhh=>by show _=_;rw[oy,ai hh]
 by_cases r1:own<1 \/6<own
 ·have Z:=one eh;rw[Ay own r1]at Y;clear one
  go_in
  go_wp2_with(fail);refine Y.mono ?_;rintro e w1 ⟨rfl,rfl⟩;go_wp2_with(fail);rw[Z.out,V.out];go_ret;exact⟨rfl,X⟩
 rw[DL own eh eh]at Y;by_cases r2:seq<1
 ·have Z:=one eh;clear one
  go_in
  go_wp2_with(fail);refine Y.mono ?_;rintro e w1 ⟨rfl,rfl⟩;go_wp2_with(fail);rw[Z.out,V.out];go_ret;exact⟨rfl,X⟩
 by_cases r3:1000000<seq
 ·have Z:=one eh;clear one
  go_in
  go_wp2_with(fail);refine Y.mono ?_;rintro e w1 ⟨rfl,rfl⟩;go_wp2_with(fail);rw[Z.out,V.out];go_ret;exact⟨rfl,X⟩
 clear one;by_cases r4:(6:Int)<(n:Int)
 ·have Z:Hid (oy own seq os=2):=by show _=_;rw[oy,af eh,ai eh]
  go_in
  go_wp2_with(fail);refine Y.mono ?_;rintro e w1 ⟨rfl,rfl⟩;go_wp2_with(fail);rw[Z.out,S.out];go_ret;exact⟨rfl,X⟩
 ·have Z:Hid (oy own seq os=qt own 0 os):=by show _=_;rw[oy,af eh,af eh]
  have hc:=DM own a n cap os _ T (U.below X)
  go_in
  go_wp2_with(fail);refine Y.mono ?_;rintro e w1 ⟨rfl,rfl⟩;go_wp2_with(fail);refine hc.mono ?_;rintro e w2 ⟨rfl,k2⟩;go_wp2_with(fail);rw[Z.out];go_ret;exact⟨rfl,gk X k2⟩
theorem aja {w1:dY} {x y z:dZ} {t:ew} (hb:Below (w.alloc (γ #[x,y,z] t)).heap.size (w.alloc (γ #[x,y,z] t)) w1):
 w1.cell? ⟨w.heap.size,0,ν⟩=μ x/\w1.cell? ⟨w.heap.size,1,ν⟩=μ y/\w1.cell? ⟨w.heap.size,2,ν⟩=μ z/\w.heap.size<w1.heap.size:=by
 have Z:w.heap.size<(w.alloc (γ #[x,y,z] t)).heap.size:=gY;have hA:=λj=>ar w #[x,y,z] t (0,0) j;exact⟨(hb.cell (p:=⟨w.heap.size,0,ν⟩) Z).trans (hA 0),(hb.cell (p:=⟨w.heap.size,1,ν⟩) Z).trans (hA 1),(hb.cell (p:=⟨w.heap.size,2,ν⟩) Z).trans (hA 2),Nat.lt_of_lt_of_le Z hb.size⟩
def ahead(os:List jE)(k:Nat):Int:=if k=0 then 0 else(os.getD (k-1) (0,0)).1
theorem IG(a:Int)(w:dY):eW eX 222 #[ι κ a] w λe w'=>e=ρ (.bool false)/\w=w':=by
 have h:(a !=a)=false:=gY
 go_in
 go_wp2
 go_ret;exact⟨rfl,rfl⟩
theorem tj(a b:Int)(w:dY):eW eX 204 #[ι κ a,ι κ b] w λe w'=>e=ρ (ι κ (lW a b))/\w=w':=by
 by_cases Z:a<b
 ·have hv:lW a b= -1:=by simp[lW,Z]
  rw[hv];clear hv
  go_in
  go_wp2_with(go_at_call 222;refine(IG _ _).mono ?_;rintro e w1 ⟨rfl,rfl⟩);go_ret;exact⟨rfl,rfl⟩
 ·by_cases Y:b<a
  ·have hv:lW a b=1:=by simp[lW,Z,Y]
   rw[hv];clear hv
   go_in
   go_wp2_with(go_at_call 222;refine(IG _ _).mono ?_;rintro e w1 ⟨rfl,rfl⟩);go_ret;exact⟨rfl,rfl⟩
  ·have hv:lW a b=0:=by simp[lW,Z,Y]
   rw[hv];clear hv
   go_in
   go_wp2_with(go_at_call 222;refine(IG _ _).mono ?_;rintro e w1 ⟨rfl,rfl⟩);go_ret;exact⟨rfl,rfl⟩
theorem abd(g cap:Nat)(x y:Int)(w:dY)(Z:w.cell? ⟨g,0,ν⟩=μ (ι κ x))(h1:w.cell? ⟨g,1,ν⟩=μ (ι κ y)):
 eW eX 215 #[σ (μ ⟨g,0,ν⟩) 2 cap] w λe w'=>e=ρ (ι κ (if x≠0 then x else y))/\w=w':=by
 have hg:g<w.heap.size:=ag w _ Z;cases q:(x !=0)
 ·have hx:x=0:=by simpa using q
  cases q2:(y !=0)
  ·have hy:y=0:=by simpa using q2
   have hv:(if x≠0 then x else y)=0:=by simp[hx,hy]
   rw[hv];clear hv hx hy
   go_in
   go_wp2_with(fail);refine cg 3 ?_;rw[bT];go_wp2_with(fail);rw[bT];go_wp2_with(fail);rw[bT]
   go_wp2
   go_ret;exact⟨rfl,rfl⟩
  ·have hv:(if x≠0 then x else y)=y:=by simp[hx]
   rw[hv];clear hv hx
   go_in
   go_wp2_with(fail);refine cg 3 ?_;rw[bT];go_wp2_with(fail);rw[bT]
   go_wp2
   go_ret;exact⟨rfl,rfl⟩
 ·have hx:¬x=0:=by simpa using q
  have hv:(if x≠0 then x else y)=x:=by simp[hx]
  rw[hv];clear hv hx
  go_in
  go_wp2_with(fail);refine cg 3 ?_;rw[bT]
  go_wp2
  go_ret;exact⟨rfl,rfl⟩
theorem OI(W:dY)(x y:dZ)(t:ew)(g:Nat)(Z:W.heap.size=g):(W.alloc (γ #[x,y] t)).drew.cell? ⟨g,0,ν⟩=μ x/\(W.alloc (γ #[x,y] t)).drew.cell? ⟨g,1,ν⟩=μ y:=by
 subst Z;exact⟨ar W #[x,y] t (0,0) 0,ar W #[x,y] t (0,0) 1⟩
theorem TD(a b c d:Int)(w:dY):eW eX 214 #[.agg #[ι κ a,ι κ b],.agg #[ι κ c,ι κ d]] w λe w'=>e=ρ (ι κ (yi (a,b) (c,d)))/\eE w w':=by
 have T:eE w ((w.alloc (γ #[ι κ a,ι κ b] 123)).alloc (γ #[ι κ c,ι κ d] 123)):=(gW _ _).alloc gY _;obtain⟨p,M⟩:=gg (lW a c);obtain⟨q,Q⟩:=gg (lW b d);have hv:yi (a,b) (c,d)=if p≠0 then p else q:=by simp[yi,M,Q]
 have U:=λ(g cap:Nat) (W:dY) D V=>abd g cap p q W D V;rw[hv];generalize (if p≠0 then p else q)=r at U;have u:Hid _:=U;clear U;have V:=λW=>tj a c W;have G:=λW=>tj b d W;rw[M]at V;rw[Q]at G;clear hv M Q
 go_in
 go_wp2_with(fail);obtain⟨Z,Y⟩:=gg ((w.alloc (γ #[ι κ a,ι κ b] 123)).alloc (γ #[ι κ c,ι κ d] 123));have hs:Z.heap.size=w.heap.size+1+1:=by rw[<-Y];simp
 have x0:Z.cell? ⟨w.heap.size,0,ν⟩=μ (ι κ a):=by rw[<-Y];exact((gW _ _).cell (p:=⟨w.heap.size,0,ν⟩) gY).trans (ar w #[ι κ a,ι κ b] 123 (0,0) 0)
 have x1:Z.cell? ⟨w.heap.size,1,ν⟩=μ (ι κ b):=by rw[<-Y];exact((gW _ _).cell (p:=⟨w.heap.size,1,ν⟩) gY).trans (ar w #[ι κ a,ι κ b] 123 (0,0) 1)
 have J:Z.cell? ⟨w.heap.size+1,0,ν⟩=μ (ι κ c):=by rw[<-Y];simp
 have H:Z.cell? ⟨w.heap.size+1,1,ν⟩=μ (ι κ d):=by rw[<-Y];simp
 have A:w.heap.size<Z.heap.size:=ag Z _ x0;have E:w.heap.size+1<Z.heap.size:=ag Z _ J;rw[Y]at T⊢;have HS:Hid _:=hs;clear Y hs;obtain⟨X,S⟩:=gg (w.heap.size);have HX:Hid _:=S;rw[S]at x0 x1 J H A E⊢;clear S;have y:Z.drew.cell? ⟨X,0,ν⟩=μ (ι κ a)/\Z.drew.cell? ⟨X,1,ν⟩=μ (ι κ b)/\Z.drew.cell? ⟨X+1,0,ν⟩=μ (ι κ c)/\Z.drew.cell? ⟨X+1,1,ν⟩=μ (ι κ d):=⟨x0,x1,J,H⟩
 go_region_held3(λx=>x.cell? ⟨X,0,ν⟩=μ (ι κ a)/\x.cell? ⟨X,1,ν⟩=μ (ι κ b)/\x.cell? ⟨X+1,0,ν⟩=μ (ι κ c)/\x.cell? ⟨X+1,1,ν⟩=μ (ι κ d))
  (first|assumption|exact y|go_keep)
  (first
   |(go_at_call_of 204 a;refine(V _).mono ?_;rintro e w1 ⟨rfl,rfl⟩)
   |(go_at_call_of 204 b;refine(G _).mono ?_;rintro e w1 ⟨rfl,rfl⟩)
   |(go_at_call 215;refine(u.out _ _ _ (OI _ _ _ _ _ (by rfl)).1 (OI _ _ _ _ _ (by rfl)).2).mono ?_;rintro e w1 ⟨rfl,rfl⟩))
 all_goals
  go_wp2
  go_ret;exact⟨rfl,below_drewN (T.alloc T.size _) 1⟩
theorem CF(a b:Option dX)(n m ca y:Nat)(es fs:List jE)(w:dY)(A:jc w a n es)(hb:jc w b m fs)(hn:n<=1000000):
 eW eX 213 #[σ a n ca,σ b m y,.func (.func 214) #[] #[]] w λe w'=>e=ρ (ι κ (l7 es fs))/\eE w w':=by
 have hla:=A.1;have Qm:=hb.1
 go_in
 go_wp2
 go_loopw [13] (λi wr=>∃k:Nat,k<=n/\k<=m/\i=ι κ k/\l7 es fs=l7 (es.drop k) (fs.drop k)/\eE w wr) (λi _=>n-(eY i).toNat)
 case atStart=>exact⟨0,Nat.zero_le _,Nat.zero_le _,rfl,rfl,av _ _⟩
 case round=>
  obtain⟨k,hk,hkm,rfl,E,X⟩:=hrel;have V:Hid _:=E;clear E;by_cases kB:k<n
  ·have nQ:(k:Int)<(n:Int):=eh;rcases(A.below X).2 with u|⟨b1,o1,rfl,hA⟩
   ·omega
   obtain⟨c1,c2⟩:=hA k eh;have Y:Hid (es.drop k=es[k]'(by omega)::es.drop (k+1)):=aS eh;generalize es[k]'(by omega)=o at c1 c2 Y;clear hA;have U:=X.alloc X.size (γ #[ι κ o.1,ι κ o.2] 123);by_cases hlm:k<m
   ·have Q:¬(m:Int)<=(k:Int):=eh;have aox:(k:Int)<(m:Int):=eh;rcases(hb.below U).2 with u|⟨b2,o2,rfl,H⟩
    ·omega
    obtain⟨c3,c4⟩:=H k eh;have D:Hid (fs.drop k=fs[k]'(by omega)::fs.drop (k+1)):=aS eh;generalize fs[k]'(by omega)=q at c3 c4 D;clear H;have G:=U.alloc U.size (γ #[ι κ q.1,ι κ q.2] 123);have hc:=λW=>TD o.1 o.2 q.1 q.2 W;have Z:Hid (l7 es fs=if yi (o.1,o.2) (q.1,q.2)≠0 then yi (o.1,o.2) (q.1,q.2)else l7 (es.drop (k+1)) (fs.drop (k+1))):=by
     show _=_;rw[V.out,Y.out,D.out,l7]
    generalize yi (o.1,o.2) (q.1,q.2)=r at hc Z;cases J:(r !=0)
    ·have M:Hid (l7 es fs=l7 (es.drop (k+1)) (fs.drop (k+1))):=by
      show _=_;have T:r=0:=by simpa using J
      rw[Z.out,T];simp
     go_wp2_with(fail);refine(hc _).mono ?_;rintro e w1 ⟨rfl,k1⟩;have S:=gk G k1;clear hc
     go_wp2
     go_roundw
     case rel=>exact⟨k+1,eh,eh,by go_num,M.out,S⟩
     case measure=>simp[eY];omega
    ·have M:Hid (l7 es fs=r):=by
      show _=_;have T:¬r=0:=by simpa using J
      rw[Z.out,ai T]
     go_wp2_with(fail);refine(hc _).mono ?_;rintro e w1 ⟨rfl,k1⟩;have S:=gk G k1;clear hc;go_wp2_with(fail);rw[M.out];go_ret;exact⟨rfl,S⟩
   ·have Q:(m:Int)<=(k:Int):=eh;have Z:Hid (l7 es fs=1):=by
     show _=_;rw[V.out,Y.out,a9 (show fs.length<=k by omega),l7]
    go_wp2_with(fail);rw[Z.out];go_ret;exact⟨rfl,U⟩
  ·have xP:¬(k:Int)<(n:Int):=eh;have Y:es.drop k=[] :=a9 eh;by_cases OJ:(n:Int)<(m:Int)
   ·have Z:Hid (l7 es fs= -1):=by
     show _=_;rw[V.out,Y,aS (show k<fs.length by omega),l7]
    clear Y;go_wp2_with(fail);rw[Z.out];go_ret;exact⟨rfl,X⟩
   ·have Z:Hid (l7 es fs=0):=by
     show _=_;rw[V.out,Y,a9 (show fs.length<=k by omega),l7]
    clear Y;go_wp2_with(fail);rw[Z.out];go_ret;exact⟨rfl,X⟩
theorem GQ(o1 s1 o2 s2:Int)(a b:Option dX)(n m ca U:Nat)(es fs:List jE)(w:dY)(Q:jc w a n es)(hb:jc w b m fs)(S:n<=1000000):
 eW eX 189 #[.agg #[ι κ o1,ι κ s1,σ a n ca],.agg #[ι κ o2,ι κ s2,σ b m U]] w λe w'=>e=ρ (ι κ (lS s1 es s2 fs))/\eE w w':=by
 have X:eE w ((w.alloc (γ #[ι κ o1,ι κ s1,σ a n ca] 40)).alloc (γ #[ι κ o2,ι κ s2,σ b m U] 40)):=(gW _ _).alloc gY _;have Z:=tj s1 s2 ((w.alloc (γ #[ι κ o1,ι κ s1,σ a n ca] 40)).alloc (γ #[ι κ o2,ι κ s2,σ b m U] 40));have V:=CF a b n m ca U es fs _ (Q.below X) (hb.below X) S;have hv:lS s1 es s2 fs=if lW s1 s2≠0 then lW s1 s2 else l7 es fs:=rfl
 rw[hv];clear hv;generalize l7 es fs=q at V;generalize lW s1 s2=r at Z;cases T:(r !=0)
 ·have Y:(if r≠0 then r else q)=q:=by simp at T;simp[T]
  rw[Y];clear Y
  go_in
  go_wp2_with(fail);refine Z.mono ?_;rintro e w1 ⟨rfl,rfl⟩;clear Z;go_wp2_with(fail);refine V.mono ?_;rintro e w2 ⟨rfl,k2⟩;clear V
  go_wp2
  go_ret;exact⟨rfl,gk X k2⟩
 ·have Y:(if r≠0 then r else q)=r:=by simp at T;simp[T]
  rw[Y];clear Y V
  go_in
  go_wp2_with(fail);refine Z.mono ?_;rintro e w1 ⟨rfl,rfl⟩;clear Z
  go_wp2
  go_ret;exact⟨rfl,X⟩
theorem Ki(a:dX)(n cap:Nat)(w:dY):(binOp .eql 38 (σ (μ a) n cap) (σ ν 0 0)).run eX w=.ok (.bool false) w:=gq
theorem XD(w:dY):(binOp .eql 38 (σ ν 0 0) (σ ν 0 0)).run eX w=.ok (.bool true) w:=gq
theorem BI(a:dX)(cap:Nat)(w:dY):
 eW eX 206 #[σ (μ a) 0 cap] w λe w'=>∃(v:dZ),e=ρ v/\Made w w' v [] :=by
 have hq:=Ki
 go_in
 go_wp2
 go_ret;exact⟨_,rfl,⟨Row.made w 2 _ #[] (0,0) 0 0 [] rfl rfl (Nat.le_refl _) eA (.inl rfl) gY,λj Z=>kF (Nat.le_refl _) Z,gW _ _⟩⟩
theorem MF(w:dY):
 eW eX 206 #[σ ν 0 0] w λe w'=>∃(v:dZ),e=ρ v/\Made w w' v [] :=by
 have hq:=XD
 go_in
 go_wp2
 go_ret;exact⟨_,rfl,⟨Row.nil w 2,λj Z=>mY Z,av _ _⟩⟩
theorem Kj(b off n cap:Nat)(os:List jE)(w:dY)(hn:n<=1000000)(X:0<n)(T:jc w (μ ⟨b,off,ν⟩) n os):
 eW eX 206 #[σ (μ ⟨b,off,ν⟩) n cap] w λe w'=>∃(v:dZ),e=ρ v/\Made w w' v os:=by
 obtain⟨i0,hi,G,Q,E⟩:=aY zh;have hq:=Ki;have Y:eE w (w.alloc (γ #[] 123)):=gW _ _;have hl:=T.1;have M:Row (w.alloc (γ #[] 123)) 2 (σ (μ ⟨w.heap.size,0,ν⟩) 0 0) 0 [] :=Row.made w 2 _ #[] (0,0) 0 0 [] rfl rfl (Nat.le_refl _) eA (.inl rfl) gY
 go_in
 go_wp2_with(at_builtin;go_must(refine iG _ rfl (.tmp 5) (.tmp 6) 38 rfl 123 i0 (.agg #[ι κ 0,ι κ 0]) 2 16 underlying38 hi G Q E rfl eA (σ (μ ⟨w.heap.size,0,ν⟩) 0 0) 0 [] rfl M _ n cap (iR os) rfl (by rw[ld];omega) X ((T.below Y).cells X) (J8 _) (by unfold maxLen;omega) eh ?_));intro g1 CC w1 H V U;have J:=lV Y V (λj Z=>kF (Nat.le_refl _) Z);have S:=nU (B:=w.heap.size) U eh (λj Z=>kF (Nat.le_refl _) Z);clear V U
 go_wp2
 go_ret;refine⟨_,rfl,⟨?_,λj Z=>kF S Z,J⟩⟩;rw[hl];exact H
theorem MG(a:Option dX)(n cap:Nat)(os:List jE)(w:dY)(T:n<=1000000)(U:kI a cap)(Z:jc w a n os):
 eW eX 206 #[σ a n cap] w λe w'=>∃(v:dZ),e=ρ v/\Made w w' v os:=by
 rcases Z.2 with Y|⟨b,off,rfl,hc⟩
 ·subst Y;have X:os=[] :=aI Z.1;subst X;cases a with
  |none=>
   obtain rfl:=U rfl;exact MF w
  |some a=>exact BI a cap w
 ·by_cases V:0<n
  ·exact Kj b off n cap os w T V Z
  ·have Y:n=0:=eh;subst Y;have X:os=[] :=aI Z.1;subst X;exact BI _ cap w
structure TE(w w':dY)(e:Ending)(own seq:Int)(os:List jE):Prop where
 out:∃(a:Option dX) (cap:Nat),e=ρ (.agg #[ι κ own,ι κ seq,σ a os.length cap])/\jc w' a os.length os/\kI a cap/\os.length<=cap/\(∀j,eu (σ a os.length cap)=μ j->w.heap.size<=j/\j<w'.heap.size)
 below:eE w w'
theorem DN(own seq:Int)(a:Option dX)(n cap:Nat)(os:List jE)(w:dY)(hn:n<=1000000)(kh:kI a cap)(ho:jc w a n os):
 eW eX 169 #[.agg #[ι κ own,ι κ seq,σ a n cap]] w λe w'=>TE w w' e own seq os:=by
 have hz:=pJ;have J:eE w ((w.alloc (γ #[ι κ own,ι κ seq,σ a n cap] 40)).alloc (γ #[ι κ 0,ι κ 0,σ ν 0 0] 40)):=(gW _ _).alloc gY _;obtain⟨M,S⟩:=gg ((w.alloc (γ #[ι κ own,ι κ seq,σ a n cap] 40)).alloc (γ #[ι κ 0,ι κ 0,σ ν 0 0] 40));have X:M.heap[w.heap.size]? =μ (γ #[ι κ own,ι κ seq,σ a n cap] 40 (0,0)):=by
  rw[<-S,aU _ _ _ gY];exact aZ w _
 have Y:M.heap[w.heap.size+1]? =μ (γ #[ι κ 0,ι κ 0,σ ν 0 0] 40 (0,0)):=by
  have h:=aZ (w.alloc (γ #[ι κ own,ι κ seq,σ a n cap] 40)) (γ #[ι κ 0,ι κ 0,σ ν 0 0] 40);rw[S]at h;simpa using h
 rw[S]at J;have D:=MG a n cap os M hn kh (ho.below J);have HW:Hid _:=S;clear S
 go_in
 go_wp2_with(fail);rw[HW.out];refine D.mono ?_;rintro e w1 ⟨v,rfl,V⟩;clear D;obtain⟨T,vc,rfl,vn,vl⟩:=V.shape;have k1:=V.below;have Q:=(k1.block _ (ay.1 X).1).trans X;have Z:=(k1.block _ (ay.1 Y).1).trans Y;have x0:w1.cell? ⟨w.heap.size,0,ν⟩=μ (ι κ own):=ax w1 _ 0 _ _ (0,0) Q;have x1:w1.cell? ⟨w.heap.size,1,ν⟩=μ (ι κ seq):=ax w1 _ 1 _ _ (0,0) Q;have x2:w1.cell? ⟨w.heap.size,2,ν⟩=μ (σ a n cap):=ax w1 _ 2 _ _ (0,0) Q;have y0:w1.cell? ⟨w.heap.size+1,0,ν⟩=μ (ι κ 0):=ax w1 _ 0 _ _ (0,0) Z;have y1:w1.cell? ⟨w.heap.size+1,1,ν⟩=μ (ι κ 0):=ax w1 _ 1 _ _ (0,0) Z;have y2:w1.cell? ⟨w.heap.size+1,2,ν⟩=μ (σ ν 0 0):=ax w1 _ 2 _ _ (0,0) Z;have fx:=λj=>bE w1 w.heap.size j _ _ Q;have fy:=λj=>bE w1 (w.heap.size+1) j _ _ Z;have lx:w.heap.size<w1.heap.size:=ag w1 _ x0;have ly:w.heap.size+1<w1.heap.size:=ag w1 _ y0;have E:=gk J k1;have H:∀j,eu (σ T os.length vc)=μ j->w.heap.size+2<=j:=λj U=>by
  have h1:=V.new j U;have h2:w.heap.size+1<M.heap.size:=(ay.1 Y).1;omega
 have kB:∀j,eu (σ T os.length vc)=μ j->j<w1.heap.size:=V.row.lt;have G:=V.opts.2;have HC:Hid (∀u v x y:dZ,TE w ((((w1.setCell ⟨w.heap.size,2,ν⟩ u).setCell ⟨w.heap.size+1,0,ν⟩ v).setCell ⟨w.heap.size+1,1,ν⟩ x).setCell ⟨w.heap.size+1,2,ν⟩ y) (ρ (.agg #[ι κ own,ι κ seq,σ T os.length vc])) own seq os):=by
  intro u v x y;refine⟨⟨T,vc,rfl,?_,vn,vl,λj U=>⟨by have:=H j U;omega,by simpa using kB j U⟩⟩,(((E.setCell (Nat.le_refl _) _).setCell (by show _<=w.heap.size+1;omega) _).setCell (by show _<=w.heap.size+1;omega) _).setCell (by show _<=w.heap.size+1;omega) _⟩;refine⟨rfl,?_⟩;rcases G.2 with h0|⟨b,off,rfl,hc⟩
  ·exact .inl h0
  ·refine .inr ⟨b,off,rfl,λj U=> ?_⟩;have hb:w.heap.size+2<=b:=H b rfl;have A:∀o,((((w1.setCell ⟨w.heap.size,2,ν⟩ u).setCell ⟨w.heap.size+1,0,ν⟩ v).setCell ⟨w.heap.size+1,1,ν⟩ x).setCell ⟨w.heap.size+1,2,ν⟩ y).cell? ⟨b,o,ν⟩=w1.cell? ⟨b,o,ν⟩:=λo=>by
    apply aj;rw[aq _ _ _ _ (by show b≠w.heap.size+1;omega),aq _ _ _ _ (by show b≠w.heap.size+1;omega),aq _ _ _ _ (by show b≠w.heap.size+1;omega),aq _ _ _ _ (by show b≠w.heap.size;omega)]
   rw[A,A];exact hc j U
 clear V k1 Q Z H kB G E X Y;go_wp2_with(fail);refine aF (v:=.agg #[ι κ own,ι κ seq,σ T os.length vc]) (by simp[results,results169,go_sem,y0,y1,y2]) rfl ?_;exact HC.out _ _ _ _
open Go.Maps (Keyed)
open Go.ChangeMaps Go.MapKept
open Go.WideElems (Fit)
structure SV where
 own:Int
 seq:Int
 a:Option dX
 n:Nat
 cap:Nat
def SV.v(s:SV):dZ:=.agg #[ι κ s.own,ι κ s.seq,σ s.a s.n s.cap]
def SV.zero:SV:=⟨0,0,ν,0,0⟩
def abf:dZ->Option SV
 | .agg cs=>(match cs.toList with
   |[.int .i64 o,.int .i64 q,.slice a n c] =>some ⟨o,q,a,n,c⟩
   |_=>none)
 |_=>none
theorem TF {v:dZ} {s:SV} (h:abf v=μ s):v=s.v:=by
 unfold abf at h;split at h
 ·rename_i cs
  split at h
  ·rename_i o q a n c e
   obtain rfl:=Option.some.inj h;have:cs= #[ι κ o,ι κ q,σ a n c] :=by
    apply dD.1;simpa using e
   rw[this];rfl
  ·cases h
 ·cases h
def tq(v:dZ):Option (DataW SV×List MemPlace):=(abf v).map λs=>(.held s,[])
theorem zj(s:SV):tq s.v=μ (.held s,[]):=rfl
theorem wZ {v:dZ} {y:DataW SV×List MemPlace} (h:tq v=μ y):∃s,v=s.v/\y=(.held s,[]):=by
 unfold tq at h;obtain⟨s,hs,rfl⟩:=Option.map_eq_some_iff.1 h;exact⟨s,TF hs,rfl⟩
theorem uJ:Keyed eX 3:=Go.Maps.int_keyed underlying3
theorem Kk(w:dY):(zeroValue 40).run eX w=.ok SV.zero.v w:=gq
def sY(k:Int):Prop:= -9223372036854775808<=k/\k<=9223372036854775807
theorem DP(h:sY k):keyOf eX 3 (.int .i64 k)=μ (.int .i64 k):=by
 refine Go.Maps.keyOf_int_mk underlying3 ?_;exact WalkArith.wf_i64 (by obtain⟨h1,h2⟩:=h;omega)
structure SMap(w:dY)(b n:Nat)(f:Int->Option SV):Prop where
 own:∃D:DataW SV,w.ownsMap eX 3 tq b n D/\∀k,sY k->match f k with
  |none=>∀z,D.atKey (.int .i64 k) z=z
  |some s=>∀z,D.atKey (.int .i64 k) z=.held s
theorem SMap.made(w:dY):SMap (w.alloc (.map #[] 0)) w.heap.size 0 (λ_=>ν):=
 ⟨⟨.map [],World.ownsMap_made w _ _ _,λ_ _ _=>rfl⟩⟩
theorem SMap.lt {w:dY} {b n:Nat} {f:Int->Option SV} (h:SMap w b n f):b<w.heap.size:=by obtain⟨D,Z,_⟩:=h.own;exact Z.lt
theorem SMap.mono {w:dY} {b n m:Nat} {f:Int->Option SV} (h:SMap w b n f)(Y:n<=m):SMap w b m f:=by obtain⟨D,Z,X⟩:=h.own;exact⟨⟨D,Z.mono Y,X⟩⟩
theorem SMap.kept {w w':dY} {b n:Nat} {f:Int->Option SV} {row:Option Nat} (h:SMap w b n f)(V:w.grownBy w' row)(Z:μ b≠row):SMap w' b n f:=by obtain⟨D,Y,X⟩:=h.own;exact⟨⟨D,Y.kept V Z,X⟩⟩
theorem SMap.keep {f:Int->Option SV} (h:SMap w b n f)(hb:w'.heap[b]? =w.heap[b]?):SMap w' b n f:=by
 obtain⟨D,⟨es,clock,Y,Z⟩,X⟩:=h.own;exact⟨⟨D,⟨es,clock,hb.trans Y,Z⟩,X⟩⟩
theorem SMap.below {f:Int->Option SV} (h:SMap w b n f)(hb:eE w w'):SMap w' b n f:=h.keep (hb.block b h.lt)
theorem SMap.drew {w:dY} {b n:Nat} {f:Int->Option SV} (h:SMap w b n f):SMap w.drew b n f:=h.keep rfl
theorem SMap.alloc {w:dY} {b n:Nat} {f:Int->Option SV} (h:SMap w b n f)(o:Obj):SMap (w.alloc o) b n f:=h.below (gW _ _)
theorem II {x:Int} (h:x≠k):(Lit.int .i64 x)≠ .int .i64 k:=λe=>h (by simpa using e)
theorem XE(k:Int)(h:sY k):WideAt.IsKeyLit (.int .i64 k):=uJ.key (DP h)
theorem SMap.store {w:dY} {b n:Nat} {f:Int->Option SV} (h:SMap w b n f)(U:n<maxLen)(k:Int)(Y:sY k)(s:SV):
 ∃w',(fa 211 (.map (μ b)) (ι κ k) s.v).run eX w=.ok () w'/\SMap w' b (n+1) (λx=>if x=k then μ s else f x)/\w.mapTurned w' b:=by
 obtain⟨D,Z,V⟩:=h.own;obtain⟨w',S,T,X⟩:=Z.store uJ underlying211 U (DP Y) (zj s);refine⟨w',S,⟨⟨_,T,λx hx=> ?_⟩⟩,X⟩;have Q:=Z.isMap;by_cases e:x=k
 ·subst e;simp only[if_true];exact λz=>Maps.atKey_put_same Q (XE x Y) _ z
 ·rw[af e];have:=V x hx;cases hf:f x with
  |none=>rw[hf]at this;exact λz=>(fc (II e) _ z).trans (this z)
  |some s'=>rw[hf]at this;exact λz=>(fc (II e) _ z).trans (this z)
theorem SMap.look {f:Int->Option SV} (h:SMap w b n f)(k:Int)(Z:sY k):
 (fe 211 (.map (μ b)) (ι κ k) false).run eX w=.ok ((f k).getD SV.zero).v w:=by
 obtain⟨D,Y,X⟩:=h.own;obtain⟨v,ps,V,hv⟩:=Y.lookup uJ underlying211 (Kk w) (zj SV.zero) (DP Z);rw[V];obtain⟨s,rfl,e⟩:=wZ hv;have hx:=X k Z;simp only[e7]at e;cases hf:f k with
 |none=>
  rw[hf]at hx;rw[hx]at e;have:SV.zero=s:=by simpa using e.1
  rw[<-this];rfl
 |some s'=>
  rw[hf]at hx;rw[hx]at e;have:s'=s:=by simpa using e.1
  rw[this];rfl
theorem SMap.look_ok {w:dY} {b n:Nat} {f:Int->Option SV} (h:SMap w b n f)(k:Int)(Z:sY k):
 (fe 211 (.map (μ b)) (ι κ k) true).run eX w=.ok (τ #[((f k).getD SV.zero).v,.bool (f k).isSome]) w:=by
 obtain⟨D,Y,X⟩:=h.own;obtain⟨v,ps,V,hv⟩:=Y.look_ok uJ underlying211 (Kk w) (zj SV.zero) (DP Z);rw[V];obtain⟨s,rfl,e⟩:=wZ hv;have hx:=X k Z;simp only[e7]at e;cases hf:f k with
 |none=>
  rw[hf]at hx;rw[hx]at e;have:SV.zero=s:=by simpa using e.1
  rw[<-this,dJ hx];rfl
 |some s'=>
  rw[hf]at hx;rw[hx]at e;have:s'=s:=by simpa using e.1
  rw[this,dM hx];rfl
theorem SMap.drop {w:dY} {b n:Nat} {f:Int->Option SV} (h:SMap w b n f)(k:Int)(T:sY k)(ty:ew):
 ∃w',(Builtin.delete_ #[211,3] ty #[.map (μ b),ι κ k]).run eX w=.ok (τ #[]) w'/\SMap w' b n (λx=>if x=k then ν else f x)/\w.mapTurned w' b:=by
 obtain⟨D,Y,X⟩:=h.own;obtain⟨w',U,V,Z⟩:=Y.drop uJ underlying211 (DP T) ty;refine⟨w',U,⟨⟨_,V,λx hx=> ?_⟩⟩,Z⟩;by_cases e:x=k
 ·subst e;simp only[if_true];exact λz=>Maps.atKey_del_same z
 ·rw[af e];have:=X x hx;cases hf:f x with
  |none=>rw[hf]at this;exact λz=>(fh (II e) z).trans (this z)
  |some s'=>rw[hf]at this;exact λz=>(fh (II e) z).trans (this z)
theorem SMap.clear {f:Int->Option SV} (h:SMap w b n f)(ty:ew):
 ∃w',(fj #[211] ty #[.map (μ b)]).run eX w=.ok (τ #[]) w'/\SMap w' b n (λ_=>ν)/\w.mapTurned w' b:=by
 obtain⟨D,⟨es,clock,hb,F,hs,hD⟩,h2⟩:=h.own;refine⟨setBlock w b (.map #[] clock),?_,⟨⟨.map [],⟨#[],clock,heap_setBlock_same hb _,⟨gY,?_,gY⟩,gY,rfl⟩,λ_ _ _=>rfl⟩⟩,⟨es,clock,#[],clock,hb,rfl⟩⟩
 ·simp[fj,run_underlying underlying211,MapKept.run_getObj_map hb,MapKept.run_setObj_map _ hb,Result.andThen,setBlock]
 ·exact stamped_empty clock
open Go.ChangeShapes Go.WideShapes Go.ChangeAt
theorem Az(own seq:Int)(a:Option dX)(n cap:Nat)(os:List jE)(w:dY)(T:n<=maxLen)(U:jc w a n os):
 eW eX 117 #[.agg #[ι κ own,ι κ seq,σ a n cap]] w λe w'=>e=ρ (jm (oy own seq os))/\eE w w':=by
 by_cases h6:n<=6
 ·exact yk own seq a n cap os w eh U
 unfold maxLen at T;have X:=gW w (γ #[ι κ own,ι κ seq,σ a n cap] 40);have V:Hid (jm 1=.iface 128 (ι κ 1)):=rfl;have S:Hid (jm 2=.iface 128 (ι κ 2)):=rfl;have hl:=U.1;have Y:=uI own (w.alloc (γ #[ι κ own,ι κ seq,σ a n cap] 40));have one:(own<1 \/6<own \/seq<1 \/1000000<seq)->Hid (oy own seq os=1):=λhh=>by show _=_;rw[oy,ai hh]
 by_cases r1:own<1 \/6<own
 ·have Z:=one eh;rw[Ay own r1]at Y;clear one
  go_in
  go_wp2_with(fail);refine Y.mono ?_;rintro e w1 ⟨rfl,rfl⟩;go_wp2_with(fail);rw[Z.out,V.out];go_ret;exact⟨rfl,X⟩
 rw[DL own eh eh]at Y;by_cases r2:seq<1
 ·have Z:=one eh;clear one
  go_in
  go_wp2_with(fail);refine Y.mono ?_;rintro e w1 ⟨rfl,rfl⟩;go_wp2_with(fail);rw[Z.out,V.out];go_ret;exact⟨rfl,X⟩
 by_cases r3:1000000<seq
 ·have Z:=one eh;clear one
  go_in
  go_wp2_with(fail);refine Y.mono ?_;rintro e w1 ⟨rfl,rfl⟩;go_wp2_with(fail);rw[Z.out,V.out];go_ret;exact⟨rfl,X⟩
 clear one;have r4:(6:Int)<(n:Int):=eh;have Z:Hid (oy own seq os=2):=by show _=_;rw[oy,af eh,ai eh]
 go_in
 go_wp2_with(fail);refine Y.mono ?_;rintro e w1 ⟨rfl,rfl⟩;go_wp2_with(fail);rw[Z.out,S.out];go_ret;exact⟨rfl,X⟩
structure FM where
 bm:Nat
 g:Nat
 cap:Nat
 bs:List Nat
 no:Nat->Prop:=λ_=>False
def FM.sl(m:FM):dZ:=σ (μ ⟨m.g,0,ν⟩) m.bs.length m.cap
def FM.row(m:FM):List dZ:=m.bs.map λb=>Value.map (μ b)
structure FB(w:dY)(B:Nat)(m:FM)(n:Nat)(kn:Int->Option SV)(ow:Nat->Int->Option SV):Prop where
 oe:w.heap[B]? =μ (γ #[.map (μ m.bm),m.sl] 214 (0,0))
 row:Row w 1 m.sl m.bs.length m.row
 km:SMap w m.bm n kn
 om:∀i b,m.bs[i]? =μ b->SMap w b n (ow i)
 few:m.bs.length<=3
 nB:m.bm≠B/\m.g≠B/\m.bm≠m.g/\(∀b∈m.bs,b≠B/\b≠m.g/\b≠m.bm)
 nd:m.bs.Nodup
theorem FB.lt {m:FM} {kn:Int->Option SV} {ow:Nat->Int->Option SV} (h:FB w B m n kn ow):B<w.heap.size:=(ay.1 h.oe).1
theorem FB.c0 {m:FM} {kn:Int->Option SV} {ow:Nat->Int->Option SV} (h:FB w B m n kn ow):w.cell? ⟨B,0,ν⟩=μ (.map (μ m.bm)):=ax w B 0 _ _ (0,0) h.oe
theorem FB.c1 {m:FM} {kn:Int->Option SV} {ow:Nat->Int->Option SV} (h:FB w B m n kn ow):w.cell? ⟨B,1,ν⟩=μ m.sl:=ax w B 1 _ _ (0,0) h.oe
theorem FB.below {w w':dY} {B:Nat} {m:FM} {n:Nat} {kn:Int->Option SV} {ow:Nat->Int->Option SV} (h:FB w B m n kn ow)(hb:eE w w'):FB w' B m n kn ow:=
 ⟨(hb.block B h.lt).trans h.oe,h.row.below hb,h.km.below hb,λi b e=>(h.om i b e).below hb,h.few,h.nB,h.nd⟩
theorem FB.port {m:FM} {kn:Int->Option SV} {ow:Nat->Int->Option SV} (h:FB w B m n kn ow)(i:Nat)(b:Nat)(e:m.bs[i]? =μ b):w.cell? ⟨m.g,i,ν⟩=μ (.map (μ b)):=by
 refine Row.cell h.row i _ ?_;unfold FM.row;rw[cF,e];rfl
theorem C9(B:Nat)(m:FM)(n:Nat)(kn:Int->Option SV)(ow:Nat->Int->Option SV)(port:Int)(w:dY)(h:FB w B m n kn ow):
 eW eX 176 #[π (μ ⟨B,0,ν⟩),ι κ port] w λe w'=>e=ρ (.bool (decide (0<=port)&&decide (port<(m.bs.length:Int))))/\w=w':=by
 have hl:=h.lt;have c1:w.cell? ⟨B,1,ν⟩=μ (σ (μ ⟨m.g,0,ν⟩) m.bs.length m.cap):=h.c1;have hf:=h.few;by_cases Z:0<=port
 ·by_cases Y:port<(m.bs.length:Int)
  ·have hv:(decide (0<=port)&&decide (port<(m.bs.length:Int)))=true:=by simp[Z,Y]
   rw[hv];clear hv h
   go_in
   go_wp2
   go_ret;exact⟨by first|rfl|(simp;omega),rfl⟩
  ·have hv:(decide (0<=port)&&decide (port<(m.bs.length:Int)))=false:=by simp[Y]
   rw[hv];clear hv h
   go_in
   go_wp2
   go_ret;exact⟨by first|rfl|(simp;omega),rfl⟩
 ·have hv:(decide (0<=port)&&decide (port<(m.bs.length:Int)))=false:=by simp[Z]
  rw[hv];clear hv h
  go_in
  go_wp2
  go_ret;exact⟨by first|rfl|(simp;omega),rfl⟩
def vO(aeG:Nat)(port own seq:Int)(es:List jE):Nat:=if 0<=port/\port<(aeG:Int)then oy own seq es else 1
theorem qI(B:Nat)(m:FM)(k:Nat)(kn:Int->Option SV)(ow:Nat->Int->Option SV)(port own seq:Int)(a:Option dX)(n cap:Nat)(es:List jE)(w:dY)(h:FB w B m k kn ow)(V:n<=maxLen)(U:jc w a n es):
 eW eX 216 #[π (μ ⟨B,0,ν⟩),ι κ port,.agg #[ι κ own,ι κ seq,σ a n cap]] w λe w'=>e=ρ (jm (vO m.bs.length port own seq es))/\eE w w':=by
 have Y:=gW w (γ #[ι κ own,ι κ seq,σ a n cap] 40);have hh:=C9 B m k kn ow port _ (h.below Y);have hc:=Az own seq a n cap es _ V (U.below Y);have X:Hid (jm 1=.iface 128 (ι κ 1)):=rfl;by_cases Z:0<=port/\port<(m.bs.length:Int)
 ·have hv:(decide (0<=port)&&decide (port<(m.bs.length:Int)))=true:=by simp[Z.1,Z.2]
  have hf:vO m.bs.length port own seq es=oy own seq es:=by rw[vO,ai Z]
  rw[hv]at hh;rw[hf];clear hv hf h
  go_in
  go_wp2_with(fail);refine hh.mono ?_;rintro e w1 ⟨rfl,rfl⟩;go_wp2_with(fail);refine hc.mono ?_;rintro e w2 ⟨rfl,k2⟩
  go_wp2
  go_ret;exact⟨rfl,gk Y k2⟩
 ·have hv:(decide (0<=port)&&decide (port<(m.bs.length:Int)))=false:=by
   simp only[Bool.and_eq_false_iff,decide_eq_false_iff_not];omega
  have hf:Hid (vO m.bs.length port own seq es=1):=by show _=_;rw[vO,af Z]
  rw[hv]at hh;clear hv h
  go_in
  go_wp2_with(fail);refine hh.mono ?_;rintro e w1 ⟨rfl,rfl⟩;go_wp2_with(fail);rw[hf.out,X.out];go_ret;exact⟨rfl,Y⟩
theorem MH(B:Nat)(m:FM)(k:Nat)(kn:Int->Option SV)(ow:Nat->Int->Option SV)(own seq:Int)(a:Option dX)(n cap:Nat)(w:dY)(h:FB w B m k kn ow)(U:sY own)(V:kn own=ν):
 eW eX 217 #[π (μ ⟨B,0,ν⟩),.agg #[ι κ own,ι κ seq,σ a n cap]] w λe w'=>e=ρ (ι κ 1)/\eE w w':=by
 have hz:=pJ;have hb:=gW w (γ #[ι κ own,ι κ seq,σ a n cap] 40);have Y:=h.below hb;obtain⟨Z,X⟩:=gg (w.alloc (γ #[ι κ own,ι κ seq,σ a n cap] 40));have x0:Z.cell? ⟨w.heap.size,0,ν⟩=μ (ι κ own):=by rw[<-X];exact ar w #[ι κ own,ι κ seq,σ a n cap] 40 (0,0) 0
 rw[X]at hb Y;have T:Hid _:=X;clear X;have pB:(fe 211 (.map (μ m.bm)) (ι κ own) true).run eX Z.drew=.ok (τ #[.agg #[ι κ 0,ι κ 0,σ ν 0 0],.bool false]) Z.drew:=by
  have:=Y.km.drew.look_ok own U;rw[V]at this;exact this
 have ajc:(fe 211 (.map (μ m.bm)) (ι κ own) true).run eX (Z.alloc (γ #[ι κ 0,ι κ 0,σ ν 0 0] 40)).drew=.ok (τ #[.agg #[ι κ 0,ι κ 0,σ ν 0 0],.bool false]) (Z.alloc (γ #[ι κ 0,ι κ 0,σ ν 0 0] 40)).drew:=by
  have:=(Y.km.alloc (γ #[ι κ 0,ι κ 0,σ ν 0 0] 40)).drew.look_ok own U;rw[V]at this;exact this
 have c0:=Y.c0;have hl:=Y.lt;have hx:w.heap.size<Z.heap.size:=ag Z _ x0;clear h Y V
 go_in
 go_wp2_with(fail);rw[T.out]
 go_region
 all_goals
  go_wp2
  go_ret;exact⟨rfl,below_drewN (hb.alloc hb.size _) 1⟩
theorem MI(B:Nat)(m:FM)(k:Nat)(kn:Int->Option SV)(ow:Nat->Int->Option SV)(own seq:Int)(a:Option dX)(n cap:Nat)(es:List jE)(t:SV)(fs:List jE)(w:dY)(h:FB w B m k kn ow)(H:sY own)(Q:kn own=μ t)(J:jc w a n es)(E:n<=1000000)(S:jc w t.a t.n fs):
 eW eX 217 #[π (μ ⟨B,0,ν⟩),.agg #[ι κ own,ι κ seq,σ a n cap]] w λe w'=>e=ρ (ι κ (lS seq es t.seq fs))/\eE w w':=by
 obtain⟨T,ts,ta,tn,V⟩:=t;simp only at S;have hz:=pJ;have hb:=gW w (γ #[ι κ own,ι κ seq,σ a n cap] 40);have Y:=h.below hb;obtain⟨Z,X⟩:=gg (w.alloc (γ #[ι κ own,ι κ seq,σ a n cap] 40));have U:Z.heap[w.heap.size]? =μ (γ #[ι κ own,ι κ seq,σ a n cap] 40 (0,0)):=by rw[<-X];exact aZ w _
 rw[X]at hb Y;have G:Hid _:=X;clear X;have x0:Z.cell? ⟨w.heap.size,0,ν⟩=μ (ι κ own):=ax Z _ 0 _ _ (0,0) U;have pB:(fe 211 (.map (μ m.bm)) (ι κ own) true).run eX Z.drew=.ok (τ #[.agg #[ι κ T,ι κ ts,σ ta tn V],.bool true]) Z.drew:=by
  have:=Y.km.drew.look_ok own H;rw[Q]at this;exact this
 have ajc:(fe 211 (.map (μ m.bm)) (ι κ own) true).run eX (Z.alloc (γ #[ι κ 0,ι κ 0,σ ν 0 0] 40)).drew=.ok (τ #[.agg #[ι κ T,ι κ ts,σ ta tn V],.bool true]) (Z.alloc (γ #[ι κ 0,ι κ 0,σ ν 0 0] 40)).drew:=by
  have:=(Y.km.alloc (γ #[ι κ 0,ι κ 0,σ ν 0 0] 40)).drew.look_ok own H;rw[Q]at this;exact this
 have c0:=Y.c0;have hl:=Y.lt;have hx:w.heap.size<Z.heap.size:=ag Z _ x0;have M:eE w ((Z.alloc (γ #[ι κ T,ι κ ts,σ ta tn V] 40)).drew):=below_drewN (hb.alloc hb.size _) 1;have D:=GQ own seq T ts a ta n tn cap V es fs _ (J.below M) (S.below M) E;have x1:Z.cell? ⟨w.heap.size,1,ν⟩=μ (ι κ seq):=ax Z _ 1 _ _ (0,0) U;have x2:Z.cell? ⟨w.heap.size,2,ν⟩=μ (σ a n cap):=ax Z _ 2 _ _ (0,0) U;clear h Y Q S J U
 go_in
 go_wp2_with(fail);rw[G.out]
 go_region
 all_goals
  go_wp2_with(fail);refine D.mono ?_;rintro e w2 ⟨rfl,k2⟩
  go_wp2
  go_ret;exact⟨rfl,gk M k2⟩
structure jC(w w':dY)(m:FM):Prop where
 os:w'.os=w.os
 tape:w'.tape=w.tape
 output:w'.output=w.output
 size:w.heap.size<=w'.heap.size
 block:∀i,i<w.heap.size->i≠m.bm->i∉m.bs->w'.heap[i]? =w.heap[i]?
theorem jC.iT(m:FM)(h:eE w w'):jC w w' m:=⟨h.os,h.tape,h.output,h.size,λi hi _ _=>h.block i hi⟩
theorem jC.trans {a b c:dY} {m:FM} (h:jC a b m)(k:jC b c m):jC a c m:=
 ⟨k.os.trans h.os,k.tape.trans h.tape,k.output.trans h.output,Nat.le_trans h.size k.size,λi hi Z Y=>(k.block i (Nat.lt_of_lt_of_le hi h.size) Z Y).trans (h.block i hi Z Y)⟩
theorem jC.pK {m:FM} (h:w.mapTurned w' b)(hb:b=m.bm \/b∈m.bs):jC w w' m:=by
 have g:=h.grown;refine⟨g.os,g.tape,g.output,g.size,λi hi Z Y=>g.block i hi (λe=> ?_)⟩;have:i=b:=by simpa using e
 subst this;rcases hb with hb|hb
 ·exact Z hb
 ·exact Y hb
theorem jC.below {a b:dY} {m:FM} (h:eE w a)(k:jC a b m)(h1:w.heap.size<=m.bm)(Z:∀x∈m.bs,w.heap.size<=x):eE w b:=
 ⟨k.os.trans h.os,k.tape.trans h.tape,k.output.trans h.output,Nat.le_trans h.size k.size,λi hi=>by
  rw[k.block i (Nat.lt_of_lt_of_le hi h.size) eh (λe=>by have:=Z i e;omega)];exact h.block i hi⟩
theorem nR {x:Nat} (h:w.mapTurned w' b)(hx:x<w.heap.size)(Z:x≠b):w'.heap[x]? =w.heap[x]? :=h.grown.block x hx (λe=>Z (by simpa using e))
theorem FB.ajd {m:FM} {kn kn':Int->Option SV} {ow:Nat->Int->Option SV} (h:FB w B m n kn ow)(Z:w.mapTurned w' m.bm)(U:SMap w' m.bm n' kn')(V:n<=n'):FB w' B m n' kn' ow:=by
 refine⟨(nR Z h.lt (λe=>h.nB.1 e.symm)).trans h.oe,h.row.keep Z.grown.size (λk Y=> ?_),U,λi b e=> ?_,h.few,h.nB,h.nd⟩
 ·have X:m.g=k:=by simpa[FM.sl,eu]using Y
  subst X;exact nR Z (h.row.lt _ Y) (λe=>h.nB.2.2.1 e.symm)
 ·have hb:=h.nB.2.2.2 b (bK e);exact((h.om i b e).keep (nR Z (h.om i b e).lt hb.2.2)).mono V
theorem FB.MJ {m:FM} {kn:Int->Option SV} {ow:Nat->Int->Option SV} {f:Int->Option SV} {i:Nat} (h:FB w B m n kn ow)(hi:m.bs[i]? =μ b)(Z:w.mapTurned w' b)(Q:SMap w' b n' f)(X:n<=n'):FB w' B m n' kn (λj=>if j=i then f else ow j):=by
 have hb:=h.nB.2.2.2 b (bK hi);refine⟨(nR Z h.lt (λe=>hb.1 e.symm)).trans h.oe,h.row.keep Z.grown.size (λk V=> ?_),(h.km.keep (nR Z h.km.lt (λe=>hb.2.2 e.symm))).mono X,λj c e=> ?_,h.few,h.nB,h.nd⟩
 ·have T:m.g=k:=by simpa[FM.sl,eu]using V
  subst T;exact nR Z (h.row.lt _ V) (λe=>hb.2.1 e.symm)
 ·by_cases Y:j=i
  ·subst Y;rw[hi]at e;obtain rfl:=Option.some.inj e;simp only[if_true];exact Q
  ·rw[af Y];have U:c≠b:=λS=>by
    subst S;exact Y ((List.getElem?_inj (aL.1 e).1 h.nd).1 (e.trans hi.symm))
   exact((h.om j c e).keep (nR Z (h.om j c e).lt U)).mono X
def tL(f:Int->Option SV)(k:Int)(s:SV):Int->Option SV:=λx=>if x=k then μ s else f x
structure IJ(w w':dY)(B:Nat)(m:FM)(n:Nat)(kn:Int->Option SV)(ow:Nat->Int->Option SV)(own seq:Int)(es:List jE)(s:SV):Prop where
 so:s.own=own
 ss:s.seq=seq
 sn:s.n=es.length
 so2:jc w' s.a s.n es
 nil:kI s.a s.cap
 new:∀j,eu (σ s.a s.n s.cap)=μ j->w.heap.size<=j/\j<w'.heap.size
 fb:FB w' B m (n+1+m.bs.length) (tL kn own s) (λi=>if i<m.bs.length then tL (ow i) own s else ow i)
 kept:jC w w' m
theorem jc.TG {a:Option dX} {cap:Nat} {os:List jE} {m:FM} (h:jc w a n os)(Y:jC w w' m)(hf:∀j,eu (σ a n cap)=μ j->j≠m.bm/\j∉m.bs):jc w' a n os:=by
 refine⟨h.1,?_⟩;rcases h.2 with Z|⟨b,off,rfl,Z⟩
 ·exact .inl Z
 ·refine .inr ⟨b,off,rfl,λj X=> ?_⟩;obtain⟨c1,c2⟩:=Z j X;obtain⟨f1,f2⟩:=hf b rfl;have e:=Y.block b (ag w _ c1) f1 f2;exact⟨(aj (a:=⟨b,off+j*2,ν⟩) e).trans c1,(aj (a:=⟨b,off+j*2+1,ν⟩) e).trans c2⟩
theorem GR(B:Nat)(m:FM)(k:Nat)(kn:Int->Option SV)(ow:Nat->Int->Option SV)(own seq:Int)(a:Option dX)(n cap:Nat)(es:List jE)(w:dY)(h:FB w B m k kn ow)(hr:sY own)(ho:jc w a n es)(kh:kI a cap)(hn:n<=1000000)(hk:k<=1000000):
 eW eX 118 #[π (μ ⟨B,0,ν⟩),.agg #[ι κ own,ι κ seq,σ a n cap]] w λe w'=>e=ρ (τ #[])/\∃s,IJ w w' B m k kn ow own seq es s:=by
 have hb:=gW w (γ #[ι κ own,ι κ seq,σ a n cap] 40);have Q:=h.below hb;obtain⟨W1,j6⟩:=gg (w.alloc (γ #[ι κ own,ι κ seq,σ a n cap] 40));have pV:W1.heap[w.heap.size]? =μ (γ #[ι κ own,ι κ seq,σ a n cap] 40 (0,0)):=by rw[<-j6];exact aZ w _
 rw[j6]at hb Q;have HW:Hid _:=j6;clear j6;have Da:=DN own seq a n cap es W1 hn kh (ho.below hb)
 go_in
 go_wp2_with(fail);rw[HW.out];refine Da.mono ?_;rintro e Y ⟨⟨X,vc,rfl,vo,vn,vl,F9⟩,k2⟩;clear Da;have S:=(k2.block _ (ay.1 pV).1).trans pV;have x0:Y.cell? ⟨w.heap.size,0,ν⟩=μ (ι κ own):=ax Y _ 0 _ _ (0,0) S;have x1:Y.cell? ⟨w.heap.size,1,ν⟩=μ (ι κ seq):=ax Y _ 1 _ _ (0,0) S;have x2:Y.cell? ⟨w.heap.size,2,ν⟩=μ (σ a n cap):=ax Y _ 2 _ _ (0,0) S;have fx:=λj=>bE Y w.heap.size j _ _ S;have xl:w.heap.size<Y.heap.size:=ag Y _ x0
 go_upto_region 2 with fail
 obtain⟨Z,E⟩:=gg (((Y.setCell ⟨w.heap.size,0,ν⟩ (ι κ own)).setCell ⟨w.heap.size,1,ν⟩ (ι κ seq)).setCell ⟨w.heap.size,2,ν⟩ (σ X es.length vc));have rJ:=gk hb k2;have b3:eE w Z:=by rw[<-E];exact((rJ.setCell (Nat.le_refl _) _).setCell (Nat.le_refl _) _).setCell (Nat.le_refl _) _
 have ym:Z.heap[w.heap.size]? =μ (γ #[ι κ own,ι κ seq,σ X es.length vc] 40 (0,0)):=by
  rw[<-E];have s1:=cE Y w.heap.size #[ι κ own,ι κ seq,σ a n cap] (#[ι κ own,ι κ seq,σ a n cap].setIfInBounds 0 (ι κ own)) 40 (0,0) S;rw[<-bP Y w.heap.size 0 _ _ (0,0) _ S]at s1;have s2:=cE _ w.heap.size _ ((#[ι κ own,ι κ seq,σ a n cap].setIfInBounds 0 (ι κ own)).setIfInBounds 1 (ι κ seq)) 40 (0,0) s1;rw[<-bP _ w.heap.size 1 _ _ (0,0) _ s1]at s2;have s3:=cE _ w.heap.size _ (((#[ι κ own,ι κ seq,σ a n cap].setIfInBounds 0 (ι κ own)).setIfInBounds 1 (ι κ seq)).setIfInBounds 2 (σ X es.length vc)) 40 (0,0) s2;rw[<-bP _ w.heap.size 2 _ _ (0,0) _ s2]at s3;exact s3
 have u:W1.heap.size=w.heap.size+1:=by have:=HW.out;rw[<-this];simp
 have vo3:jc Z X es.length es:=by
  refine vo.kept (cap:=vc) (λj hj=> ?_);have:=(F9 j hj).1;rw[<-E,aq _ _ _ _ (by show j≠w.heap.size;omega),aq _ _ _ _ (by show j≠w.heap.size;omega),aq _ _ _ _ (by show j≠w.heap.size;omega)]
 have hs3:Y.heap.size=Z.heap.size:=by rw[<-E];simp
 rw[E];have G:=h.below b3;have OM:eE w Z.drew:=below_drewN b3 1;have H:=h.below OM;obtain⟨W4,y,S4,T4⟩:=H.km.store (by unfold maxLen;omega) own hr ⟨own,seq,X,es.length,vc⟩;have ajg:(fa 211 (.map (μ m.bm)) (ι κ own) (.agg #[ι κ own,ι κ seq,σ X es.length vc])).run eX Z.drew=.ok () W4:=y;have U:=H.ajd T4 S4 (Nat.le_succ _);have c0:=G.c0;have lB:=G.lt;have y0:Z.cell? ⟨w.heap.size,0,ν⟩=μ (ι κ own):=ax Z _ 0 _ _ (0,0) ym;have y1:Z.cell? ⟨w.heap.size,1,ν⟩=μ (ι κ seq):=ax Z _ 1 _ _ (0,0) ym;have y2:Z.cell? ⟨w.heap.size,2,ν⟩=μ (σ X es.length vc):=ax Z _ 2 _ _ (0,0) ym;have yl:w.heap.size<Z.heap.size:=ag Z _ y0;clear x0 x1 x2 fx xl E y S4
 go_region
 have A:jC Z.drew W4 m:=jC.pK T4 (.inl rfl);have Qn:∀x,x=m.bm \/x∈m.bs->x<w.heap.size:=by
  intro x hx;rcases hx with rfl|hx
  ·exact h.km.lt
  ·obtain⟨i,hi⟩:=List.getElem?_of_mem hx;exact(h.om i x hi).lt
 have ZM:∀V:dY,jC Z.drew V m->V.heap[w.heap.size]? =μ (γ #[ι κ own,ι κ seq,σ X es.length vc] 40 (0,0)):=λV hV=>
  (hV.block w.heap.size yl (λe=>by have:=Qn m.bm (.inl rfl);omega) (λe=>by have:=Qn _ (.inr e);omega)).trans ym
 obtain⟨s,hs⟩:∃s:SV,(⟨own,seq,X,es.length,vc⟩:SV)=s:=⟨_,rfl⟩
 have aeK:FB W4 B m (k+1+0) (tL kn own s) (λi=>if i<0 then tL (ow i) own s else ow i):=by
  rw[<-hs];have e0:(λi=>if i<0 then tL (ow i) own ⟨own,seq,X,es.length,vc⟩else ow i)=ow:=by funext i;simp
  rw[e0];exact U
 have yn:=h.few;have c1:W4.cell? ⟨B,1,ν⟩=μ (σ (μ ⟨m.g,0,ν⟩) m.bs.length m.cap):=U.c1;have lB4:=U.lt;have M:Hid _:=hs;have HX:Hid _:=ZM;have H3:Hid (jc Z X es.length es/\eE w Z/\Y.heap.size=Z.heap.size/\W1.heap.size=w.heap.size+1):=⟨vo3,b3,hs3,u⟩
 have D:Hid _:=Qn;clear hs ZM c0 lB y0 y1 y2 yl G H U ajg T4 Q S pV ym b3 OM hb k2 rJ Qn vo3 hs3 u vo
 go_wp2
 go_loopw [20] (λi wr=>∃j:Nat,j<=m.bs.length/\i=ι κ j/\FB wr B m (k+1+j) (tL kn own s) (λi=>if i<j then tL (ow i) own s else ow i)/\jC Z.drew wr m) (λi _=>m.bs.length-(eY i).toNat)
 case atStart=>exact⟨0,Nat.zero_le _,rfl,aeK,A⟩
 case round=>
  clear aeK A c1 lB4;obtain⟨j,hj,rfl,hF,J⟩:=hrel;by_cases kB:j<m.bs.length
  ·have nQ:(j:Int)<(m.bs.length:Int):=eh;have hX:=HX.out wr J;have z0:wr.cell? ⟨w.heap.size,0,ν⟩=μ (ι κ own):=ax wr _ 0 _ _ (0,0) hX;have z1:wr.cell? ⟨w.heap.size,1,ν⟩=μ (ι κ seq):=ax wr _ 1 _ _ (0,0) hX;have z2:wr.cell? ⟨w.heap.size,2,ν⟩=μ (σ X es.length vc):=ax wr _ 2 _ _ (0,0) hX;have zl:w.heap.size<wr.heap.size:=ag wr _ z0;have T:m.bs[j]? =μ m.bs[j] :=az kB;have cp:=hF.port j _ T;have gl:m.g<wr.heap.size:=ag wr _ cp;obtain⟨W5,MK,S5,T5⟩:=(hF.om j _ T).store (by unfold maxLen;omega) own hr s;have F5:=hF.MJ T T5 S5 (Nat.le_succ _);have M5:jC Z.drew W5 m:=J.trans (jC.pK T5 (.inr (aG _)));have F5':FB W5 B m (k+1+(j+1)) (tL kn own s) (λi=>if i<j+1 then tL (ow i) own s else ow i):=by
    have e:(λi=>if i<j+1 then tL (ow i) own s else ow i)=(λi=>if i=j then(λx=>if x=own then μ s else(if j<j then tL (ow j) own s else ow j) x)else(if i<j then tL (ow i) own s else ow i)):=by
     funext i
     by_cases Q:i=j
     ·rw[Q,ai (Nat.lt_succ_self j),ai rfl,af (Nat.lt_irrefl j)];rfl
     ·by_cases h2:i<j
      ·rw[ai eh,af Q,ai h2]
      ·rw[af eh,af Q,af h2]
    rw[e];exact F5
   have ajh:(fa 211 (.map (μ m.bs[j])) (ι κ own) (.agg #[ι κ own,ι κ seq,σ X es.length vc])).run eX wr=.ok () W5:=by
    have:=MK;rw[<-M.out]at this;exact this
   generalize m.bs[j] =bj at cp ajh;clear MK S5 T5 F5 hF J T hX
   go_wp2
   go_roundw
   case rel=>exact⟨j+1,eh,by go_num,F5',M5⟩
   case measure=>simp[eY];omega
  ·have OD:j=m.bs.length:=eh;subst OD;have HF:Hid (∃s,IJ w wr B m k kn ow own seq es s):=by
    obtain⟨q1,q2,q3,q4⟩:=H3.out;have uK:∀x,eu (σ X es.length vc)=μ x->x≠m.bm/\x∉m.bs:=λx hx=>by
     have Q:=(F9 x hx).1;exact⟨λe=>by have:=D.out m.bm (.inl rfl);omega,λe=>by have:=D.out x (.inr e);omega⟩
    have o1:=(q1.drewN 1).TG (cap:=vc) J uK;have rQ:=J.size;have aoA:Z.heap.size<=wr.heap.size:=rQ;refine⟨s,?_,?_,?_,?_,?_,?_,hF,(jC.iT m (below_drewN q2 1)).trans J⟩
    ·rw[<-M.out]
    ·rw[<-M.out]
    ·rw[<-M.out]
    ·rw[<-M.out];exact o1
    ·rw[<-M.out];exact vn
    ·rw[<-M.out];intro x hx;have:=F9 x hx;omega
   clear hF J
   go_wp2
   first|go_end0|refine iJ rfl rfl ?_
   exact⟨rfl,HF.out⟩
structure vP(w:dY)(a:Option dX)(n:Nat)(S:Nat->SV)(E:Nat->List jE):Prop where
 row:n=0 \/ ∃b off,a=μ ⟨b,off,ν⟩/\∀j,j<n->w.cell? ⟨b,off+j*3,ν⟩=μ (ι κ (S j).own)/\w.cell? ⟨b,off+j*3+1,ν⟩=μ (ι κ (S j).seq)/\w.cell? ⟨b,off+j*3+2,ν⟩=μ (σ (S j).a (S j).n (S j).cap)
 opt:∀j,j<n->jc w (S j).a (S j).n (E j)/\kI (S j).a (S j).cap/\(S j).n<=maxLen
theorem vP.below {w w':dY} {a:Option dX} {n:Nat} {S:Nat->SV} {E:Nat->List jE} (h:vP w a n S E)(hb:eE w w'):vP w' a n S E:=by
 refine⟨?_,λj Z=>⟨(h.opt j Z).1.below hb,(h.opt j Z).2⟩⟩;rcases h.row with Y|⟨b,off,rfl,Y⟩
 ·exact .inl Y
 ·refine .inr ⟨b,off,rfl,λj Z=> ?_⟩;obtain⟨c1,c2,c3⟩:=Y j Z;have l:=ag w _ c1;exact⟨(hb.cell (p:=⟨b,off+j*3,ν⟩) l).trans c1,(hb.cell (p:=⟨b,off+j*3+1,ν⟩) l).trans c2,(hb.cell (p:=⟨b,off+j*3+2,ν⟩) l).trans c3⟩
theorem ML {H:Type} {enc:ew×dZ->H} {W:dY} {m:Nat} {v:dZ} {y:DataW H×List MemPlace}
 (T:DataW.trod enc eX W 0 (λ_=>true) true m 38 [v] =μ y):
 ∃(a:Option dX) (n cap:Nat) (os:List jE),v=σ a n cap/\jc W a n os/\kI a cap/\n<=maxLen:=by
 rcases dE underlying38 underlying123 gq rfl rfl gq gq T with⟨hcs,_⟩|⟨a,len,cap,m',n',Y,X,D0,D1,P0,P1,hcs,_,hl,hm,G,_,hx⟩
 ·simp at hcs;subst hcs;exact⟨ν,0,0,[],rfl,⟨rfl,.inl rfl⟩,λ_=>rfl,eA⟩
 ·simp at hcs;subst hcs;simp at G;have each:∀i,i<len->W.cell? (a.add (i*2))=μ (ι κ (eY (Y i)))/\W.cell? (a.add (i*2+1))=μ (ι κ (eY (X i))):=by
   intro i hi;obtain⟨q1,q2,U,S⟩:=hx i eh;obtain⟨k,f0,_,_⟩:=bh underlying3 U;obtain⟨n,f1,_,_⟩:=bh underlying3 S;simp at f0 f1;exact⟨by rw[q1,f0];rfl,by rw[q2,f1];rfl⟩
  refine⟨μ a,len,cap,(List.range len).map (λi=>(eY (Y i),eY (X i))),rfl,⟨gY,?_⟩,λh=>by simp at h,eh⟩;by_cases Q:len=0
  ·exact .inl Q
  ·obtain⟨b,off,Z⟩:=a;have hc:=(each 0 eh).1;have M:Z=ν:=by simpa[Addr.add]using db hc
   subst M;refine .inr ⟨b,off,rfl,λj E=> ?_⟩;have J:j<len:=by simpa using E
   have V:=each j J;rw[m9,m9]at V;simpa[Nat.add_assoc]using V
theorem TH:(eX.info? 5).map (λi=>(i.zero,i.size,i.bytes))=μ (μ (.int .u8 0),1,1):=gq
def stH(own seq:Int):List UInt8:=[St.u8 own,St.u8 (seq%256),St.u8 (seq/256%256),St.u8 (seq/65536)]
theorem XF(own seq:Int):(stH own seq).length=4:=rfl
theorem TI(w:dY)(own seq:Int)(p1:1<=own)(p2:own<=6)(p3:1<=seq)(p4:seq<=1000000):Row (w.alloc (γ #[.int .u8 own,.int .u8 (seq%256),.int .u8 (seq/256%256),.int .u8 (seq/65536)] 5)) 1 (σ (μ ⟨w.heap.size,0,ν⟩) 4 4) 4 (iO [St.u8 own,St.u8 (seq%256),St.u8 (seq/256%256),St.u8 (seq/65536)]):=by
 refine Row.made w 1 _ _ (0,0) 4 4 _ rfl rfl (Nat.le_refl _) eA (.inl rfl) ?_;intro j u Z;simp only[iO,eN,eO,pA own eh eh,pA (seq%256) eh eh,pA (seq/256%256) eh eh,pA (seq/65536) eh eh]at Z;simpa using Z
theorem MN(own seq:Int)(a:Option dX)(n cap:Nat)(os:List jE)(w:dY)(y:jc w a n os)(hf:oy own seq os=0):
 eW eX 198 #[.agg #[ι κ own,ι κ seq,σ a n cap]] w λe w'=>e=ρ (τ #[.string ⟨(rb own seq os).toArray⟩,η])/\eE w w':=by
 obtain⟨i0,hi,ox,nh,mO⟩:=aY TH;obtain⟨⟨p1,p2⟩,⟨p3,p4⟩,p5,p6⟩:=jt hf;have nL:=pU own os 0 p6;have hl:=y.1;have T:=gW w (γ #[ι κ own,ι κ seq,σ a n cap] 40);have U:=yk own seq a n cap os _ eh (y.below T);have e0:jm 0=η:=rfl;rw[hf,e0]at U;clear e0 p6 hf
 go_in
 go_wp2_with(fail);refine U.mono ?_;rintro e w1 ⟨rfl,D⟩;obtain⟨q0,q1,q2,hz⟩:=aja D;have A:=gk T D;clear D U T;go_wp2_with(fail);have ud:Row (w1.alloc (γ #[.int .u8 own,.int .u8 (seq%256),.int .u8 (seq/256%256),.int .u8 (seq/65536)] 5)) 1 (σ (μ ⟨w1.heap.size,0,ν⟩) 4 4) 4 (iO [St.u8 own,St.u8 (seq%256),St.u8 (seq/256%256),St.u8 (seq/65536)]):=TI w1 own seq p1 p2 p3 p4;have yo:eE w (w1.alloc (γ #[.int .u8 own,.int .u8 (seq%256),.int .u8 (seq/256%256),.int .u8 (seq/65536)] 5)):=A.alloc A.size _
 go_loopw [5,31] (λv i wr=>∃(k g cp:Nat) (E:List UInt8),E=stH own seq++Mp (os.take k)/\k<=n/\i=ι κ k/\v=σ (μ ⟨g,0,ν⟩) E.length cp/\Row wr 1 v E.length (iO E)/\
  w.heap.size<=g/\eE w wr)
  (λ_ i _=>n-(eY i).toNat)
 case atStart=>exact⟨0,w1.heap.size,4,_,rfl,Nat.zero_le _,rfl,rfl,ud,A.size,yo⟩
 case round=>
  obtain⟨k,g,cp,E,H,hk,rfl,rfl,X,J5,Y⟩:=hrel;have OO:E.length<=19:=by
   have h1:=yh (os.take k);have h2:(os.take k).length<=6:=by simp;omega
   rw[H,aA,XF];omega
  have HE:Hid _:=H;have j:Hid _:=hl;clear H ud yo hl;have m2:E.length+2<=maxLen:=by unfold maxLen;omega
  have b2:(E.length+2)*1<=140737488355328:=eh;by_cases kB:k<n
  ·have Am:=y.below Y;rcases Am.2 with h0|⟨b,off,rfl,hc⟩
   ·omega
   have qF:k<os.length:=by rw[j.out];exact kB
   obtain⟨c1,c2⟩:=hc k qF;obtain⟨⟨Q,J⟩,⟨G,M⟩⟩:=nL os[k] (aG _);have HT:Hid (os.take (k+1)=os.take k++ [os[k]]):=aB qF;generalize os[k] =o at c1 c2 HT Q J G M;clear hc Am;have nQ:(k:Int)<(n:Int):=eh;have ZN:eE w (wr.alloc (γ #[ι κ o.1,ι κ o.2] 123)):=Y.alloc Y.size _;have Z:Row (wr.alloc (γ #[ι κ o.1,ι κ o.2] 123)) 1 (σ (μ ⟨g,0,ν⟩) E.length cp) E.length (iO E):=X.alloc _;go_wp2_with(at_builtin;go_must(refine iG _ rfl (.tmp 35) (.tmp 42) 140 rfl 5 i0 (.int .u8 0) 1 1 underlying140 hi ox nh mO rfl eA _ E.length (iO E) rfl (Z.alloc _) _ 2 2 [.int .u8 o.1,.int .u8 o.2] rfl rfl eA ?hcc (lK _ _ _ _) m2 b2 ?_))
   case hcc=>
    have:=pI (wr.alloc (γ #[ι κ o.1,ι κ o.2] 123)) (.int .u8 o.1) (.int .u8 o.2) 5;simpa using this
   intro V cap2 w2 sT sv kU;have u:μ g=μ V \/(wr.alloc (γ #[ι κ o.1,ι κ o.2] 123)).heap.size+1<=V:=by
    rcases kU with h|h
    ·exact .inl h
    ·exact .inr (by simp;omega)
   have R:=GD sv u J5 ZN;have sA:Row w2 1 (σ (μ ⟨V,0,ν⟩) (E.length+2) cap2) (E++ [St.u8 o.1,St.u8 o.2]).length (iO (E++ [St.u8 o.1,St.u8 o.2])):=by
    rw[lI,aA];simp only[iO,eN,eO,pA o.1 (show 0<=o.1 by omega) (show o.1<=255 by omega),pA o.2 (show 0<=o.2 by omega) (show o.2<=255 by omega)];exact sT
   have HN:Hid (E++ [St.u8 o.1,St.u8 o.2] =stH own seq++Mp (os.take (k+1))):=by
    show E++ [St.u8 o.1,St.u8 o.2] =_;rw[HE.out,HT.out,TB,aE]
   have S:Hid ((E++ [St.u8 o.1,St.u8 o.2]).length=E.length+2):=by show(E++ [St.u8 o.1,St.u8 o.2]).length=E.length+2;simp
   clear sT sv kU u X Y ZN Z
   go_wp2
   go_roundw
   case rel=>exact⟨k+1,V,cap2,_,HN.out,eh,by go_num,by rw[S.out],sA,R.1,R.2⟩
   case measure=>simp[eY];omega
  ·have ZO:(convert 140 9 (σ (μ ⟨g,0,ν⟩) E.length cp)).run eX wr=.ok (.string ⟨E.toArray⟩) wr:=Row.back X 140 9 5 underlying140 underlying5 underlying9;have HF:Hid (rb own seq os=E):=by
    show rb own seq os=E;have ze:os.take k=os:=aJ (by rw[j.out];omega);rw[HE.out,ze];rfl
   clear X;go_wp2_with(fail);rw[HF.out]
   go_ret2
   exact⟨rfl,Y⟩
theorem DR(w:dY)(x y:dZ)(t:ew):∀(j:Nat) (u:dZ),[x,y][j]? =μ u->(w.alloc (γ #[x,y] t)).drew.cell? ((⟨w.heap.size,0,ν⟩:dX).add j)=μ u:=λj u Z=>pI w x y t j u Z
