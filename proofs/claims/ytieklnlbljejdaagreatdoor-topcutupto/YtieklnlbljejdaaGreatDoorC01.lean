import Derived.Test.YtieklnlbljejdaaGreatDoorC00
open Go.Value renaming int → ι, slice → σ, pointer → π, tuple → τ, nilIface → η, ownBlock → eh, cells → fF
open Go.IntKind renaming i64 → κ, u8 → fI
open Go.Ending renaming returned → ρ
open Go.Obj renaming cells → γ
open Option renaming none → ν, some → μ
open List renaming length_cons → eQ, getElem?_inj → fC, getElem?_of_mem → fD
open Prod.mk renaming injEq → fc
open Go.Proofs.Tryz renaming prog → eY
open Go renaming World → dX, Calls → eX, Addr → dW, Value → dY, TypeId → eu, DataW → eT, MemPlace → fe, run_underlying → fB
open Go.RowKit renaming intOf → eZ
open Go.Instr renaming mapUpdate → fh, lookup → fq
open Go.Maps renaming atKey_put_other → fj, atKey_del_other → ft
open Go.Builtin renaming clear_ → fA, append_ → fJ, lenOf → fK, firstCells → fL, nextslicecap → fM
open Go.Addr renaming add → fE
open ByteArray renaming empty → fG
open Array renaming map → fH
set_option maxRecDepth 100000
set_option maxHeartbeats 4000000
open Go.Proofs.Tryz
namespace Go.Proofs.YtieklnlbljejdaaGreatDoor
namespace St
variable {a b s1 s2:Int}
abbrev Ed:=Int×Int
def qv(own:Int):Int->List Ed->Nat
 |_,[] =>0
 |ah,e::r=>if e.1<1 \/6<e.1 \/e.2<1 \/20<e.2 then 1 else if e.1=own \/e.1<=ah then 3 else qv own e.1 r
def oA(own seq:Int)(es:List Ed):Nat:=if own<1 \/6<own \/seq<1 \/1000000<seq then 1 else if 6<es.length then 2 else qv own 0 es
theorem ju {own seq:Int} {es:List Ed} (h:oA own seq es=0):(1<=own/\own<=6)/\(1<=seq/\seq<=1000000)/\es.length<=6/\qv own 0 es=0:=by
 unfold oA at h;split at h;{simp at h};{split at h;{simp at h};{exact⟨dZ,dZ,dZ,h⟩}}
theorem pV(own:Int):∀(es:List Ed) (Y:Int),qv own Y es=0->∀e∈es,(1<=e.1/\e.1<=6)/\(1<=e.2/\e.2<=20)
 |[],_,_,e,Z=>by simp at Z
 |x::r,Y,h,e,Z=>by
  unfold qv at h;split at h;{simp at h}
  ·split at h;{simp at h}
   ·rcases aO.1 Z with rfl|Z
    {omega};{exact pV own r _ h e Z}
def u8(x:Int):UInt8:=UInt8.ofNat x.toNat
theorem pB(x:Int)(h0:0<=x)(h1:x<=255):((u8 x).toNat:Int)=x:=by
 unfold u8;rw[UInt8.toNat_ofNat_of_lt' (by show x.toNat<256;omega)];omega
def MA(es:List Ed):List UInt8:=es.flatMap λo=>[u8 o.1,u8 o.2]
theorem TY(os:List Ed)(o:Ed):MA (os++ [o])=MA os++ [u8 o.1,u8 o.2] :=by simp[MA]
theorem yn(os:List Ed):(MA os).length=2*os.length:=by
 induction os with
 |nil=>rfl
 |cons o r ih=>simp only[MA,List.flatMap_cons,List.length_append,eQ,List.length_nil]at ih⊢;omega
def rh(own seq:Int)(es:List Ed):List UInt8:=u8 own::u8 (seq%256)::u8 (seq/256%256)::u8 (seq/65536)::MA es
def pairs:List UInt8->List Ed
 |k::n::r=>((k.toNat:Int),(n.toNat:Int))::pairs r
 |_=>[]
theorem zi:∀l:List UInt8,(pairs l).length=l.length/2
 |[] =>rfl
 |[_] =>by simp[pairs]
 |a::b::r=>by
  have ih:=zi r;simp only[pairs,eQ,ih];omega
theorem G7:∀(os:List Ed),(∀o∈os,(0<=o.1/\o.1<=255)/\(0<=o.2/\o.2<=255))->pairs (MA os)=os
 |[],_=>rfl
 |o::r,h=>by
  have X:MA (o::r)=u8 o.1::u8 o.2::MA r:=by simp[MA]
  obtain⟨Z,Y⟩:=h o gU;rw[X,pairs,pB o.1 Z.1 Z.2,pB o.2 Y.1 Y.2,G7 r (λx hx=>h x (by simp[hx]))]
def Kw(l:List UInt8):Int:=((l.getD 1 0).toNat:Int)+256*((l.getD 2 0).toNat:Int)+65536*((l.getD 3 0).toNat:Int)
def ij(l:List UInt8):Int×Int×List Ed×Nat:=
 if l.length<4 \/l.length%2=1 then(0,0,[],4)
 else if oA ((l.getD 0 0).toNat:Int) (Kw l) (pairs (l.drop 4))=0 then(((l.getD 0 0).toNat:Int),Kw l,pairs (l.drop 4),0)
 else(0,0,[],4)
theorem Kx(l:List UInt8)(h:16<l.length):ij l=(0,0,[],4):=by
 unfold ij;split;{rfl}
 ·rename_i h1
  have hl:6<(pairs (l.drop 4)).length:=by rw[zi];simp;omega
  split
  ·rename_i Z
   have:=(ju Z).2.2.1;omega
  ·rfl
theorem nP(own seq:Int)(es:List Ed)(hf:oA own seq es=0):ij (rh own seq es)=(own,seq,es,0):=by
 obtain⟨p1,p2,p3,V⟩:=ju hf;have X:=pV own es 0 V;have hl:(rh own seq es).length=4+2*es.length:=by
  unfold rh;simp only[eQ,yn];omega
 have g0:(rh own seq es).getD 0 0=u8 own:=rfl;have Z:(rh own seq es).drop 4=MA es:=rfl;have hs:Kw (rh own seq es)=seq:=by
  show((u8 (seq%256)).toNat:Int)+256*((u8 (seq/256%256)).toNat:Int)+65536*((u8 (seq/65536)).toNat:Int)=seq;rw[pB _ dZ dZ,pB _ dZ dZ,pB _ dZ dZ];omega
 unfold ij;rw[g0,Z,hs,pB own dZ dZ,G7 es (λo Y=>by have:=X o Y;omega),hl,af dZ,ai hf]
def lZ(a b:Int):Int:=if a<b then-1 else if b<a then 1 else 0
def yo(a b:Ed):Int:=if lZ a.1 b.1≠0 then lZ a.1 b.1 else lZ a.2 b.2
def l7:List Ed->List Ed->Int
 |[],[] =>0
 |[],_::_=> -1
 |_::_,[] =>1
 |a::r,b::q=>if yo a b≠0 then yo a b else l7 r q
def lT(s1:Int)(e1:List Ed)(s2:Int)(e2:List Ed):Int:=if lZ s1 s2≠0 then lZ s1 s2 else l7 e1 e2
theorem QJ(a b:Int):lZ a b= -lZ b a:=by unfold lZ;split<;>split<;>(try split)<;>omega
theorem nD:lZ a b=0↔a=b:=by unfold lZ;constructor<;>intro h<;>(try split at h)<;>(try split at h)<;>(try split)<;>(try split)<;>omega
theorem MU(a b:Int):lZ a b= -1 \/lZ a b=0 \/lZ a b=1:=by unfold lZ;split<;>(try split)<;>simp
theorem ub:0<lZ a b↔b<a:=by unfold lZ;split<;>(try split)<;>omega
theorem qJ(a b:Ed):(yo a b=1/\(b.1<a.1 \/b.1=a.1/\b.2<a.2)) \/(yo a b= -1/\(a.1<b.1 \/a.1=b.1/\a.2<b.2)) \/(yo a b=0/\a=b):=by
 obtain⟨a1,a2⟩:=a;obtain⟨b1,b2⟩:=b;simp only[yo,lZ,fc]
 repeat' split
 all_goals omega
theorem QK(a b:Ed):yo a b= -yo b a:=by
 obtain⟨a1,a2⟩:=a;obtain⟨b1,b2⟩:=b;simp only[yo,lZ]
 repeat' split
 all_goals omega
theorem DU:∀a b:List Ed,l7 a b= -1 \/l7 a b=0 \/l7 a b=1
 |[],[] =>by simp[l7]
 |[],_::_=>by simp[l7]
 |_::_,[] =>by simp[l7]
 |a::r,b::q=>by
  unfold l7;split;{rcases qJ a b with h|h|h<;>simp[h.1]};{exact DU r q}
theorem G8:∀a b:List Ed,l7 a b= -l7 b a
 |[],[] =>by simp[l7]
 |[],_::_=>by simp[l7]
 |_::_,[] =>by simp[l7]
 |a::r,b::q=>by
  have h:=QK a b;have ih:=G8 r q;unfold l7;split<;>split<;>omega
theorem G9:∀ {a b:List Ed},l7 a b=0↔a=b
 |[],[] =>by simp[l7]
 |[],_::_=>by simp[l7]
 |_::_,[] =>by simp[l7]
 |a::r,b::q=>by
  have ih:= @G9 r q;unfold l7;rcases qJ a b with h|h|h
  {rw[ai dZ,h.1];constructor;{intro e;simp at e};{intro e;obtain⟨Z,Y⟩:=a;obtain⟨b1,b2⟩:=b;simp at e h;omega}};{rw[ai dZ,h.1];constructor;{intro e;simp at e};{intro e;obtain⟨Z,Y⟩:=a;obtain⟨b1,b2⟩:=b;simp at e h;omega}};{rw[af dZ,ih];simp[h.2]}
theorem DV:∀ {a b c:List Ed},0<=l7 a b->0<=l7 b c->0<=l7 a c/\(0<l7 a b \/0<l7 b c->0<l7 a c)
 |[],[],[],_,_=>by simp[l7]
 |[],[],_::_,_,h=>by simp[l7]at h
 |[],_::_,_,h,_=>by simp[l7]at h
 |_::_,[],[],_,_=>by simp[l7]
 |_::_,[],_::_,_,h=>by simp[l7]at h
 |_::_,_::_,[],_,_=>by simp[l7]
 |a::r,b::q,c::s,h1,h2=>by
  have ih:= @DV r q s;unfold l7 at h1 h2⊢;rcases qJ a b with⟨Y,U⟩|⟨Y,U⟩|⟨Y,rfl⟩
  ·rcases qJ b c with⟨Z,V⟩|⟨Z,V⟩|⟨Z,rfl⟩
   ·rcases qJ a c with⟨X,T⟩|⟨X,T⟩|⟨X,rfl⟩
    {simp[X]};{omega};{omega}
   {simp[Z]at h2};{simp[Y]}
  ·simp[Y]at h1
  ·rcases qJ a c with⟨Z,V⟩|⟨Z,V⟩|⟨Z,rfl⟩
   {simp[Z]};{simp[Z]at h2};{simp only[Y]at h1 h2⊢;simp at h1 h2⊢;exact ih h1 h2}
theorem ud(s1 s2:Int)(Z Y:List Ed):lT s1 Z s2 Y= -lT s2 Y s1 Z:=by
 have h:=QJ s1 s2;have ih:=G8 Z Y;unfold lT;split<;>split<;>omega
theorem AB {e1 e2:List Ed}:lT s1 e1 s2 e2=0↔s1=s2/\e1=e2:=by
 unfold lT;split
 ·rename_i h
  constructor;{intro e;exact absurd e h};{intro⟨e,_⟩;exact absurd (nD.2 e) h}
 ·rename_i h
  have:s1=s2:=nD.1 dZ;rw[G9];simp[this]
theorem DW(s1 s2:Int)(Z Y:List Ed):lT s1 Z s2 Y= -1 \/lT s1 Z s2 Y=0 \/lT s1 Z s2 Y=1:=by
 unfold lT;split;{rcases MU s1 s2 with h|h|h<;>simp[h]};{exact DU Z Y}
theorem yq {s3:Int} {e1 e2 e3:List Ed} (Y:0<=lT s1 e1 s2 e2)(Z:0<=lT s2 e2 s3 e3):0<=lT s1 e1 s3 e3/\(0<lT s1 e1 s2 e2 \/0<lT s2 e2 s3 e3->0<lT s1 e1 s3 e3):=by
 unfold lT at Y Z⊢;by_cases a:s1=s2;{by_cases b:s2=s3;{have c:s1=s3:=a.trans b;rw[af (by simp[nD.2 a])]at Y;rw[af (by simp[nD.2 b])]at Z;have X:=nD.2 a;have hb:=nD.2 b;have hc:=nD.2 c;rw[af (show¬lZ s1 s2≠0 by omega),af (show¬lZ s2 s3≠0 by omega),af (show¬lZ s1 s3≠0 by omega)];exact DV Y Z};{have hb:lZ s2 s3≠0:=λe=>b (nD.1 e);rw[ai hb]at Z;have p:s3<s2:=ub.1 dZ;have q:0<lZ s1 s3:=ub.2 dZ;rw[ai (show lZ s1 s3≠0 by omega)];exact⟨dZ,λ_=>q⟩}}
 ·have X:lZ s1 s2≠0:=λe=>a (nD.1 e);rw[ai X]at Y;have p:s2<s1:=ub.1 dZ;have p2:s3<=s2:=by
   by_cases b:lZ s2 s3=0;{have:=nD.1 b;omega};{rw[ai b]at Z;have:=ub.1 (show 0<lZ s2 s3 by omega);omega}
  have q:0<lZ s1 s3:=ub.2 dZ;rw[ai (show lZ s1 s3≠0 by omega)];exact⟨dZ,λ_=>q⟩
end St
open Go.RowKit St
variable {B b cap i m n n':Nat} {H:Type} {W w w':World} {a:Option Addr} {k x:Int} {left:Lit->Bool} {ps:List MemPlace} {t:TypeId}
theorem zj:(eY.info? 123).map (λi=>(i.zero,i.size,i.bytes))=μ (μ (.agg #[ι κ 0,ι κ 0]),2,16):=gS
theorem pJ(w:dX):(zeroValue 40).run eY w=.ok (.agg #[ι κ 0,ι κ 0,σ ν 0 0]) w:=gS
def T6(n:Int):Bool:=decide (1<=n)&&decide (n<=6)
theorem uJ(n:Int)(w:dX):eX eY 167 #[ι κ n] w λe w'=>e=ρ (.bool (T6 n))/\w=w':=by
 by_cases Z:1<=n
 ·by_cases Y:n<=6
  ·have hb:T6 n=true:=by simp[T6,Z,Y]
   rw[hb];clear hb
   go_in
   go_wp2
   go_ret;exact⟨by first|rfl|(simp;omega),rfl⟩
  ·have hb:T6 n=false:=by simp[T6,Y]
   rw[hb];clear hb
   go_in
   go_wp2
   go_ret;exact⟨by first|rfl|(simp;omega),rfl⟩
 ·have hb:T6 n=false:=by simp[T6,Z]
  rw[hb];clear hb
  go_in
  go_wp2
  go_ret;exact⟨by first|rfl|(simp;omega),rfl⟩
theorem DX(n:Int)(h0:¬n<1)(h1:¬6<n):T6 n=true:=by simp[T6];omega
theorem AE(n:Int)(h:n<1 \/6<n):T6 n=false:=by simp[T6];omega
theorem DY(own:Int)(a:Option dW)(n cap:Nat)(os:List jJ)(w:dX)(hn:n<=1000000)(Q:jc w a n os):
 eX eY 168 #[ι κ own,σ a n cap] w λe w'=>e=ρ (ji (qv own 0 os))/\eB w w':=by
 have E:ji 0=η:=rfl;have D:ji 1=.iface 128 (ι κ 1):=rfl;have A:ji 3=.iface 128 (ι κ 3):=rfl;have j:Hid _:=E;have S:Hid _:=D;have J:Hid _:=A;clear E D A
 go_in
 go_wp2
 go_loopw [5,10] (λah i wr=>∃(k:Nat) (h:Int),k<=n/\ah=ι κ h/\i=ι κ k/\qv own 0 os=qv own h (os.drop k)/\eB w wr) (λ_ i _=>n-(eZ i).toNat)
 case atStart=>exact⟨0,0,Nat.zero_le _,rfl,rfl,rfl,au _ _⟩
 case round=>
  obtain⟨k,h,hk,rfl,rfl,G,T⟩:=hrel;have U:Hid _:=G;clear G;by_cases kA:k<n
  ·have M:=Q.below T;rcases M.2 with h0|⟨b,off,rfl,hc⟩
   ·omega
   have y:k<os.length:=by rw[Q.1];exact kA
   obtain⟨c1,c2⟩:=hc k y;have V:Hid (os.drop k=os[k] ::os.drop (k+1)):=aR y;generalize os[k] =o at c1 c2 V;clear hc M;have nL:(k:Int)<(n:Int):=dZ;have X:=T.alloc T.size (γ #[ι κ o.1,ι κ o.2] 123);have Y:=uJ o.1 (wr.alloc (γ #[ι κ o.1,ι κ o.2] 123));have one:(o.1<1 \/6<o.1 \/o.2<1 \/20<o.2)->Hid (qv own 0 os=1):=λhh=>by
    show _=_;rw[U.out,V.out,qv,ai hh]
   by_cases r1:o.1<1 \/6<o.1;{have Z:=one dZ;rw[AE o.1 r1]at Y;clear one;go_wp2_with(fail);refine Y.mono ?_;rintro e w1 ⟨rfl,rfl⟩;go_wp2_with(fail);rw[Z.out,S.out];go_ret;exact⟨rfl,X⟩};rw[DX o.1 dZ dZ]at Y;by_cases r2:o.2<1;{have Z:=one dZ;clear one;go_wp2_with(fail);refine Y.mono ?_;rintro e w1 ⟨rfl,rfl⟩;go_wp2_with(fail);rw[Z.out,S.out];go_ret;exact⟨rfl,X⟩};by_cases r3:20<o.2;{have Z:=one dZ;clear one;go_wp2_with(fail);refine Y.mono ?_;rintro e w1 ⟨rfl,rfl⟩;go_wp2_with(fail);rw[Z.out,S.out];go_ret;exact⟨rfl,X⟩}
   have three:(o.1=own \/o.1<=h)->Hid (qv own 0 os=3):=λhh=>by
    show _=_;rw[U.out,V.out,qv,af dZ,ai hh]
   clear one;cases u:(o.1==own)
   ·by_cases r5:o.1<=h;{have Z:=three (.inr r5);clear three;go_wp2_with(fail);refine Y.mono ?_;rintro e w1 ⟨rfl,rfl⟩;go_wp2_with(fail);rw[Z.out,J.out];go_ret;exact⟨rfl,X⟩}
    ·have HN:Hid (qv own 0 os=qv own o.1 (os.drop (k+1))):=by
      show _=_;have r4':¬o.1=own:=by simpa using u
      rw[U.out,V.out,qv,af dZ,af dZ]
     clear three;go_wp2_with(fail);refine Y.mono ?_;rintro e w1 ⟨rfl,rfl⟩
     go_wp2
     go_roundw
     case rel=>exact⟨k+1,_,dZ,rfl,by go_num,HN.out,X⟩
     case measure=>simp[eZ];omega
   ·have Z:=three (.inl (by simpa using u));clear three;go_wp2_with(fail);refine Y.mono ?_;rintro e w1 ⟨rfl,rfl⟩;go_wp2_with(fail);rw[Z.out,J.out];go_ret;exact⟨rfl,X⟩
  ·have Z:Hid (qv own 0 os=0):=by
    show _=_;rw[U.out,a8 (by rw[Q.1];omega),qv]
   go_wp2_with(fail);rw[Z.out,j.out];go_ret;exact⟨rfl,T⟩
theorem yr(own seq:Int)(a:Option dW)(n cap:Nat)(os:List jJ)(w:dX)(S:n<=1000000)(U:jc w a n os):
 eX eY 117 #[.agg #[ι κ own,ι κ seq,σ a n cap]] w λe w'=>e=ρ (ji (oA own seq os))/\eB w w':=by
 have X:=gT w (γ #[ι κ own,ι κ seq,σ a n cap] 40);have V:Hid (ji 1=.iface 128 (ι κ 1)):=rfl;have T:Hid (ji 2=.iface 128 (ι κ 2)):=rfl;have hl:=U.1;have Y:=uJ own (w.alloc (γ #[ι κ own,ι κ seq,σ a n cap] 40));have one:(own<1 \/6<own \/seq<1 \/1000000<seq)->Hid (oA own seq os=1):=λhh=>by show _=_;rw[oA,ai hh]
 by_cases r1:own<1 \/6<own
 ·have Z:=one dZ;rw[AE own r1]at Y;clear one
  go_in
  go_wp2_with(fail);refine Y.mono ?_;rintro e w1 ⟨rfl,rfl⟩;go_wp2_with(fail);rw[Z.out,V.out];go_ret;exact⟨rfl,X⟩
 rw[DX own dZ dZ]at Y;by_cases r2:seq<1
 ·have Z:=one dZ;clear one
  go_in
  go_wp2_with(fail);refine Y.mono ?_;rintro e w1 ⟨rfl,rfl⟩;go_wp2_with(fail);rw[Z.out,V.out];go_ret;exact⟨rfl,X⟩
 by_cases r3:1000000<seq
 ·have Z:=one dZ;clear one
  go_in
  go_wp2_with(fail);refine Y.mono ?_;rintro e w1 ⟨rfl,rfl⟩;go_wp2_with(fail);rw[Z.out,V.out];go_ret;exact⟨rfl,X⟩
 clear one;by_cases r4:(6:Int)<(n:Int)
 ·have Z:Hid (oA own seq os=2):=by show _=_;rw[oA,af dZ,ai dZ]
  go_in
  go_wp2_with(fail);refine Y.mono ?_;rintro e w1 ⟨rfl,rfl⟩;go_wp2_with(fail);rw[Z.out,T.out];go_ret;exact⟨rfl,X⟩
 ·have Z:Hid (oA own seq os=qv own 0 os):=by show _=_;rw[oA,af dZ,af dZ]
  have hc:=DY own a n cap os _ S (U.below X)
  go_in
  go_wp2_with(fail);refine Y.mono ?_;rintro e w1 ⟨rfl,rfl⟩;go_wp2_with(fail);refine hc.mono ?_;rintro e w2 ⟨rfl,k2⟩;go_wp2_with(fail);rw[Z.out];go_ret;exact⟨rfl,gh X k2⟩
theorem ajL {w1:dX} {x y z:dY} (hb:Below (w.alloc (γ #[x,y,z] t)).heap.size (w.alloc (γ #[x,y,z] t)) w1):
 w1.cell? ⟨w.heap.size,0,ν⟩=μ x/\w1.cell? ⟨w.heap.size,1,ν⟩=μ y/\w1.cell? ⟨w.heap.size,2,ν⟩=μ z/\w.heap.size<w1.heap.size:=by
 have Z:w.heap.size<(w.alloc (γ #[x,y,z] t)).heap.size:=gU;have hA:=λj=>aq w #[x,y,z] t (0,0) j;exact⟨(hb.cell (p:=⟨w.heap.size,0,ν⟩) Z).trans (hA 0),(hb.cell (p:=⟨w.heap.size,1,ν⟩) Z).trans (hA 1),(hb.cell (p:=⟨w.heap.size,2,ν⟩) Z).trans (hA 2),Nat.lt_of_lt_of_le Z hb.size⟩
def ahead(os:List jJ)(k:Nat):Int:=if k=0 then 0 else(os.getD (k-1) (0,0)).1
theorem I2(a:Int)(w:dX):eX eY 222 #[ι κ a] w λe w'=>e=ρ (.bool false)/\w=w':=by
 have h:(a !=a)=false:=gU
 go_in
 go_wp2
 go_ret;exact⟨rfl,rfl⟩
theorem tq(a b:Int)(w:dX):eX eY 204 #[ι κ a,ι κ b] w λe w'=>e=ρ (ι κ (lZ a b))/\w=w':=by
 by_cases Z:a<b
 ·have hv:lZ a b= -1:=by simp[lZ,Z]
  rw[hv];clear hv
  go_in
  go_wp2_with(go_at_call 222;refine(I2 _ _).mono ?_;rintro e w1 ⟨rfl,rfl⟩);go_ret;exact⟨rfl,rfl⟩
 ·by_cases Y:b<a
  ·have hv:lZ a b=1:=by simp[lZ,Z,Y]
   rw[hv];clear hv
   go_in
   go_wp2_with(go_at_call 222;refine(I2 _ _).mono ?_;rintro e w1 ⟨rfl,rfl⟩);go_ret;exact⟨rfl,rfl⟩
  ·have hv:lZ a b=0:=by simp[lZ,Z,Y]
   rw[hv];clear hv
   go_in
   go_wp2_with(go_at_call 222;refine(I2 _ _).mono ?_;rintro e w1 ⟨rfl,rfl⟩);go_ret;exact⟨rfl,rfl⟩
theorem abG(g cap:Nat)(x y:Int)(w:dX)(Z:w.cell? ⟨g,0,ν⟩=μ (ι κ x))(h1:w.cell? ⟨g,1,ν⟩=μ (ι κ y)):
 eX eY 215 #[σ (μ ⟨g,0,ν⟩) 2 cap] w λe w'=>e=ρ (ι κ (if x≠0 then x else y))/\w=w':=by
 have hg:g<w.heap.size:=ag w _ Z;cases q:(x !=0)
 ·have hx:x=0:=by simpa using q
  cases q2:(y !=0)
  ·have hy:y=0:=by simpa using q2
   have hv:(if x≠0 then x else y)=0:=by simp[hx,hy]
   rw[hv];clear hv hx hy
   go_in
   go_wp2_with(fail);refine ch 3 ?_;rw[bR];go_wp2_with(fail);rw[bR];go_wp2_with(fail);rw[bR]
   go_wp2
   go_ret;exact⟨rfl,rfl⟩
  ·have hv:(if x≠0 then x else y)=y:=by simp[hx]
   rw[hv];clear hv hx
   go_in
   go_wp2_with(fail);refine ch 3 ?_;rw[bR];go_wp2_with(fail);rw[bR]
   go_wp2
   go_ret;exact⟨rfl,rfl⟩
 ·have hx:¬x=0:=by simpa using q
  have hv:(if x≠0 then x else y)=x:=by simp[hx]
  rw[hv];clear hv hx
  go_in
  go_wp2_with(fail);refine ch 3 ?_;rw[bR]
  go_wp2
  go_ret;exact⟨rfl,rfl⟩
theorem O5(W:dX)(x y:dY)(t:eu)(g:Nat)(Z:W.heap.size=g):(W.alloc (γ #[x,y] t)).drew.cell? ⟨g,0,ν⟩=μ x/\(W.alloc (γ #[x,y] t)).drew.cell? ⟨g,1,ν⟩=μ y:=by
 subst Z;exact⟨aq W #[x,y] t (0,0) 0,aq W #[x,y] t (0,0) 1⟩
theorem T7(a b c d:Int)(w:dX):eX eY 214 #[.agg #[ι κ a,ι κ b],.agg #[ι κ c,ι κ d]] w λe w'=>e=ρ (ι κ (yo (a,b) (c,d)))/\eB w w':=by
 have M:eB w ((w.alloc (γ #[ι κ a,ι κ b] 123)).alloc (γ #[ι κ c,ι κ d] 123)):=(gT _ _).alloc gU _;obtain⟨p,S⟩:=gg (lZ a c);obtain⟨q,Q⟩:=gg (lZ b d);have hv:yo (a,b) (c,d)=if p≠0 then p else q:=by simp[yo,S,Q]
 have U:=λ(g cap:Nat) (W:dX) y V=>abG g cap p q W y V;rw[hv];generalize (if p≠0 then p else q)=r at U;have A:Hid _:=U;clear U;have V:=λW=>tq a c W;have G:=λW=>tq b d W;rw[S]at V;rw[Q]at G;clear hv S Q
 go_in
 go_wp2_with(fail);obtain⟨Z,Y⟩:=gg ((w.alloc (γ #[ι κ a,ι κ b] 123)).alloc (γ #[ι κ c,ι κ d] 123));have hs:Z.heap.size=w.heap.size+1+1:=by rw[<-Y];simp
 have x0:Z.cell? ⟨w.heap.size,0,ν⟩=μ (ι κ a):=by rw[<-Y];exact((gT _ _).cell (p:=⟨w.heap.size,0,ν⟩) gU).trans (aq w #[ι κ a,ι κ b] 123 (0,0) 0)
 have x1:Z.cell? ⟨w.heap.size,1,ν⟩=μ (ι κ b):=by rw[<-Y];exact((gT _ _).cell (p:=⟨w.heap.size,1,ν⟩) gU).trans (aq w #[ι κ a,ι κ b] 123 (0,0) 1)
 have J:Z.cell? ⟨w.heap.size+1,0,ν⟩=μ (ι κ c):=by rw[<-Y];simp
 have E:Z.cell? ⟨w.heap.size+1,1,ν⟩=μ (ι κ d):=by rw[<-Y];simp
 have u:w.heap.size<Z.heap.size:=ag Z _ x0;have j:w.heap.size+1<Z.heap.size:=ag Z _ J;rw[Y]at M⊢;have HS:Hid _:=hs;clear Y hs;obtain⟨X,T⟩:=gg (w.heap.size);have HX:Hid _:=T;rw[T]at x0 x1 J E u j⊢;clear T;have D:Z.drew.cell? ⟨X,0,ν⟩=μ (ι κ a)/\Z.drew.cell? ⟨X,1,ν⟩=μ (ι κ b)/\Z.drew.cell? ⟨X+1,0,ν⟩=μ (ι κ c)/\Z.drew.cell? ⟨X+1,1,ν⟩=μ (ι κ d):=⟨x0,x1,J,E⟩
 go_region_held3(λx=>x.cell? ⟨X,0,ν⟩=μ (ι κ a)/\x.cell? ⟨X,1,ν⟩=μ (ι κ b)/\x.cell? ⟨X+1,0,ν⟩=μ (ι κ c)/\x.cell? ⟨X+1,1,ν⟩=μ (ι κ d))
  (first|assumption|exact D|go_keep)
  (first
   |(go_at_call_of 204 a;refine(V _).mono ?_;rintro e w1 ⟨rfl,rfl⟩)
   |(go_at_call_of 204 b;refine(G _).mono ?_;rintro e w1 ⟨rfl,rfl⟩)
   |(go_at_call 215;refine(A.out _ _ _ (O5 _ _ _ _ _ (by rfl)).1 (O5 _ _ _ _ _ (by rfl)).2).mono ?_;rintro e w1 ⟨rfl,rfl⟩))
 all_goals
  go_wp2
  go_ret;exact⟨rfl,below_drewN (M.alloc M.size _) 1⟩
theorem CO(a b:Option dW)(n m ca u:Nat)(es fs:List jJ)(w:dX)(D:jc w a n es)(hb:jc w b m fs)(hn:n<=1000000):
 eX eY 213 #[σ a n ca,σ b m u,.func (.func 214) #[] #[]] w λe w'=>e=ρ (ι κ (l7 es fs))/\eB w w':=by
 have hla:=D.1;have QL:=hb.1
 go_in
 go_wp2
 go_loopw [13] (λi wr=>∃k:Nat,k<=n/\k<=m/\i=ι κ k/\l7 es fs=l7 (es.drop k) (fs.drop k)/\eB w wr) (λi _=>n-(eZ i).toNat)
 case atStart=>exact⟨0,Nat.zero_le _,Nat.zero_le _,rfl,rfl,au _ _⟩
 case round=>
  obtain⟨k,hk,hkm,rfl,G,X⟩:=hrel;have V:Hid _:=G;clear G;by_cases kA:k<n
  ·have nL:(k:Int)<(n:Int):=dZ;rcases(D.below X).2 with j|⟨b1,o1,rfl,hA⟩
   {omega};obtain⟨c1,c2⟩:=hA k dZ;have Y:Hid (es.drop k=es[k]'(by omega)::es.drop (k+1)):=aR dZ;generalize es[k]'(by omega)=o at c1 c2 Y;clear hA;have U:=X.alloc X.size (γ #[ι κ o.1,ι κ o.2] 123);by_cases hlm:k<m
   ·have S:¬(m:Int)<=(k:Int):=dZ;have apb:(k:Int)<(m:Int):=dZ;rcases(hb.below U).2 with j|⟨b2,o2,rfl,E⟩
    ·omega
    obtain⟨c3,c4⟩:=E k dZ;have J:Hid (fs.drop k=fs[k]'(by omega)::fs.drop (k+1)):=aR dZ;generalize fs[k]'(by omega)=q at c3 c4 J;clear E;have y:=U.alloc U.size (γ #[ι κ q.1,ι κ q.2] 123);have hc:=λW=>T7 o.1 o.2 q.1 q.2 W;have Z:Hid (l7 es fs=if yo (o.1,o.2) (q.1,q.2)≠0 then yo (o.1,o.2) (q.1,q.2)else l7 (es.drop (k+1)) (fs.drop (k+1))):=by
     show _=_;rw[V.out,Y.out,J.out,l7]
    generalize yo (o.1,o.2) (q.1,q.2)=r at hc Z;cases A:(r !=0)
    ·have M:Hid (l7 es fs=l7 (es.drop (k+1)) (fs.drop (k+1))):=by
      show _=_;have T:r=0:=by simpa using A
      rw[Z.out,T];simp
     go_wp2_with(fail);refine(hc _).mono ?_;rintro e w1 ⟨rfl,k1⟩;have Q:=gh y k1;clear hc
     go_wp2
     go_roundw
     case rel=>exact⟨k+1,dZ,dZ,by go_num,M.out,Q⟩
     case measure=>simp[eZ];omega
    ·have M:Hid (l7 es fs=r):=by
      show _=_;have T:¬r=0:=by simpa using A
      rw[Z.out,ai T]
     go_wp2_with(fail);refine(hc _).mono ?_;rintro e w1 ⟨rfl,k1⟩;have Q:=gh y k1;clear hc;go_wp2_with(fail);rw[M.out];go_ret;exact⟨rfl,Q⟩
   ·have S:(m:Int)<=(k:Int):=dZ;have Z:Hid (l7 es fs=1):=by
     show _=_;rw[V.out,Y.out,a8 (show fs.length<=k by omega),l7]
    go_wp2_with(fail);rw[Z.out];go_ret;exact⟨rfl,U⟩
  ·have xL:¬(k:Int)<(n:Int):=dZ;have Y:es.drop k=[] :=a8 dZ;by_cases O6:(n:Int)<(m:Int)
   ·have Z:Hid (l7 es fs= -1):=by
     show _=_;rw[V.out,Y,aR (show k<fs.length by omega),l7]
    clear Y;go_wp2_with(fail);rw[Z.out];go_ret;exact⟨rfl,X⟩
   ·have Z:Hid (l7 es fs=0):=by
     show _=_;rw[V.out,Y,a8 (show fs.length<=k by omega),l7]
    clear Y;go_wp2_with(fail);rw[Z.out];go_ret;exact⟨rfl,X⟩
theorem Ha(o1 s1 o2 s2:Int)(a b:Option dW)(n m ca X:Nat)(es fs:List jJ)(w:dX)(S:jc w a n es)(hb:jc w b m fs)(Q:n<=1000000):
 eX eY 189 #[.agg #[ι κ o1,ι κ s1,σ a n ca],.agg #[ι κ o2,ι κ s2,σ b m X]] w λe w'=>e=ρ (ι κ (lT s1 es s2 fs))/\eB w w':=by
 have T:eB w ((w.alloc (γ #[ι κ o1,ι κ s1,σ a n ca] 40)).alloc (γ #[ι κ o2,ι κ s2,σ b m X] 40)):=(gT _ _).alloc gU _;have Y:=tq s1 s2 ((w.alloc (γ #[ι κ o1,ι κ s1,σ a n ca] 40)).alloc (γ #[ι κ o2,ι κ s2,σ b m X] 40));have V:=CO a b n m ca X es fs _ (S.below T) (hb.below T) Q;have hv:lT s1 es s2 fs=if lZ s1 s2≠0 then lZ s1 s2 else l7 es fs:=rfl
 rw[hv];clear hv;generalize l7 es fs=q at V;generalize lZ s1 s2=r at Y;cases U:(r !=0)
 ·have Z:(if r≠0 then r else q)=q:=by simp at U;simp[U]
  rw[Z];clear Z
  go_in
  go_wp2_with(fail);refine Y.mono ?_;rintro e w1 ⟨rfl,rfl⟩;clear Y;go_wp2_with(fail);refine V.mono ?_;rintro e w2 ⟨rfl,k2⟩;clear V
  go_wp2
  go_ret;exact⟨rfl,gh T k2⟩
 ·have Z:(if r≠0 then r else q)=r:=by simp at U;simp[U]
  rw[Z];clear Z V
  go_in
  go_wp2_with(fail);refine Y.mono ?_;rintro e w1 ⟨rfl,rfl⟩;clear Y
  go_wp2
  go_ret;exact⟨rfl,T⟩
theorem Ky(a:dW)(n cap:Nat)(w:dX):(binOp .eql 38 (σ (μ a) n cap) (σ ν 0 0)).run eY w=.ok (.bool false) w:=gS
theorem X8(w:dX):(binOp .eql 38 (σ ν 0 0) (σ ν 0 0)).run eY w=.ok (.bool true) w:=gS
theorem BO(a:dW)(cap:Nat)(w:dX):
 eX eY 206 #[σ (μ a) 0 cap] w λe w'=>∃(v:dY),e=ρ v/\Made w w' v [] :=by
 have hq:=Ky
 go_in
 go_wp2
 go_ret;exact⟨_,rfl,⟨Row.made w 2 _ #[] (0,0) 0 0 [] rfl rfl (Nat.le_refl _) ew (.inl rfl) gU,λj Z=>kF (Nat.le_refl _) Z,gT _ _⟩⟩
theorem MV(w:dX):
 eX eY 206 #[σ ν 0 0] w λe w'=>∃(v:dY),e=ρ v/\Made w w' v [] :=by
 have hq:=X8
 go_in
 go_wp2
 go_ret;exact⟨_,rfl,⟨Row.nil w 2,λj Z=>mY Z,au _ _⟩⟩
theorem Kz(b off n cap:Nat)(os:List jJ)(w:dX)(hn:n<=1000000)(U:0<n)(Y:jc w (μ ⟨b,off,ν⟩) n os):
 eX eY 206 #[σ (μ ⟨b,off,ν⟩) n cap] w λe w'=>∃(v:dY),e=ρ v/\Made w w' v os:=by
 obtain⟨i0,hi,D,G,E⟩:=aW zj;have hq:=Ky;have T:eB w (w.alloc (γ #[] 123)):=gT _ _;have hl:=Y.1;have S:Row (w.alloc (γ #[] 123)) 2 (σ (μ ⟨w.heap.size,0,ν⟩) 0 0) 0 [] :=Row.made w 2 _ #[] (0,0) 0 0 [] rfl rfl (Nat.le_refl _) ew (.inl rfl) gU
 go_in
 go_wp2_with(at_builtin;go_must(refine iG _ rfl (.tmp 5) (.tmp 6) 38 rfl 123 i0 (.agg #[ι κ 0,ι κ 0]) 2 16 underlying38 hi D G E rfl ew (σ (μ ⟨w.heap.size,0,ν⟩) 0 0) 0 [] rfl S _ n cap (iR os) rfl (by rw[ld];omega) U ((Y.below T).cells U) (Kk _) (by unfold maxLen;omega) dZ ?_));intro g1 CK w1 Q V X;have M:=lW T V (λj Z=>kF (Nat.le_refl _) Z);have J:=nU (B:=w.heap.size) X dZ (λj Z=>kF (Nat.le_refl _) Z);clear V X
 go_wp2
 go_ret;refine⟨_,rfl,⟨?_,λj Z=>kF J Z,M⟩⟩;rw[hl];exact Q
theorem MW(a:Option dW)(n cap:Nat)(os:List jJ)(w:dX)(V:n<=1000000)(U:kJ a cap)(Z:jc w a n os):
 eX eY 206 #[σ a n cap] w λe w'=>∃(v:dY),e=ρ v/\Made w w' v os:=by
 rcases Z.2 with X|⟨b,off,rfl,hc⟩
 ·subst X;have Y:os=[] :=aH Z.1;subst Y;cases a with
  |none=>
   obtain rfl:=U rfl;exact MV w
  |some a=>exact BO a cap w
 ·by_cases T:0<n;{exact Kz b off n cap os w V T Z};{have X:n=0:=dZ;subst X;have Y:os=[] :=aH Z.1;subst Y;exact BO _ cap w}
structure T8(w w':dX)(e:Ending)(own seq:Int)(os:List jJ):Prop where
 out:∃(a:Option dW) (cap:Nat),e=ρ (.agg #[ι κ own,ι κ seq,σ a os.length cap])/\jc w' a os.length os/\kJ a cap/\os.length<=cap/\(∀j,eh (σ a os.length cap)=μ j->w.heap.size<=j/\j<w'.heap.size)
 below:eB w w'
theorem DZ(own seq:Int)(a:Option dW)(n cap:Nat)(os:List jJ)(w:dX)(hn:n<=1000000)(ki:kJ a cap)(ho:jc w a n os):
 eX eY 169 #[.agg #[ι κ own,ι κ seq,σ a n cap]] w λe w'=>T8 w w' e own seq os:=by
 have hz:=pJ;have G:eB w ((w.alloc (γ #[ι κ own,ι κ seq,σ a n cap] 40)).alloc (γ #[ι κ 0,ι κ 0,σ ν 0 0] 40)):=(gT _ _).alloc gU _;obtain⟨M,S⟩:=gg ((w.alloc (γ #[ι κ own,ι κ seq,σ a n cap] 40)).alloc (γ #[ι κ 0,ι κ 0,σ ν 0 0] 40));have X:M.heap[w.heap.size]? =μ (γ #[ι κ own,ι κ seq,σ a n cap] 40 (0,0)):=by
  rw[<-S,aU _ _ _ gU];exact aY w _
 have Y:M.heap[w.heap.size+1]? =μ (γ #[ι κ 0,ι κ 0,σ ν 0 0] 40 (0,0)):=by
  have h:=aY (w.alloc (γ #[ι κ own,ι κ seq,σ a n cap] 40)) (γ #[ι κ 0,ι κ 0,σ ν 0 0] 40);rw[S]at h;simpa using h
 rw[S]at G;have qS:=MW a n cap os M hn ki (ho.below G);have HW:Hid _:=S;clear S
 go_in
 go_wp2_with(fail);rw[HW.out];refine qS.mono ?_;rintro e w1 ⟨v,rfl,V⟩;clear qS;obtain⟨Q,vc,rfl,vn,vl⟩:=V.shape;have k1:=V.below;have T:=(k1.block _ (ax.1 X).1).trans X;have Z:=(k1.block _ (ax.1 Y).1).trans Y;have x0:w1.cell? ⟨w.heap.size,0,ν⟩=μ (ι κ own):=aw w1 _ 0 _ _ (0,0) T;have x1:w1.cell? ⟨w.heap.size,1,ν⟩=μ (ι κ seq):=aw w1 _ 1 _ _ (0,0) T;have x2:w1.cell? ⟨w.heap.size,2,ν⟩=μ (σ a n cap):=aw w1 _ 2 _ _ (0,0) T;have y0:w1.cell? ⟨w.heap.size+1,0,ν⟩=μ (ι κ 0):=aw w1 _ 0 _ _ (0,0) Z;have y1:w1.cell? ⟨w.heap.size+1,1,ν⟩=μ (ι κ 0):=aw w1 _ 1 _ _ (0,0) Z;have y2:w1.cell? ⟨w.heap.size+1,2,ν⟩=μ (σ ν 0 0):=aw w1 _ 2 _ _ (0,0) Z;have fx:=λj=>bD w1 w.heap.size j _ _ T;have fy:=λj=>bD w1 (w.heap.size+1) j _ _ Z;have lx:w.heap.size<w1.heap.size:=ag w1 _ x0;have ly:w.heap.size+1<w1.heap.size:=ag w1 _ y0;have A:=gh G k1;have J:∀j,eh (σ Q os.length vc)=μ j->w.heap.size+2<=j:=λj U=>by
  have h1:=V.new j U;have h2:w.heap.size+1<M.heap.size:=(ax.1 Y).1;omega
 have kA:∀j,eh (σ Q os.length vc)=μ j->j<w1.heap.size:=V.row.lt;have E:=V.opts.2;have HC:Hid (∀u v x y:dY,T8 w ((((w1.setCell ⟨w.heap.size,2,ν⟩ u).setCell ⟨w.heap.size+1,0,ν⟩ v).setCell ⟨w.heap.size+1,1,ν⟩ x).setCell ⟨w.heap.size+1,2,ν⟩ y) (ρ (.agg #[ι κ own,ι κ seq,σ Q os.length vc])) own seq os):=by
  intro u v x y;refine⟨⟨Q,vc,rfl,?_,vn,vl,λj U=>⟨by have:=J j U;omega,by simpa using kA j U⟩⟩,(((A.setCell (Nat.le_refl _) _).setCell (by show _<=w.heap.size+1;omega) _).setCell (by show _<=w.heap.size+1;omega) _).setCell (by show _<=w.heap.size+1;omega) _⟩;refine⟨rfl,?_⟩;rcases E.2 with h0|⟨b,off,rfl,hc⟩
  ·exact .inl h0
  ·refine .inr ⟨b,off,rfl,λj U=> ?_⟩;have hb:w.heap.size+2<=b:=J b rfl;have D:∀o,((((w1.setCell ⟨w.heap.size,2,ν⟩ u).setCell ⟨w.heap.size+1,0,ν⟩ v).setCell ⟨w.heap.size+1,1,ν⟩ x).setCell ⟨w.heap.size+1,2,ν⟩ y).cell? ⟨b,o,ν⟩=w1.cell? ⟨b,o,ν⟩:=λo=>by
    apply aj;rw[ak _ _ _ _ (by show b≠w.heap.size+1;omega),ak _ _ _ _ (by show b≠w.heap.size+1;omega),ak _ _ _ _ (by show b≠w.heap.size+1;omega),ak _ _ _ _ (by show b≠w.heap.size;omega)]
   rw[D,D];exact hc j U
 clear V k1 T Z J kA E A X Y;go_wp2_with(fail);refine aE (v:=.agg #[ι κ own,ι κ seq,σ Q os.length vc]) (by simp[results,results169,go_sem,y0,y1,y2]) rfl ?_;exact HC.out _ _ _ _
open Go.Maps (Keyed)
open Go.ChangeMaps Go.MapKept
open Go.WideElems (Fit)
structure SV where
 own:Int
 seq:Int
 a:Option dW
 n:Nat
 cap:Nat
def SV.v(s:SV):dY:=.agg #[ι κ s.own,ι κ s.seq,σ s.a s.n s.cap]
def SV.zero:SV:=⟨0,0,ν,0,0⟩
def abI:dY->Option SV
 | .agg cs=>(match cs.toList with
   |[.int .i64 o,.int .i64 q,.slice a n c] =>some ⟨o,q,a,n,c⟩
   |_=>none)
 |_=>none
theorem T9 {v:dY} {s:SV} (h:abI v=μ s):v=s.v:=by
 unfold abI at h;split at h
 ·rename_i cs
  split at h
  ·rename_i o q a n c e
   obtain rfl:=Option.some.inj h;have:cs= #[ι κ o,ι κ q,σ a n c] :=by
    apply dC.1;simpa using e
   rw[this];rfl
  ·cases h
 ·cases h
def tr(v:dY):Option (eT SV×List fe):=(abI v).map λs=>(.held s,[])
theorem zm(s:SV):tr s.v=μ (.held s,[]):=rfl
theorem xe {v:dY} {y:eT SV×List fe} (h:tr v=μ y):∃s,v=s.v/\y=(.held s,[]):=by
 unfold tr at h;obtain⟨s,hs,rfl⟩:=Option.map_eq_some_iff.1 h;exact⟨s,T9 hs,rfl⟩
theorem uK:Keyed eY 3:=Go.Maps.int_keyed underlying3
theorem KA(w:dX):(zeroValue 40).run eY w=.ok SV.zero.v w:=gS
def tf(k:Int):Prop:= -9223372036854775808<=k/\k<=9223372036854775807
theorem D3(h:tf k):keyOf eY 3 (.int .i64 k)=μ (.int .i64 k):=by
 refine Go.Maps.keyOf_int_mk underlying3 ?_;exact WalkArith.wf_i64 (by obtain⟨h1,h2⟩:=h;omega)
structure SMap(w:dX)(b n:Nat)(f:Int->Option SV):Prop where
 own:∃D:eT SV,w.ownsMap eY 3 tr b n D/\∀k,tf k->match f k with
  |none=>∀z,D.atKey (.int .i64 k) z=z
  |some s=>∀z,D.atKey (.int .i64 k) z=.held s
theorem SMap.made(w:dX):SMap (w.alloc (.map #[] 0)) w.heap.size 0 (λ_=>ν):=
 ⟨⟨.map [],World.ownsMap_made w _ _ _,λ_ _ _=>rfl⟩⟩
theorem SMap.lt {w:dX} {b n:Nat} {f:Int->Option SV} (h:SMap w b n f):b<w.heap.size:=by obtain⟨D,Z,_⟩:=h.own;exact Z.lt
theorem SMap.mono {w:dX} {b n m:Nat} {f:Int->Option SV} (h:SMap w b n f)(X:n<=m):SMap w b m f:=by obtain⟨D,Z,Y⟩:=h.own;exact⟨⟨D,Z.mono X,Y⟩⟩
theorem SMap.kept {w w':dX} {b n:Nat} {f:Int->Option SV} {row:Option Nat} (h:SMap w b n f)(X:w.grownBy w' row)(V:μ b≠row):SMap w' b n f:=by obtain⟨D,Z,Y⟩:=h.own;exact⟨⟨D,Z.kept X V,Y⟩⟩
theorem SMap.keep {f:Int->Option SV} (h:SMap w b n f)(hb:w'.heap[b]? =w.heap[b]?):SMap w' b n f:=by
 obtain⟨D,⟨es,clock,Z,X⟩,Y⟩:=h.own;exact⟨⟨D,⟨es,clock,hb.trans Z,X⟩,Y⟩⟩
theorem SMap.below {f:Int->Option SV} (h:SMap w b n f)(hb:eB w w'):SMap w' b n f:=h.keep (hb.block b h.lt)
theorem SMap.drew {w:dX} {b n:Nat} {f:Int->Option SV} (h:SMap w b n f):SMap w.drew b n f:=h.keep rfl
theorem SMap.alloc {w:dX} {b n:Nat} {f:Int->Option SV} (h:SMap w b n f)(o:Obj):SMap (w.alloc o) b n f:=h.below (gT _ _)
theorem I3(h:x≠k):(Lit.int .i64 x)≠ .int .i64 k:=λe=>h (by simpa using e)
theorem X9(k:Int)(h:tf k):WideAt.IsKeyLit (.int .i64 k):=uK.key (D3 h)
theorem SMap.store {w:dX} {b n:Nat} {f:Int->Option SV} (h:SMap w b n f)(U:n<maxLen)(k:Int)(Y:tf k)(s:SV):
 ∃w',(fh 211 (.map (μ b)) (ι κ k) s.v).run eY w=.ok () w'/\SMap w' b (n+1) (λx=>if x=k then μ s else f x)/\w.mapTurned w' b:=by
 obtain⟨D,Z,X⟩:=h.own;obtain⟨w',S,T,Q⟩:=Z.store uK underlying211 U (D3 Y) (zm s);refine⟨w',S,⟨⟨_,T,λx hx=> ?_⟩⟩,Q⟩;have V:=Z.isMap;by_cases e:x=k;{subst e;simp only[if_true];exact λz=>Maps.atKey_put_same V (X9 x Y) _ z}
 ·rw[af e];have:=X x hx;cases hf:f x with
  |none=>rw[hf]at this;exact λz=>(fj (I3 e) _ z).trans (this z)
  |some s'=>rw[hf]at this;exact λz=>(fj (I3 e) _ z).trans (this z)
theorem SMap.look {f:Int->Option SV} (h:SMap w b n f)(k:Int)(Z:tf k):
 (fq 211 (.map (μ b)) (ι κ k) false).run eY w=.ok ((f k).getD SV.zero).v w:=by
 obtain⟨D,Y,X⟩:=h.own;obtain⟨v,ps,V,hv⟩:=Y.lookup uK underlying211 (KA w) (zm SV.zero) (D3 Z);rw[V];obtain⟨s,rfl,e⟩:=xe hv;have hx:=X k Z;simp only[fc]at e;cases hf:f k with
 |none=>
  rw[hf]at hx;rw[hx]at e;have:SV.zero=s:=by simpa using e.1
  rw[<-this];rfl
 |some s'=>
  rw[hf]at hx;rw[hx]at e;have:s'=s:=by simpa using e.1
  rw[this];rfl
theorem SMap.look_ok {w:dX} {b n:Nat} {f:Int->Option SV} (h:SMap w b n f)(k:Int)(Z:tf k):
 (fq 211 (.map (μ b)) (ι κ k) true).run eY w=.ok (τ #[((f k).getD SV.zero).v,.bool (f k).isSome]) w:=by
 obtain⟨D,Y,X⟩:=h.own;obtain⟨v,ps,V,hv⟩:=Y.look_ok uK underlying211 (KA w) (zm SV.zero) (D3 Z);rw[V];obtain⟨s,rfl,e⟩:=xe hv;have hx:=X k Z;simp only[fc]at e;cases hf:f k with
 |none=>
  rw[hf]at hx;rw[hx]at e;have:SV.zero=s:=by simpa using e.1
  rw[<-this,dI hx];rfl
 |some s'=>
  rw[hf]at hx;rw[hx]at e;have:s'=s:=by simpa using e.1
  rw[this,dL hx];rfl
theorem SMap.drop {w:dX} {b n:Nat} {f:Int->Option SV} (h:SMap w b n f)(k:Int)(X:tf k)(ty:eu):
 ∃w',(Builtin.delete_ #[211,3] ty #[.map (μ b),ι κ k]).run eY w=.ok (τ #[]) w'/\SMap w' b n (λx=>if x=k then ν else f x)/\w.mapTurned w' b:=by
 obtain⟨D,Z,Y⟩:=h.own;obtain⟨w',U,V,T⟩:=Z.drop uK underlying211 (D3 X) ty;refine⟨w',U,⟨⟨_,V,λx hx=> ?_⟩⟩,T⟩;by_cases e:x=k;{subst e;simp only[if_true];exact λz=>Maps.atKey_del_same z}
 ·rw[af e];have:=Y x hx;cases hf:f x with
  |none=>rw[hf]at this;exact λz=>(ft (I3 e) z).trans (this z)
  |some s'=>rw[hf]at this;exact λz=>(ft (I3 e) z).trans (this z)
theorem SMap.clear {f:Int->Option SV} (h:SMap w b n f)(ty:eu):
 ∃w',(fA #[211] ty #[.map (μ b)]).run eY w=.ok (τ #[]) w'/\SMap w' b n (λ_=>ν)/\w.mapTurned w' b:=by
 obtain⟨D,⟨es,clock,hb,F,hs,hD⟩,h2⟩:=h.own;refine⟨setBlock w b (.map #[] clock),?_,⟨⟨.map [],⟨#[],clock,heap_setBlock_same hb _,⟨gU,?_,gU⟩,gU,rfl⟩,λ_ _ _=>rfl⟩⟩,⟨es,clock,#[],clock,hb,rfl⟩⟩;{simp[fA,fB underlying211,MapKept.run_getObj_map hb,MapKept.run_setObj_map _ hb,Result.andThen,setBlock]};{exact stamped_empty clock}
open Go.ChangeShapes Go.WideShapes Go.ChangeAt
theorem AF(own seq:Int)(a:Option dW)(n cap:Nat)(os:List jJ)(w:dX)(S:n<=maxLen)(U:jc w a n os):
 eX eY 117 #[.agg #[ι κ own,ι κ seq,σ a n cap]] w λe w'=>e=ρ (ji (oA own seq os))/\eB w w':=by
 by_cases h6:n<=6;{exact yr own seq a n cap os w dZ U}
 unfold maxLen at S;have X:=gT w (γ #[ι κ own,ι κ seq,σ a n cap] 40);have V:Hid (ji 1=.iface 128 (ι κ 1)):=rfl;have T:Hid (ji 2=.iface 128 (ι κ 2)):=rfl;have hl:=U.1;have Y:=uJ own (w.alloc (γ #[ι κ own,ι κ seq,σ a n cap] 40));have one:(own<1 \/6<own \/seq<1 \/1000000<seq)->Hid (oA own seq os=1):=λhh=>by show _=_;rw[oA,ai hh]
 by_cases r1:own<1 \/6<own
 ·have Z:=one dZ;rw[AE own r1]at Y;clear one
  go_in
  go_wp2_with(fail);refine Y.mono ?_;rintro e w1 ⟨rfl,rfl⟩;go_wp2_with(fail);rw[Z.out,V.out];go_ret;exact⟨rfl,X⟩
 rw[DX own dZ dZ]at Y;by_cases r2:seq<1
 ·have Z:=one dZ;clear one
  go_in
  go_wp2_with(fail);refine Y.mono ?_;rintro e w1 ⟨rfl,rfl⟩;go_wp2_with(fail);rw[Z.out,V.out];go_ret;exact⟨rfl,X⟩
 by_cases r3:1000000<seq
 ·have Z:=one dZ;clear one
  go_in
  go_wp2_with(fail);refine Y.mono ?_;rintro e w1 ⟨rfl,rfl⟩;go_wp2_with(fail);rw[Z.out,V.out];go_ret;exact⟨rfl,X⟩
 clear one;have r4:(6:Int)<(n:Int):=dZ;have Z:Hid (oA own seq os=2):=by show _=_;rw[oA,af dZ,ai dZ]
 go_in
 go_wp2_with(fail);refine Y.mono ?_;rintro e w1 ⟨rfl,rfl⟩;go_wp2_with(fail);rw[Z.out,T.out];go_ret;exact⟨rfl,X⟩
structure FM where
 bm:Nat
 g:Nat
 cap:Nat
 bs:List Nat
 no:Nat->Prop:=λ_=>False
def FM.sl(m:FM):dY:=σ (μ ⟨m.g,0,ν⟩) m.bs.length m.cap
def FM.row(m:FM):List dY:=m.bs.map λb=>Value.map (μ b)
structure FB(w:dX)(B:Nat)(m:FM)(n:Nat)(kn:Int->Option SV)(ow:Nat->Int->Option SV):Prop where
 od:w.heap[B]? =μ (γ #[.map (μ m.bm),m.sl] 214 (0,0))
 row:Row w 1 m.sl m.bs.length m.row
 km:SMap w m.bm n kn
 om:∀i b,m.bs[i]? =μ b->SMap w b n (ow i)
 few:m.bs.length<=3
 nB:m.bm≠B/\m.g≠B/\m.bm≠m.g/\(∀b∈m.bs,b≠B/\b≠m.g/\b≠m.bm)
 nd:m.bs.Nodup
theorem FB.lt {m:FM} {kn:Int->Option SV} {ow:Nat->Int->Option SV} (h:FB w B m n kn ow):B<w.heap.size:=(ax.1 h.od).1
theorem FB.c0 {m:FM} {kn:Int->Option SV} {ow:Nat->Int->Option SV} (h:FB w B m n kn ow):w.cell? ⟨B,0,ν⟩=μ (.map (μ m.bm)):=aw w B 0 _ _ (0,0) h.od
theorem FB.c1 {m:FM} {kn:Int->Option SV} {ow:Nat->Int->Option SV} (h:FB w B m n kn ow):w.cell? ⟨B,1,ν⟩=μ m.sl:=aw w B 1 _ _ (0,0) h.od
theorem FB.below {w w':dX} {B:Nat} {m:FM} {n:Nat} {kn:Int->Option SV} {ow:Nat->Int->Option SV} (h:FB w B m n kn ow)(hb:eB w w'):FB w' B m n kn ow:=
 ⟨(hb.block B h.lt).trans h.od,h.row.below hb,h.km.below hb,λi b e=>(h.om i b e).below hb,h.few,h.nB,h.nd⟩
theorem FB.port {m:FM} {kn:Int->Option SV} {ow:Nat->Int->Option SV} (h:FB w B m n kn ow)(i:Nat)(b:Nat)(e:m.bs[i]? =μ b):w.cell? ⟨m.g,i,ν⟩=μ (.map (μ b)):=by
 refine Row.cell h.row i _ ?_;unfold FM.row;rw[cH,e];rfl
theorem Dh(B:Nat)(m:FM)(n:Nat)(kn:Int->Option SV)(ow:Nat->Int->Option SV)(port:Int)(w:dX)(h:FB w B m n kn ow):
 eX eY 176 #[π (μ ⟨B,0,ν⟩),ι κ port] w λe w'=>e=ρ (.bool (decide (0<=port)&&decide (port<(m.bs.length:Int))))/\w=w':=by
 have hl:=h.lt;have c1:w.cell? ⟨B,1,ν⟩=μ (σ (μ ⟨m.g,0,ν⟩) m.bs.length m.cap):=h.c1;have hf:=h.few;by_cases Z:0<=port
 ·by_cases Y:port<(m.bs.length:Int)
  ·have hv:(decide (0<=port)&&decide (port<(m.bs.length:Int)))=true:=by simp[Z,Y]
   rw[hv];clear hv h
   go_in
   go_wp2
   go_ret;exact⟨by first|rfl|(simp;omega),rfl⟩
  ·have hv:(decide (0<=port)&&decide (port<(m.bs.length:Int)))=false:=by simp[Y]
   rw[hv];clear hv h
   go_in
   go_wp2
   go_ret;exact⟨by first|rfl|(simp;omega),rfl⟩
 ·have hv:(decide (0<=port)&&decide (port<(m.bs.length:Int)))=false:=by simp[Z]
  rw[hv];clear hv h
  go_in
  go_wp2
  go_ret;exact⟨by first|rfl|(simp;omega),rfl⟩
def vS(ae9:Nat)(port own seq:Int)(es:List jJ):Nat:=if 0<=port/\port<(ae9:Int)then oA own seq es else 1
theorem qK(B:Nat)(m:FM)(k:Nat)(kn:Int->Option SV)(ow:Nat->Int->Option SV)(port own seq:Int)(a:Option dW)(n cap:Nat)(es:List jJ)(w:dX)(h:FB w B m k kn ow)(V:n<=maxLen)(U:jc w a n es):
 eX eY 216 #[π (μ ⟨B,0,ν⟩),ι κ port,.agg #[ι κ own,ι κ seq,σ a n cap]] w λe w'=>e=ρ (ji (vS m.bs.length port own seq es))/\eB w w':=by
 have Z:=gT w (γ #[ι κ own,ι κ seq,σ a n cap] 40);have hh:=Dh B m k kn ow port _ (h.below Z);have hc:=AF own seq a n cap es _ V (U.below Z);have X:Hid (ji 1=.iface 128 (ι κ 1)):=rfl;by_cases Y:0<=port/\port<(m.bs.length:Int)
 ·have hv:(decide (0<=port)&&decide (port<(m.bs.length:Int)))=true:=by simp[Y.1,Y.2]
  have hf:vS m.bs.length port own seq es=oA own seq es:=by rw[vS,ai Y]
  rw[hv]at hh;rw[hf];clear hv hf h
  go_in
  go_wp2_with(fail);refine hh.mono ?_;rintro e w1 ⟨rfl,rfl⟩;go_wp2_with(fail);refine hc.mono ?_;rintro e w2 ⟨rfl,k2⟩
  go_wp2
  go_ret;exact⟨rfl,gh Z k2⟩
 ·have hv:(decide (0<=port)&&decide (port<(m.bs.length:Int)))=false:=by
   simp only[Bool.and_eq_false_iff,decide_eq_false_iff_not];omega
  have hf:Hid (vS m.bs.length port own seq es=1):=by show _=_;rw[vS,af Y]
  rw[hv]at hh;clear hv h
  go_in
  go_wp2_with(fail);refine hh.mono ?_;rintro e w1 ⟨rfl,rfl⟩;go_wp2_with(fail);rw[hf.out,X.out];go_ret;exact⟨rfl,Z⟩
theorem MX(B:Nat)(m:FM)(k:Nat)(kn:Int->Option SV)(ow:Nat->Int->Option SV)(own seq:Int)(a:Option dW)(n cap:Nat)(w:dX)(h:FB w B m k kn ow)(U:tf own)(V:kn own=ν):
 eX eY 217 #[π (μ ⟨B,0,ν⟩),.agg #[ι κ own,ι κ seq,σ a n cap]] w λe w'=>e=ρ (ι κ 1)/\eB w w':=by
 have hz:=pJ;have hb:=gT w (γ #[ι κ own,ι κ seq,σ a n cap] 40);have Y:=h.below hb;obtain⟨Z,X⟩:=gg (w.alloc (γ #[ι κ own,ι κ seq,σ a n cap] 40));have x0:Z.cell? ⟨w.heap.size,0,ν⟩=μ (ι κ own):=by rw[<-X];exact aq w #[ι κ own,ι κ seq,σ a n cap] 40 (0,0) 0
 rw[X]at hb Y;have T:Hid _:=X;clear X;have pA:(fq 211 (.map (μ m.bm)) (ι κ own) true).run eY Z.drew=.ok (τ #[.agg #[ι κ 0,ι κ 0,σ ν 0 0],.bool false]) Z.drew:=by
  have:=Y.km.drew.look_ok own U;rw[V]at this;exact this
 have ajN:(fq 211 (.map (μ m.bm)) (ι κ own) true).run eY (Z.alloc (γ #[ι κ 0,ι κ 0,σ ν 0 0] 40)).drew=.ok (τ #[.agg #[ι κ 0,ι κ 0,σ ν 0 0],.bool false]) (Z.alloc (γ #[ι κ 0,ι κ 0,σ ν 0 0] 40)).drew:=by
  have:=(Y.km.alloc (γ #[ι κ 0,ι κ 0,σ ν 0 0] 40)).drew.look_ok own U;rw[V]at this;exact this
 have c0:=Y.c0;have hl:=Y.lt;have hx:w.heap.size<Z.heap.size:=ag Z _ x0;clear h Y V
 go_in
 go_wp2_with(fail);rw[T.out]
 go_region
 all_goals
  go_wp2
  go_ret;exact⟨rfl,below_drewN (hb.alloc hb.size _) 1⟩
theorem MY(B:Nat)(m:FM)(k:Nat)(kn:Int->Option SV)(ow:Nat->Int->Option SV)(own seq:Int)(a:Option dW)(n cap:Nat)(es:List jJ)(t:SV)(fs:List jJ)(w:dX)(h:FB w B m k kn ow)(G:tf own)(S:kn own=μ t)(J:jc w a n es)(D:n<=1000000)(Q:jc w t.a t.n fs):
 eX eY 217 #[π (μ ⟨B,0,ν⟩),.agg #[ι κ own,ι κ seq,σ a n cap]] w λe w'=>e=ρ (ι κ (lT seq es t.seq fs))/\eB w w':=by
 obtain⟨T,ts,ta,tn,U⟩:=t;simp only at Q;have hz:=pJ;have hb:=gT w (γ #[ι κ own,ι κ seq,σ a n cap] 40);have Y:=h.below hb;obtain⟨Z,X⟩:=gg (w.alloc (γ #[ι κ own,ι κ seq,σ a n cap] 40));have V:Z.heap[w.heap.size]? =μ (γ #[ι κ own,ι κ seq,σ a n cap] 40 (0,0)):=by rw[<-X];exact aY w _
 rw[X]at hb Y;have E:Hid _:=X;clear X;have x0:Z.cell? ⟨w.heap.size,0,ν⟩=μ (ι κ own):=aw Z _ 0 _ _ (0,0) V;have pA:(fq 211 (.map (μ m.bm)) (ι κ own) true).run eY Z.drew=.ok (τ #[.agg #[ι κ T,ι κ ts,σ ta tn U],.bool true]) Z.drew:=by
  have:=Y.km.drew.look_ok own G;rw[S]at this;exact this
 have ajN:(fq 211 (.map (μ m.bm)) (ι κ own) true).run eY (Z.alloc (γ #[ι κ 0,ι κ 0,σ ν 0 0] 40)).drew=.ok (τ #[.agg #[ι κ T,ι κ ts,σ ta tn U],.bool true]) (Z.alloc (γ #[ι κ 0,ι κ 0,σ ν 0 0] 40)).drew:=by
  have:=(Y.km.alloc (γ #[ι κ 0,ι κ 0,σ ν 0 0] 40)).drew.look_ok own G;rw[S]at this;exact this
 have c0:=Y.c0;have hl:=Y.lt;have hx:w.heap.size<Z.heap.size:=ag Z _ x0;have M:eB w ((Z.alloc (γ #[ι κ T,ι κ ts,σ ta tn U] 40)).drew):=below_drewN (hb.alloc hb.size _) 1;have A:=Ha own seq T ts a ta n tn cap U es fs _ (J.below M) (Q.below M) D;have x1:Z.cell? ⟨w.heap.size,1,ν⟩=μ (ι κ seq):=aw Z _ 1 _ _ (0,0) V;have x2:Z.cell? ⟨w.heap.size,2,ν⟩=μ (σ a n cap):=aw Z _ 2 _ _ (0,0) V;clear h Y S Q J V
 go_in
 go_wp2_with(fail);rw[E.out]
 go_region
 all_goals
  go_wp2_with(fail);refine A.mono ?_;rintro e w2 ⟨rfl,k2⟩
  go_wp2
  go_ret;exact⟨rfl,gh M k2⟩
structure jC(w w':dX)(m:FM):Prop where
 os:w'.os=w.os
 tape:w'.tape=w.tape
 output:w'.output=w.output
 size:w.heap.size<=w'.heap.size
 block:∀i,i<w.heap.size->i≠m.bm->i∉m.bs->w'.heap[i]? =w.heap[i]?
theorem jC.iT(m:FM)(h:eB w w'):jC w w' m:=⟨h.os,h.tape,h.output,h.size,λi hi _ _=>h.block i hi⟩
theorem jC.trans {a b c:dX} {m:FM} (h:jC a b m)(k:jC b c m):jC a c m:=
 ⟨k.os.trans h.os,k.tape.trans h.tape,k.output.trans h.output,Nat.le_trans h.size k.size,λi hi Z Y=>(k.block i (Nat.lt_of_lt_of_le hi h.size) Z Y).trans (h.block i hi Z Y)⟩
theorem jC.pK {m:FM} (h:w.mapTurned w' b)(hb:b=m.bm \/b∈m.bs):jC w w' m:=by
 have g:=h.grown;refine⟨g.os,g.tape,g.output,g.size,λi hi Z Y=>g.block i hi (λe=> ?_)⟩;have:i=b:=by simpa using e
 subst this;rcases hb with hb|hb
 {exact Z hb};{exact Y hb}
theorem jC.below {a b:dX} {m:FM} (h:eB w a)(k:jC a b m)(h1:w.heap.size<=m.bm)(Z:∀x∈m.bs,w.heap.size<=x):eB w b:=
 ⟨k.os.trans h.os,k.tape.trans h.tape,k.output.trans h.output,Nat.le_trans h.size k.size,λi hi=>by
  rw[k.block i (Nat.lt_of_lt_of_le hi h.size) dZ (λe=>by have:=Z i e;omega)];exact h.block i hi⟩
theorem nS {x:Nat} (h:w.mapTurned w' b)(hx:x<w.heap.size)(Z:x≠b):w'.heap[x]? =w.heap[x]? :=h.grown.block x hx (λe=>Z (by simpa using e))
theorem FB.ajO {m:FM} {kn kn':Int->Option SV} {ow:Nat->Int->Option SV} (h:FB w B m n kn ow)(Z:w.mapTurned w' m.bm)(V:SMap w' m.bm n' kn')(U:n<=n'):FB w' B m n' kn' ow:=by
 refine⟨(nS Z h.lt (λe=>h.nB.1 e.symm)).trans h.od,h.row.keep Z.grown.size (λk Y=> ?_),V,λi b e=> ?_,h.few,h.nB,h.nd⟩
 ·have X:m.g=k:=by simpa[FM.sl,eh]using Y
  subst X;exact nS Z (h.row.lt _ Y) (λe=>h.nB.2.2.1 e.symm)
 ·have hb:=h.nB.2.2.2 b (bI e);exact((h.om i b e).keep (nS Z (h.om i b e).lt hb.2.2)).mono U
theorem FB.MZ {m:FM} {kn:Int->Option SV} {ow:Nat->Int->Option SV} {f:Int->Option SV} (h:FB w B m n kn ow)(hi:m.bs[i]? =μ b)(Z:w.mapTurned w' b)(S:SMap w' b n' f)(X:n<=n'):FB w' B m n' kn (λj=>if j=i then f else ow j):=by
 have hb:=h.nB.2.2.2 b (bI hi);refine⟨(nS Z h.lt (λe=>hb.1 e.symm)).trans h.od,h.row.keep Z.grown.size (λk V=> ?_),(h.km.keep (nS Z h.km.lt (λe=>hb.2.2 e.symm))).mono X,λj c e=> ?_,h.few,h.nB,h.nd⟩
 ·have T:m.g=k:=by simpa[FM.sl,eh]using V
  subst T;exact nS Z (h.row.lt _ V) (λe=>hb.2.1 e.symm)
 ·by_cases Y:j=i;{subst Y;rw[hi]at e;obtain rfl:=Option.some.inj e;simp only[if_true];exact S}
  ·rw[af Y];have Q:c≠b:=λU=>by
    subst U;exact Y ((fC (aK.1 e).1 h.nd).1 (e.trans hi.symm))
   exact((h.om j c e).keep (nS Z (h.om j c e).lt Q)).mono X
def tM(f:Int->Option SV)(k:Int)(s:SV):Int->Option SV:=λx=>if x=k then μ s else f x
structure I4(w w':dX)(B:Nat)(m:FM)(n:Nat)(kn:Int->Option SV)(ow:Nat->Int->Option SV)(own seq:Int)(es:List jJ)(s:SV):Prop where
 so:s.own=own
 ss:s.seq=seq
 sn:s.n=es.length
 so2:jc w' s.a s.n es
 nil:kJ s.a s.cap
 new:∀j,eh (σ s.a s.n s.cap)=μ j->w.heap.size<=j/\j<w'.heap.size
 fb:FB w' B m (n+1+m.bs.length) (tM kn own s) (λi=>if i<m.bs.length then tM (ow i) own s else ow i)
 kept:jC w w' m
theorem jc.Ua {os:List jJ} {m:FM} (h:jc w a n os)(X:jC w w' m)(hf:∀j,eh (σ a n cap)=μ j->j≠m.bm/\j∉m.bs):jc w' a n os:=by
 refine⟨h.1,?_⟩;rcases h.2 with Z|⟨b,off,rfl,Z⟩
 {exact .inl Z};{refine .inr ⟨b,off,rfl,λj Y=> ?_⟩;obtain⟨c1,c2⟩:=Z j Y;obtain⟨f1,f2⟩:=hf b rfl;have e:=X.block b (ag w _ c1) f1 f2;exact⟨(aj (a:=⟨b,off+j*2,ν⟩) e).trans c1,(aj (a:=⟨b,off+j*2+1,ν⟩) e).trans c2⟩}
theorem Hc(B:Nat)(m:FM)(k:Nat)(kn:Int->Option SV)(ow:Nat->Int->Option SV)(own seq:Int)(a:Option dW)(n cap:Nat)(es:List jJ)(w:dX)(h:FB w B m k kn ow)(hr:tf own)(ho:jc w a n es)(ki:kJ a cap)(hn:n<=1000000)(hk:k<=1000000):
 eX eY 118 #[π (μ ⟨B,0,ν⟩),.agg #[ι κ own,ι κ seq,σ a n cap]] w λe w'=>e=ρ (τ #[])/\∃s,I4 w w' B m k kn ow own seq es s:=by
 have hb:=gT w (γ #[ι κ own,ι κ seq,σ a n cap] 40);have J:=h.below hb;obtain⟨W1,j6⟩:=gg (w.alloc (γ #[ι κ own,ι κ seq,σ a n cap] 40));have pW:W1.heap[w.heap.size]? =μ (γ #[ι κ own,ι κ seq,σ a n cap] 40 (0,0)):=by rw[<-j6];exact aY w _
 rw[j6]at hb J;have HW:Hid _:=j6;clear j6;have Di:=DZ own seq a n cap es W1 hn ki (ho.below hb)
 go_in
 go_wp2_with(fail);rw[HW.out];refine Di.mono ?_;rintro e X ⟨⟨Y,vc,rfl,vo,vn,vl,Gj⟩,k2⟩;clear Di;have E:=(k2.block _ (ax.1 pW).1).trans pW;have x0:X.cell? ⟨w.heap.size,0,ν⟩=μ (ι κ own):=aw X _ 0 _ _ (0,0) E;have x1:X.cell? ⟨w.heap.size,1,ν⟩=μ (ι κ seq):=aw X _ 1 _ _ (0,0) E;have x2:X.cell? ⟨w.heap.size,2,ν⟩=μ (σ a n cap):=aw X _ 2 _ _ (0,0) E;have fx:=λj=>bD X w.heap.size j _ _ E;have xl:w.heap.size<X.heap.size:=ag X _ x0
 go_upto_region 2 with fail
 obtain⟨Z,D⟩:=gg (((X.setCell ⟨w.heap.size,0,ν⟩ (ι κ own)).setCell ⟨w.heap.size,1,ν⟩ (ι κ seq)).setCell ⟨w.heap.size,2,ν⟩ (σ Y es.length vc));have rL:=gh hb k2;have b3:eB w Z:=by rw[<-D];exact((rL.setCell (Nat.le_refl _) _).setCell (Nat.le_refl _) _).setCell (Nat.le_refl _) _
 have yt:Z.heap[w.heap.size]? =μ (γ #[ι κ own,ι κ seq,σ Y es.length vc] 40 (0,0)):=by
  rw[<-D];have s1:=cF X w.heap.size #[ι κ own,ι κ seq,σ a n cap] (#[ι κ own,ι κ seq,σ a n cap].setIfInBounds 0 (ι κ own)) 40 (0,0) E;rw[<-bL X w.heap.size 0 _ _ (0,0) _ E]at s1;have s2:=cF _ w.heap.size _ ((#[ι κ own,ι κ seq,σ a n cap].setIfInBounds 0 (ι κ own)).setIfInBounds 1 (ι κ seq)) 40 (0,0) s1;rw[<-bL _ w.heap.size 1 _ _ (0,0) _ s1]at s2;have s3:=cF _ w.heap.size _ (((#[ι κ own,ι κ seq,σ a n cap].setIfInBounds 0 (ι κ own)).setIfInBounds 1 (ι κ seq)).setIfInBounds 2 (σ Y es.length vc)) 40 (0,0) s2;rw[<-bL _ w.heap.size 2 _ _ (0,0) _ s2]at s3;exact s3
 have afb:W1.heap.size=w.heap.size+1:=by have:=HW.out;rw[<-this];simp
 have vo3:jc Z Y es.length es:=by
  refine vo.kept (cap:=vc) (λj hj=> ?_);have:=(Gj j hj).1;rw[<-D,ak _ _ _ _ (by show j≠w.heap.size;omega),ak _ _ _ _ (by show j≠w.heap.size;omega),ak _ _ _ _ (by show j≠w.heap.size;omega)]
 have hs3:X.heap.size=Z.heap.size:=by rw[<-D];simp
 rw[D];have S:=h.below b3;have O8:eB w Z.drew:=below_drewN b3 1;have M:=h.below O8;obtain⟨W4,hr4,S4,T4⟩:=M.km.store (by unfold maxLen;omega) own hr ⟨own,seq,Y,es.length,vc⟩;have ajR:(fh 211 (.map (μ m.bm)) (ι κ own) (.agg #[ι κ own,ι κ seq,σ Y es.length vc])).run eY Z.drew=.ok () W4:=hr4;have U:=M.ajO T4 S4 (Nat.le_succ _);have c0:=S.c0;have lB:=S.lt;have y0:Z.cell? ⟨w.heap.size,0,ν⟩=μ (ι κ own):=aw Z _ 0 _ _ (0,0) yt;have y1:Z.cell? ⟨w.heap.size,1,ν⟩=μ (ι κ seq):=aw Z _ 1 _ _ (0,0) yt;have y2:Z.cell? ⟨w.heap.size,2,ν⟩=μ (σ Y es.length vc):=aw Z _ 2 _ _ (0,0) yt;have yl:w.heap.size<Z.heap.size:=ag Z _ y0;clear x0 x1 x2 fx xl D hr4 S4
 go_region
 have y:jC Z.drew W4 m:=jC.pK T4 (.inl rfl);have QM:∀x,x=m.bm \/x∈m.bs->x<w.heap.size:=by
  intro x hx;rcases hx with rfl|hx
  {exact h.km.lt};{obtain⟨i,hi⟩:=fD hx;exact(h.om i x hi).lt}
 have u:∀V:dX,jC Z.drew V m->V.heap[w.heap.size]? =μ (γ #[ι κ own,ι κ seq,σ Y es.length vc] 40 (0,0)):=λV hV=>
  (hV.block w.heap.size yl (λe=>by have:=QM m.bm (.inl rfl);omega) (λe=>by have:=QM _ (.inr e);omega)).trans yt
 obtain⟨s,hs⟩:∃s:SV,(⟨own,seq,Y,es.length,vc⟩:SV)=s:=⟨_,rfl⟩
 have afd:FB W4 B m (k+1+0) (tM kn own s) (λi=>if i<0 then tM (ow i) own s else ow i):=by
  rw[<-hs];have e0:(λi=>if i<0 then tM (ow i) own ⟨own,seq,Y,es.length,vc⟩else ow i)=ow:=by funext i;simp
  rw[e0];exact U
 have yu:=h.few;have c1:W4.cell? ⟨B,1,ν⟩=μ (σ (μ ⟨m.g,0,ν⟩) m.bs.length m.cap):=U.c1;have lB4:=U.lt;have Q:Hid _:=hs;have HX:Hid _:=u;have H3:Hid (jc Z Y es.length es/\eB w Z/\X.heap.size=Z.heap.size/\W1.heap.size=w.heap.size+1):=⟨vo3,b3,hs3,afb⟩
 have A:Hid _:=QM;clear hs u c0 lB y0 y1 y2 yl S M U ajR T4 J E pW yt b3 O8 hb k2 rL QM vo3 hs3 afb vo
 go_wp2
 go_loopw [20] (λi wr=>∃j:Nat,j<=m.bs.length/\i=ι κ j/\FB wr B m (k+1+j) (tM kn own s) (λi=>if i<j then tM (ow i) own s else ow i)/\jC Z.drew wr m) (λi _=>m.bs.length-(eZ i).toNat)
 case atStart=>exact⟨0,Nat.zero_le _,rfl,afd,y⟩
 case round=>
  clear afd y c1 lB4;obtain⟨j,hj,rfl,hF,G⟩:=hrel;by_cases kA:j<m.bs.length
  ·have nL:(j:Int)<(m.bs.length:Int):=dZ;have hX:=HX.out wr G;have z0:wr.cell? ⟨w.heap.size,0,ν⟩=μ (ι κ own):=aw wr _ 0 _ _ (0,0) hX;have z1:wr.cell? ⟨w.heap.size,1,ν⟩=μ (ι κ seq):=aw wr _ 1 _ _ (0,0) hX;have z2:wr.cell? ⟨w.heap.size,2,ν⟩=μ (σ Y es.length vc):=aw wr _ 2 _ _ (0,0) hX;have zl:w.heap.size<wr.heap.size:=ag wr _ z0;have T:m.bs[j]? =μ m.bs[j] :=ay kA;have cp:=hF.port j _ T;have gl:m.g<wr.heap.size:=ag wr _ cp;obtain⟨W5,M3,S5,T5⟩:=(hF.om j _ T).store (by unfold maxLen;omega) own hr s;have F5:=hF.MZ T T5 S5 (Nat.le_succ _);have M5:jC Z.drew W5 m:=G.trans (jC.pK T5 (.inr (aF _)));have F5':FB W5 B m (k+1+(j+1)) (tM kn own s) (λi=>if i<j+1 then tM (ow i) own s else ow i):=by
    have e:(λi=>if i<j+1 then tM (ow i) own s else ow i)=(λi=>if i=j then(λx=>if x=own then μ s else(if j<j then tM (ow j) own s else ow j) x)else(if i<j then tM (ow i) own s else ow i)):=by
     funext i
     by_cases J:i=j;{rw[J,ai (Nat.lt_succ_self j),ai rfl,af (Nat.lt_irrefl j)];rfl};{by_cases h2:i<j;{rw[ai dZ,af J,ai h2]};{rw[af dZ,af J,af h2]}}
    rw[e];exact F5
   have ajS:(fh 211 (.map (μ m.bs[j])) (ι κ own) (.agg #[ι κ own,ι κ seq,σ Y es.length vc])).run eY wr=.ok () W5:=by
    have:=M3;rw[<-Q.out]at this;exact this
   generalize m.bs[j] =bj at cp ajS;clear M3 S5 T5 F5 hF G T hX
   go_wp2
   go_roundw
   case rel=>exact⟨j+1,dZ,by go_num,F5',M5⟩
   case measure=>simp[eZ];omega
  ·have OY:j=m.bs.length:=dZ;subst OY;have HF:Hid (∃s,I4 w wr B m k kn ow own seq es s):=by
    obtain⟨q1,q2,q3,q4⟩:=H3.out;have uL:∀x,eh (σ Y es.length vc)=μ x->x≠m.bm/\x∉m.bs:=λx hx=>by
     have J:=(Gj x hx).1;exact⟨λe=>by have:=A.out m.bm (.inl rfl);omega,λe=>by have:=A.out x (.inr e);omega⟩
    have o1:=(q1.drewN 1).Ua (cap:=vc) G uL;have rS:=G.size;have ape:Z.heap.size<=wr.heap.size:=rS;refine⟨s,?_,?_,?_,?_,?_,?_,hF,(jC.iT m (below_drewN q2 1)).trans G⟩;{rw[<-Q.out]};{rw[<-Q.out]};{rw[<-Q.out]};{rw[<-Q.out];exact o1};{rw[<-Q.out];exact vn};{rw[<-Q.out];intro x hx;have:=Gj x hx;omega}
   clear hF G
   go_wp2
   first|go_end0|refine iK rfl rfl ?_
   exact⟨rfl,HF.out⟩
def del(f:Int->Option SV)(k:Int):Int->Option SV:=λx=>if x=k then ν else f x
theorem FB.mlt {m:FM} {kn:Int->Option SV} {ow:Nat->Int->Option SV} (h:FB w B m n kn ow):∀x,x=m.bm \/x∈m.bs->x<w.heap.size:=by
 intro x hx;rcases hx with rfl|hx
 {exact h.km.lt};{obtain⟨i,hi⟩:=fD hx;exact(h.om i x hi).lt}
theorem FB.mono {w:dX} {B:Nat} {m:FM} {n n':Nat} {kn:Int->Option SV} {ow:Nat->Int->Option SV} (h:FB w B m n kn ow)(Z:n<=n'):FB w B m n' kn ow:=⟨h.od,h.row,h.km.mono Z,λi b e=>(h.om i b e).mono Z,h.few,h.nB,h.nd⟩
theorem Ub {V:dX} {m:FM} {kn:Int->Option SV} {ow:Nat->Int->Option SV} {C:Array dY} (h:FB w B m n kn ow)(Z:W.heap[w.heap.size]? =μ (γ C 40 (0,0)))(Y:jC W V m):V.heap[w.heap.size]? =μ (γ C 40 (0,0)):=
 (Y.block w.heap.size (ax.1 Z).1 (λe=>by have:=h.mlt m.bm (.inl rfl);omega) (λe=>by have:=h.mlt _ (.inr e);omega)).trans Z
theorem take_zero(B:Nat)(m:FM)(k:Nat)(kn:Int->Option SV)(ow:Nat->Int->Option SV)(p:Nat)(own seq:Int)(a:Option dW)(n cap:Nat)(es:List jJ)(w:dX)(h:FB w B m k kn ow)(hr:tf own)(hp:p<m.bs.length)(ho:jc w a n es)(hn:n<=maxLen)(hf:oA own seq es=0)
 (j:∀W,eB w W->eX eY 217 #[π (μ ⟨B,0,ν⟩),.agg #[ι κ own,ι κ seq,σ a n cap]] W λe w'=>e=ρ (ι κ 0)/\eB W w'):
 eX eY 190 #[π (μ ⟨B,0,ν⟩),ι κ (p:Int),.agg #[ι κ own,ι κ seq,σ a n cap]] w λe w'=>e=ρ (τ #[ι κ 0,η])/\FB w' B m k kn (λi=>if i=p then del (ow p) own else ow i)/\jC w w' m:=by
 have hb:=gT w (γ #[ι κ own,ι κ seq,σ a n cap] 40);obtain⟨y,U⟩:=gg (w.alloc (γ #[ι κ own,ι κ seq,σ a n cap] 40));have M:y.heap[w.heap.size]? =μ (γ #[ι κ own,ι κ seq,σ a n cap] 40 (0,0)):=by rw[<-U];exact aY w _
 rw[U]at hb;have HW:Hid _:=U;have J:=qK B m k kn ow (p:Int) own seq a n cap es y (h.below hb) hn (ho.below hb);have u:vS m.bs.length (p:Int) own seq es=0:=by rw[vS,ai dZ,hf]
 have E:ji 0=η:=rfl;rw[u,E]at J;have Uc:Hid _:=j;have hpi:(p:Int)<(m.bs.length:Int):=dZ;have yu:=h.few;clear U u E j hf
 go_in
 go_wp2_with(fail);rw[HW.out];refine J.mono ?_;rintro e Z ⟨rfl,k2⟩;have b2:=gh hb k2;have X:=(k2.block _ (ax.1 M).1).trans M;have x0:Z.cell? ⟨w.heap.size,0,ν⟩=μ (ι κ own):=aw Z _ 0 _ _ (0,0) X;have x1:Z.cell? ⟨w.heap.size,1,ν⟩=μ (ι κ seq):=aw Z _ 1 _ _ (0,0) X;have x2:Z.cell? ⟨w.heap.size,2,ν⟩=μ (σ a n cap):=aw Z _ 2 _ _ (0,0) X;have G:w.heap.size<Z.heap.size:=ag Z _ x0;clear J M hb k2;go_wp2_with(fail);refine(Uc.out Z b2).mono ?_;rintro e Y ⟨rfl,k3⟩;have b3:=gh b2 k3;have yt:=(k3.block _ G).trans X;clear x0 x1 x2 G X;have x0:Y.cell? ⟨w.heap.size,0,ν⟩=μ (ι κ own):=aw Y _ 0 _ _ (0,0) yt;have G:w.heap.size<Y.heap.size:=ag Y _ x0;have V:=h.below b3;have D:eB w Y.drew:=below_drewN b3 1;have S:=h.below D;have T:m.bs[p]? =μ m.bs[p] :=ay hp;obtain⟨W5,M3,A,Q⟩:=(S.om p _ T).drop own hr 0;have F5:=S.MZ T Q A (Nat.le_refl _);have M5:jC w W5 m:=(jC.iT m D).trans (jC.pK Q (.inr (aF _)));have c1:Y.cell? ⟨B,1,ν⟩=μ (σ (μ ⟨m.g,0,ν⟩) m.bs.length m.cap):=V.c1;have lB:=V.lt;have cp:=V.port p _ T;have gl:m.g<Y.heap.size:=ag Y _ cp;generalize m.bs[p] =bp at cp M3;clear V S A Q T k3
 go_wp2
 go_region
 all_goals
  go_wp2
  go_ret2
  exact⟨rfl,F5,M5⟩
theorem Ud(B:Nat)(m:FM)(k:Nat)(kn:Int->Option SV)(ow:Nat->Int->Option SV)(p:Nat)(own seq:Int)(a:Option dW)(n cap:Nat)(es:List jJ)(w:dX)(h:FB w B m k kn ow)(j:tf own)(hp:p<m.bs.length)(ho:jc w a n es)(hn:n<=maxLen)(hf:oA own seq es=0)(t:SV)(ht:kn own=μ t)(hk:k<=1000000)
 (sX:∀W,eB w W->eX eY 217 #[π (μ ⟨B,0,ν⟩),.agg #[ι κ own,ι κ seq,σ a n cap]] W λe w'=>e=ρ (ι κ (-1))/\eB W w'):
 eX eY 190 #[π (μ ⟨B,0,ν⟩),ι κ (p:Int),.agg #[ι κ own,ι κ seq,σ a n cap]] w λe w'=>e=ρ (τ #[ι κ (-1),η])/\FB w' B m (k+1) kn (λi=>if i=p then tM (ow p) own t else ow i)/\jC w w' m:=by
 have hb:=gT w (γ #[ι κ own,ι κ seq,σ a n cap] 40);obtain⟨u,T⟩:=gg (w.alloc (γ #[ι κ own,ι κ seq,σ a n cap] 40));have M:u.heap[w.heap.size]? =μ (γ #[ι κ own,ι κ seq,σ a n cap] 40 (0,0)):=by rw[<-T];exact aY w _
 rw[T]at hb;have HW:Hid _:=T;have J:=qK B m k kn ow (p:Int) own seq a n cap es u (h.below hb) hn (ho.below hb);have rI:vS m.bs.length (p:Int) own seq es=0:=by rw[vS,ai dZ,hf]
 have E:ji 0=η:=rfl;rw[rI,E]at J;have Uc:Hid _:=sX;have hpi:(p:Int)<(m.bs.length:Int):=dZ;have yu:=h.few;clear T rI E sX hf
 go_in
 go_wp2_with(fail);rw[HW.out];refine J.mono ?_;rintro e Y ⟨rfl,k2⟩;have b2:=gh hb k2;have V:=(k2.block _ (ax.1 M).1).trans M;have x0:Y.cell? ⟨w.heap.size,0,ν⟩=μ (ι κ own):=aw Y _ 0 _ _ (0,0) V;have x1:Y.cell? ⟨w.heap.size,1,ν⟩=μ (ι κ seq):=aw Y _ 1 _ _ (0,0) V;have x2:Y.cell? ⟨w.heap.size,2,ν⟩=μ (σ a n cap):=aw Y _ 2 _ _ (0,0) V;have G:w.heap.size<Y.heap.size:=ag Y _ x0;clear J M hb k2;go_wp2_with(fail);refine(Uc.out Y b2).mono ?_;rintro e Z ⟨rfl,k3⟩;have b3:=gh b2 k3;have yt:=(k3.block _ G).trans V;clear x0 x1 x2 G V;have x0:Z.cell? ⟨w.heap.size,0,ν⟩=μ (ι κ own):=aw Z _ 0 _ _ (0,0) yt;have G:w.heap.size<Z.heap.size:=ag Z _ x0;have X:=h.below b3;have A:eB w Z.drew:=below_drewN b3 1;have U:=h.below A;have S:m.bs[p]? =μ m.bs[p] :=ay hp;have pA:(fq 211 (.map (μ m.bm)) (ι κ own) false).run eY Z.drew=.ok t.v Z.drew:=by
  have:=U.km.look own j;rw[ht]at this;exact this
 obtain⟨W5,D,y,Q⟩:=(U.om p _ S).store (by unfold maxLen;omega) own j t;have F5:=U.MZ S Q y (Nat.le_succ _);have M5:jC w W5 m:=(jC.iT m A).trans (jC.pK Q (.inr (aF _)));have c0:=X.c0;have c1:Z.cell? ⟨B,1,ν⟩=μ (σ (μ ⟨m.g,0,ν⟩) m.bs.length m.cap):=X.c1;have lB:=X.lt;have cp:=X.port p _ S;have gl:m.g<Z.heap.size:=ag Z _ cp;generalize m.bs[p] =bp at cp D;generalize t.v=tv at pA D;clear X U y Q S k3 ht
 go_wp2
 go_region
 all_goals
  go_wp2
  go_ret2
  exact⟨rfl,F5,M5⟩
structure afe(w w':dX)(B:Nat)(m:FM)(n:Nat)(kn:Int->Option SV)(ow:Nat->Int->Option SV)(p:Nat)(own seq:Int)(es:List jJ)(s:SV):Prop where
 so:s.own=own
 ss:s.seq=seq
 sn:s.n=es.length
 so2:jc w' s.a s.n es
 nil:kJ s.a s.cap
 new:∀j,eh (σ s.a s.n s.cap)=μ j->w.heap.size<=j/\j<w'.heap.size
 fb:FB w' B m (n+1+m.bs.length) (tM kn own s) (λi=>if i=p then del (tM (ow p) own s) own else if i<m.bs.length then tM (ow i) own s else ow i)
 kept:jC w w' m
theorem Ue(B:Nat)(m:FM)(k:Nat)(kn:Int->Option SV)(ow:Nat->Int->Option SV)(p:Nat)(own seq:Int)(a:Option dW)(n cap:Nat)(es:List jJ)(w:dX)(h:FB w B m k kn ow)(hr:tf own)(hp:p<m.bs.length)(ho:jc w a n es)(hn:n<=maxLen)(ki:kJ a cap)(hk:k<=1000000)(hf:oA own seq es=0)
 (sX:∀W,eB w W->eX eY 217 #[π (μ ⟨B,0,ν⟩),.agg #[ι κ own,ι κ seq,σ a n cap]] W λe w'=>e=ρ (ι κ 1)/\eB W w'):
 eX eY 190 #[π (μ ⟨B,0,ν⟩),ι κ (p:Int),.agg #[ι κ own,ι κ seq,σ a n cap]] w λe w'=>e=ρ (τ #[ι κ 1,η])/\∃s,afe w w' B m k kn ow p own seq es s:=by
 have hb:=gT w (γ #[ι κ own,ι κ seq,σ a n cap] 40);obtain⟨W1,E⟩:=gg (w.alloc (γ #[ι κ own,ι κ seq,σ a n cap] 40));have pW:W1.heap[w.heap.size]? =μ (γ #[ι κ own,ι κ seq,σ a n cap] 40 (0,0)):=by rw[<-E];exact aY w _
 rw[E]at hb;have HW:Hid _:=E;have sC:=qK B m k kn ow (p:Int) own seq a n cap es W1 (h.below hb) hn (ho.below hb);have rI:vS m.bs.length (p:Int) own seq es=0:=by rw[vS,ai dZ,hf]
 have E0:ji 0=η:=rfl;rw[rI,E0]at sC;have Uc:Hid _:=sX;have HN:Hid (n<=6):=by show n<=6;have:=(ju hf).2.2.1;rw[ho.1]at this;exact this
 have hpi:(p:Int)<(m.bs.length:Int):=dZ;have yu:=h.few;clear E rI E0 sX hf
 go_in
 go_wp2_with(fail);rw[HW.out];refine sC.mono ?_;rintro e V ⟨rfl,k2⟩;have b2:=gh hb k2;have J:=(k2.block _ (ax.1 pW).1).trans pW;have x0:V.cell? ⟨w.heap.size,0,ν⟩=μ (ι κ own):=aw V _ 0 _ _ (0,0) J;have x1:V.cell? ⟨w.heap.size,1,ν⟩=μ (ι κ seq):=aw V _ 1 _ _ (0,0) J;have x2:V.cell? ⟨w.heap.size,2,ν⟩=μ (σ a n cap):=aw V _ 2 _ _ (0,0) J;have G:w.heap.size<V.heap.size:=ag V _ x0;clear sC pW hb k2;go_wp2_with(fail);refine(Uc.out V b2).mono ?_;rintro e U ⟨rfl,k3⟩;have b3:=gh b2 k3;have A:=(k3.block _ G).trans J;clear x0 x1 x2 G J;have x0:U.cell? ⟨w.heap.size,0,ν⟩=μ (ι κ own):=aw U _ 0 _ _ (0,0) A;have G:w.heap.size<U.heap.size:=ag U _ x0;have x1:U.cell? ⟨w.heap.size,1,ν⟩=μ (ι κ seq):=aw U _ 1 _ _ (0,0) A;have x2:U.cell? ⟨w.heap.size,2,ν⟩=μ (σ a n cap):=aw U _ 2 _ _ (0,0) A;have F3:=h.below b3;have hn6:n<=1000000:=by have:=HN.out;omega
 have M:=Hc B m k kn ow own seq a n cap es U F3 hr (ho.below b3) ki hn6 hk;clear k3;go_wp2_with(fail);refine M.mono ?_;rintro e Z ⟨rfl,s,Y⟩;clear M x0 x1 x2 G;have u:=Ub h A Y.kept;have x0:Z.cell? ⟨w.heap.size,0,ν⟩=μ (ι κ own):=aw Z _ 0 _ _ (0,0) u;have G:w.heap.size<Z.heap.size:=ag Z _ x0;have S:=Y.fb;have T:=S.below (show eB Z Z.drew from below_drewN (au _ _) 1);have D:m.bs[p]? =μ m.bs[p] :=ay hp;obtain⟨W5,M3,S5,y⟩:=(T.om p _ D).drop own hr 0;have F5:=T.MZ D y S5 (Nat.le_refl _);have X:jC Z W5 m:=(jC.iT m (show eB Z Z.drew from below_drewN (au _ _) 1)).trans (jC.pK y (.inr (aF _)));have hT:Hid (afe w W5 B m k kn ow p own seq es s):=by
  have uL:∀x,eh (σ s.a s.n s.cap)=μ x->x≠m.bm/\x∉m.bs:=λx hx=>by
   have Q:=(Y.new x hx).1;have h2:=b3.size;exact⟨λe=>by have:=h.mlt m.bm (.inl rfl);omega,λe=>by have:=h.mlt x (.inr e);omega⟩
  refine⟨Y.so,Y.ss,Y.sn,Y.so2.Ua (cap:=s.cap) X uL,Y.nil,λj hj=> ?_,?_,((jC.iT m b3).trans Y.kept).trans X⟩;{have:=Y.new j hj;have h2:=b3.size;have h3:=X.size;omega}
  ·have e:(λi=>if i=p then del (tM (ow p) own s) own else if i<m.bs.length then tM (ow i) own s else ow i)=(λj=>if j=p then(λx=>if x=own then ν else(λi=>if i<m.bs.length then tM (ow i) own s else ow i) p x)else(λi=>if i<m.bs.length then tM (ow i) own s else ow i) j):=by
    funext i
    by_cases Q:i=p
    ·rw[ai Q,ai Q]
     funext x
     simp only[del,if_pos hp]
    ·rw[af Q,af Q]
   rw[e];exact F5
 have c1:Z.cell? ⟨B,1,ν⟩=μ (σ (μ ⟨m.g,0,ν⟩) m.bs.length m.cap):=S.c1;have lB:=S.lt;have cp:=S.port p _ D;have gl:m.g<Z.heap.size:=ag Z _ cp;generalize m.bs[p] =bp at cp M3;clear F3 S T S5 y D Y F5 X
 go_wp2
 go_region
 all_goals
  go_wp2
  go_ret2
  exact⟨rfl,s,hT.out⟩
theorem Uf {c:Nat} (h:c≠0):ji c=.iface 128 (ι κ (c:Int)):=by rw[ji,af h]
theorem Ug(B:Nat)(m:FM)(k:Nat)(kn:Int->Option SV)(ow:Nat->Int->Option SV)(p:Nat)(w:dX)(h:FB w B m k kn ow)(Q:p<m.bs.length):
 eX eY 124 #[π (μ ⟨B,0,ν⟩),ι κ (p:Int)] w λe w'=>e=ρ (τ #[])/\FB w' B m k kn (λi=>if i=p then λ_=>ν else ow i)/\jC w w' m:=by
 have hh:=Dh B m k kn ow (p:Int) w h;have hv:(decide (0<=(p:Int))&&decide ((p:Int)<(m.bs.length:Int)))=true:=by
  simp;omega
 rw[hv]at hh;clear hv;have hpi:(p:Int)<(m.bs.length:Int):=dZ;have yu:=h.few;have Z:m.bs[p]? =μ m.bs[p] :=ay Q;obtain⟨S,U,X,Y⟩:=(h.om p _ Z).clear 0;have V:=h.MZ Z Y X (Nat.le_refl _);have T:jC w S m:=jC.pK Y (.inr (aF _));have c1:w.cell? ⟨B,1,ν⟩=μ (σ (μ ⟨m.g,0,ν⟩) m.bs.length m.cap):=h.c1;have lB:=h.lt;have cp:=h.port p _ Z;have gl:m.g<w.heap.size:=ag w _ cp;generalize m.bs[p] =bp at cp U;clear X Y Z
 go_in
 go_wp2_with(fail);refine hh.mono ?_;rintro e w1 ⟨rfl,rfl⟩;clear hh
 go_wp2
 first|go_end0|refine iK rfl rfl ?_
 exact⟨rfl,V,T⟩
theorem abL(B:Nat)(m:FM)(k:Nat)(kn:Int->Option SV)(ow:Nat->Int->Option SV)(own seq:Int)(a:Option dW)(n cap:Nat)(es:List jJ)(w:dX)(h:FB w B m k kn ow)(hr:tf own)(S:jc w a n es)(ki:kJ a cap)(u:k<=1000000)(hf:oA own seq es=0):
 eX eY 67 #[π (μ ⟨B,0,ν⟩),.agg #[ι κ own,ι κ seq,σ a n cap]] w λe w'=>e=ρ η/\∃s,I4 w w' B m k kn ow own seq es s:=by
 have T:n<=1000000:=by have:=(ju hf).2.2.1;rw[S.1]at this;omega
 have hb:=gT w (γ #[ι κ own,ι κ seq,σ a n cap] 40);obtain⟨E,U⟩:=gg (w.alloc (γ #[ι κ own,ι κ seq,σ a n cap] 40));have Q:E.heap[w.heap.size]? =μ (γ #[ι κ own,ι κ seq,σ a n cap] 40 (0,0)):=by rw[<-U];exact aY w _
 rw[U]at hb;have y:Hid _:=U;have J:=AF own seq a n cap es E (by unfold maxLen;omega) (S.below hb);have G:ji 0=η:=rfl;rw[hf,G]at J;clear U G hf
 go_in
 go_wp2_with(fail);rw[y.out];refine J.mono ?_;rintro e Y ⟨rfl,k2⟩;have b2:=gh hb k2;have M:=(k2.block _ (ax.1 Q).1).trans Q;have x0:Y.cell? ⟨w.heap.size,0,ν⟩=μ (ι κ own):=aw Y _ 0 _ _ (0,0) M;have x1:Y.cell? ⟨w.heap.size,1,ν⟩=μ (ι κ seq):=aw Y _ 1 _ _ (0,0) M;have x2:Y.cell? ⟨w.heap.size,2,ν⟩=μ (σ a n cap):=aw Y _ 2 _ _ (0,0) M;have xl:w.heap.size<Y.heap.size:=ag Y _ x0;have V:=Hc B m k kn ow own seq a n cap es Y (h.below b2) hr (S.below b2) ki T u;clear J Q hb k2;go_wp2_with(fail);refine V.mono ?_;rintro e w4 ⟨rfl,s,Z⟩;have X:=b2.size;have A:Hid (∃s,I4 w w4 B m k kn ow own seq es s):=⟨s,Z.so,Z.ss,Z.sn,Z.so2,Z.nil,λj D=>⟨Nat.le_trans X (Z.new j D).1,(Z.new j D).2⟩,Z.fb,(jC.iT m b2).trans Z.kept⟩
 clear V x0 x1 x2 xl Z X b2
 go_wp2
 go_ret;exact⟨rfl,A.out⟩
theorem M4(B:Nat)(m:FM)(k:Nat)(kn:Int->Option SV)(ow:Nat->Int->Option SV)(p:Nat)(own seq:Int)(a:Option dW)(n cap:Nat)(es:List jJ)(w:dX)(h:FB w B m k kn ow)(hr:tf own)(hp:p<m.bs.length)(ho:jc w a n es)(hn:n<=maxLen)(hf:oA own seq es=0)
 (j:∀W,eB w W->eX eY 217 #[π (μ ⟨B,0,ν⟩),.agg #[ι κ own,ι κ seq,σ a n cap]] W λe w'=>e=ρ (ι κ 0)/\eB W w'):
 eX eY 191 #[π (μ ⟨B,0,ν⟩),ι κ (p:Int),.agg #[ι κ own,ι κ seq,σ a n cap]] w λe w'=>e=ρ η/\FB w' B m k kn (λi=>if i=p then del (ow p) own else ow i)/\jC w w' m:=by
 have hb:=gT w (γ #[ι κ own,ι κ seq,σ a n cap] 40);obtain⟨y,U⟩:=gg (w.alloc (γ #[ι κ own,ι κ seq,σ a n cap] 40));have M:y.heap[w.heap.size]? =μ (γ #[ι κ own,ι κ seq,σ a n cap] 40 (0,0)):=by rw[<-U];exact aY w _
 rw[U]at hb;have HW:Hid _:=U;have J:=qK B m k kn ow (p:Int) own seq a n cap es y (h.below hb) hn (ho.below hb);have u:vS m.bs.length (p:Int) own seq es=0:=by rw[vS,ai dZ,hf]
 have E:ji 0=η:=rfl;rw[u,E]at J;have Uc:Hid _:=j;have hpi:(p:Int)<(m.bs.length:Int):=dZ;have yu:=h.few;clear U u E j hf
 go_in
 go_wp2_with(fail);rw[HW.out];refine J.mono ?_;rintro e Z ⟨rfl,k2⟩;have b2:=gh hb k2;have X:=(k2.block _ (ax.1 M).1).trans M;have x0:Z.cell? ⟨w.heap.size,0,ν⟩=μ (ι κ own):=aw Z _ 0 _ _ (0,0) X;have x1:Z.cell? ⟨w.heap.size,1,ν⟩=μ (ι κ seq):=aw Z _ 1 _ _ (0,0) X;have x2:Z.cell? ⟨w.heap.size,2,ν⟩=μ (σ a n cap):=aw Z _ 2 _ _ (0,0) X;have G:w.heap.size<Z.heap.size:=ag Z _ x0;clear J M hb k2;go_wp2_with(fail);refine(Uc.out Z b2).mono ?_;rintro e Y ⟨rfl,k3⟩;have b3:=gh b2 k3;have yt:=(k3.block _ G).trans X;clear x0 x1 x2 G X;have x0:Y.cell? ⟨w.heap.size,0,ν⟩=μ (ι κ own):=aw Y _ 0 _ _ (0,0) yt;have G:w.heap.size<Y.heap.size:=ag Y _ x0;have V:=h.below b3;have D:eB w Y.drew:=below_drewN b3 1;have S:=h.below D;have T:m.bs[p]? =μ m.bs[p] :=ay hp;obtain⟨W5,M3,A,Q⟩:=(S.om p _ T).drop own hr 0;have F5:=S.MZ T Q A (Nat.le_refl _);have M5:jC w W5 m:=(jC.iT m D).trans (jC.pK Q (.inr (aF _)));have c1:Y.cell? ⟨B,1,ν⟩=μ (σ (μ ⟨m.g,0,ν⟩) m.bs.length m.cap):=V.c1;have lB:=V.lt;have cp:=V.port p _ T;have gl:m.g<Y.heap.size:=ag Y _ cp;generalize m.bs[p] =bp at cp M3;clear V S A Q T k3
 go_wp2
 go_region
 all_goals
  go_wp2
  go_ret;exact⟨rfl,F5,M5⟩
theorem QN(B:Nat)(m:FM)(k:Nat)(kn:Int->Option SV)(ow:Nat->Int->Option SV)(p:Nat)(own seq:Int)(a:Option dW)(n cap:Nat)(es:List jJ)(w:dX)(h:FB w B m k kn ow)(hr:tf own)(hp:p<m.bs.length)(ho:jc w a n es)(hn:n<=maxLen)(hf:oA own seq es=0)
 (j:∀W,eB w W->eX eY 217 #[π (μ ⟨B,0,ν⟩),.agg #[ι κ own,ι κ seq,σ a n cap]] W λe w'=>e=ρ (ι κ 1)/\eB W w'):
 eX eY 191 #[π (μ ⟨B,0,ν⟩),ι κ (p:Int),.agg #[ι κ own,ι κ seq,σ a n cap]] w λe w'=>e=ρ η/\FB w' B m k kn (λi=>if i=p then del (ow p) own else ow i)/\jC w w' m:=by
 have hb:=gT w (γ #[ι κ own,ι κ seq,σ a n cap] 40);obtain⟨y,U⟩:=gg (w.alloc (γ #[ι κ own,ι κ seq,σ a n cap] 40));have M:y.heap[w.heap.size]? =μ (γ #[ι κ own,ι κ seq,σ a n cap] 40 (0,0)):=by rw[<-U];exact aY w _
 rw[U]at hb;have HW:Hid _:=U;have J:=qK B m k kn ow (p:Int) own seq a n cap es y (h.below hb) hn (ho.below hb);have u:vS m.bs.length (p:Int) own seq es=0:=by rw[vS,ai dZ,hf]
 have E:ji 0=η:=rfl;rw[u,E]at J;have Uc:Hid _:=j;have hpi:(p:Int)<(m.bs.length:Int):=dZ;have yu:=h.few;clear U u E j hf
 go_in
 go_wp2_with(fail);rw[HW.out];refine J.mono ?_;rintro e Z ⟨rfl,k2⟩;have b2:=gh hb k2;have X:=(k2.block _ (ax.1 M).1).trans M;have x0:Z.cell? ⟨w.heap.size,0,ν⟩=μ (ι κ own):=aw Z _ 0 _ _ (0,0) X;have x1:Z.cell? ⟨w.heap.size,1,ν⟩=μ (ι κ seq):=aw Z _ 1 _ _ (0,0) X;have x2:Z.cell? ⟨w.heap.size,2,ν⟩=μ (σ a n cap):=aw Z _ 2 _ _ (0,0) X;have G:w.heap.size<Z.heap.size:=ag Z _ x0;clear J M hb k2;go_wp2_with(fail);refine(Uc.out Z b2).mono ?_;rintro e Y ⟨rfl,k3⟩;have b3:=gh b2 k3;have yt:=(k3.block _ G).trans X;clear x0 x1 x2 G X;have x0:Y.cell? ⟨w.heap.size,0,ν⟩=μ (ι κ own):=aw Y _ 0 _ _ (0,0) yt;have G:w.heap.size<Y.heap.size:=ag Y _ x0;have V:=h.below b3;have D:eB w Y.drew:=below_drewN b3 1;have S:=h.below D;have T:m.bs[p]? =μ m.bs[p] :=ay hp;obtain⟨W5,M3,A,Q⟩:=(S.om p _ T).drop own hr 0;have F5:=S.MZ T Q A (Nat.le_refl _);have M5:jC w W5 m:=(jC.iT m D).trans (jC.pK Q (.inr (aF _)));have c1:Y.cell? ⟨B,1,ν⟩=μ (σ (μ ⟨m.g,0,ν⟩) m.bs.length m.cap):=V.c1;have lB:=V.lt;have cp:=V.port p _ T;have gl:m.g<Y.heap.size:=ag Y _ cp;generalize m.bs[p] =bp at cp M3;clear V S A Q T k3
 go_wp2
 go_region
 all_goals
  go_wp2
  go_ret;exact⟨rfl,F5,M5⟩
theorem QO(B:Nat)(m:FM)(k:Nat)(kn:Int->Option SV)(ow:Nat->Int->Option SV)(p:Nat)(own seq:Int)(a:Option dW)(n cap:Nat)(es:List jJ)(w:dX)(h:FB w B m k kn ow)(hp:p<m.bs.length)(A:jc w a n es)(D:n<=maxLen)(hf:oA own seq es=0)
 (M:∀W,eB w W->eX eY 217 #[π (μ ⟨B,0,ν⟩),.agg #[ι κ own,ι κ seq,σ a n cap]] W λe w'=>e=ρ (ι κ (-1))/\eB W w'):
 eX eY 191 #[π (μ ⟨B,0,ν⟩),ι κ (p:Int),.agg #[ι κ own,ι κ seq,σ a n cap]] w λe w'=>e=ρ η/\eB w w':=by
 have hb:=gT w (γ #[ι κ own,ι κ seq,σ a n cap] 40);obtain⟨S,X⟩:=gg (w.alloc (γ #[ι κ own,ι κ seq,σ a n cap] 40));have V:S.heap[w.heap.size]? =μ (γ #[ι κ own,ι κ seq,σ a n cap] 40 (0,0)):=by rw[<-X];exact aY w _
 rw[X]at hb;have G:Hid _:=X;have U:=qK B m k kn ow (p:Int) own seq a n cap es S (h.below hb) D (A.below hb);have Q:vS m.bs.length (p:Int) own seq es=0:=by rw[vS,ai dZ,hf]
 have T:ji 0=η:=rfl;rw[Q,T]at U;have E:Hid _:=M;have hpi:(p:Int)<(m.bs.length:Int):=dZ;have yu:=h.few;clear X Q T M hf
 go_in
 go_wp2_with(fail);rw[G.out];refine U.mono ?_;rintro e Z ⟨rfl,k2⟩;have b2:=gh hb k2;have Y:=(k2.block _ (ax.1 V).1).trans V;have x0:Z.cell? ⟨w.heap.size,0,ν⟩=μ (ι κ own):=aw Z _ 0 _ _ (0,0) Y;have x1:Z.cell? ⟨w.heap.size,1,ν⟩=μ (ι κ seq):=aw Z _ 1 _ _ (0,0) Y;have x2:Z.cell? ⟨w.heap.size,2,ν⟩=μ (σ a n cap):=aw Z _ 2 _ _ (0,0) Y;have J:w.heap.size<Z.heap.size:=ag Z _ x0;clear U V hb k2;go_wp2_with(fail);refine(E.out Z b2).mono ?_;rintro e w3 ⟨rfl,k3⟩;have b3:=gh b2 k3;have yt:=(k3.block _ J).trans Y;clear x0 x1 x2 J Y;clear k3
 go_wp2
 go_ret;exact⟨rfl,b3⟩
theorem O9(B:Nat)(m:FM)(k:Nat)(kn:Int->Option SV)(ow:Nat->Int->Option SV)(i:Int)(t:SV)(ok:Bool)(fs:List jJ)(w:dX)(h:FB w B m k kn ow)(hr:tf i)(hd:(kn i).getD SV.zero=t)(hs:(kn i).isSome=ok)(M:jc w t.a t.n fs)(hn:t.n<=1000000)(ki:kJ t.a t.cap):
 eX eY 177 #[π (μ ⟨B,0,ν⟩),ι κ i] w λe w'=>∃(a:Option dW) (cap:Nat),e=ρ (τ #[.agg #[ι κ t.own,ι κ t.seq,σ a fs.length cap],.bool ok])/\jc w' a fs.length fs/\kJ a cap/\eB w w':=by
 obtain⟨T,ts,ta,tn,S⟩:=t;simp only at M hn ki;have hz:=pJ;have hb:=gT w (γ #[ι κ 0,ι κ 0,σ ν 0 0] 40);obtain⟨Y,U⟩:=gg (w.alloc (γ #[ι κ 0,ι κ 0,σ ν 0 0] 40));have pW:Y.heap[w.heap.size]? =μ (γ #[ι κ 0,ι κ 0,σ ν 0 0] 40 (0,0)):=by rw[<-U];exact aY w _
 have G:Y.heap.size=w.heap.size+1:=by rw[<-U];simp
 rw[U]at hb;have HW:Hid _:=U;clear U;have X:=h.below hb;have pA:(fq 211 (.map (μ m.bm)) (ι κ i) true).run eY Y=.ok (τ #[.agg #[ι κ T,ι κ ts,σ ta tn S],.bool ok]) Y:=by
  have:=X.km.look_ok i hr;rw[hd,hs]at this;exact this
 have c0:=X.c0;have hl:=X.lt;have J:eB w (Y.alloc (γ #[ι κ T,ι κ ts,σ ta tn S] 40)):=hb.alloc hb.size _;have E:=DZ T ts ta tn S fs _ hn ki (M.below J);have y:(Y.alloc (γ #[ι κ T,ι κ ts,σ ta tn S] 40)).heap[w.heap.size]? =μ (γ #[ι κ 0,ι κ 0,σ ν 0 0] 40 (0,0)):=by
  rw[aU _ _ _ dZ];exact pW
 have HB:Hid _:=J;have A:Hid _:=y;have HS:Hid _:=G;clear h X hd hs M hb J y pW G
 go_in
 go_upto_region 1 with fail
 rw[HW.out];go_wp2_with(fail);refine E.mono ?_;rintro e Z ⟨⟨Q,vc,rfl,vo,vn,vl,D⟩,k2⟩;clear E pA c0;have V:=(k2.block _ (ax.1 A.out).1).trans A.out;have y0:Z.cell? ⟨w.heap.size,0,ν⟩=μ (ι κ 0):=aw Z _ 0 _ _ (0,0) V;have y1:Z.cell? ⟨w.heap.size,1,ν⟩=μ (ι κ 0):=aw Z _ 1 _ _ (0,0) V;have y2:Z.cell? ⟨w.heap.size,2,ν⟩=μ (σ ν 0 0):=aw Z _ 2 _ _ (0,0) V;have fy:=λj=>bD Z w.heap.size j _ _ V;have ly:w.heap.size<Z.heap.size:=ag Z _ y0;have hk:=gh HB.out k2;have HC:Hid (∀u v x:dY,jc (((Z.setCell ⟨w.heap.size,0,ν⟩ u).setCell ⟨w.heap.size,1,ν⟩ v).setCell ⟨w.heap.size,2,ν⟩ x) Q fs.length fs/\kJ Q vc/\eB w (((Z.setCell ⟨w.heap.size,0,ν⟩ u).setCell ⟨w.heap.size,1,ν⟩ v).setCell ⟨w.heap.size,2,ν⟩ x)):=by
  intro u v x;refine⟨vo.kept (cap:=vc) (λj hj=> ?_),vn,((hk.setCell (Nat.le_refl _) _).setCell (Nat.le_refl _) _).setCell (Nat.le_refl _) _⟩;have X:=(D j hj).1;have h2:=HS.out;have h3:w.heap.size+1<=j:=by simp at X;omega
  rw[ak _ _ _ _ (by show j≠w.heap.size;omega),ak _ _ _ _ (by show j≠w.heap.size;omega),ak _ _ _ _ (by show j≠w.heap.size;omega)]
 clear vo D k2 V hk;go_wp2_with(fail);refine aE (v:=τ #[.agg #[ι κ T,ι κ ts,σ Q fs.length vc],.bool ok]) (by simp[results,results177,go_sem,y0,y1,y2]) rfl ?_;exact⟨Q,vc,rfl,HC.out _ _ _⟩
open Go.Maps (Keyed)
theorem AG(h:(Lit.int .i64 x).wf=true):tf x:=by
 simp[Lit.wf,IntKind.min,IntKind.max,IntKind.signed,IntKind.bits]at h;exact⟨dZ,dZ⟩
theorem rj(x y:Int):(Lit.int .i64 x).sameKey (.int .i64 y)=decide (x=y):=by simp[Lit.sameKey]
def mix(fd fs:Int->Option SV)(left:Lit->Bool):Int->Option SV:=λk=>if left (.int .i64 k)=false/\(fs k).isSome=true then fs k else fd k
theorem Uh {fd fs:Int->Option SV} {s:SV} (h:fs x=μ s):(λk=>if k=x then μ s else mix fd fs left k)=mix fd fs (λz=>left z&& !z.sameKey (.int .i64 x)):=by
 funext k
 by_cases e:k=x;{subst e;simp[mix,rj,h]};{simp[mix,rj,e]}
def over(fd fs:Int->Option SV):Int->Option SV:=λk=>if(fs k).isSome=true then fs k else fd k
theorem Ya {fd fs:Int->Option SV} (h:∀Z,left Z=false):mix fd fs left=over fd fs:=by
 funext k
 simp[mix,over,h]
theorem SMap.congr {f g:Int->Option SV} (h:SMap w b n f)(e:∀k,tf k->f k=g k):SMap w b n g:=by
 obtain⟨D,Y,X⟩:=h.own;exact⟨⟨D,Y,λk Z=>by rw[<-e k Z];exact X k Z⟩⟩
theorem QP(bd bs nd ns:Nat)(fd fs:Int->Option SV)(w:dX)(hd:SMap w bd nd fd)(hs:SMap w bs ns fs)(jt:bd≠bs)(aaj:nd+ns<=2000000):
 eX eY 181 #[.map (μ bd),.map (μ bs)] w λe w'=>e=ρ (τ #[])/\SMap w' bd (nd+ns) (over fd fs)/\w.grownBy w' (μ bd):=by
 obtain⟨D,jm,M7⟩:=hs.own;have rS:=jm.size_le;have kA:=hd.lt;have FY:=hs.lt;have hz:=pJ;have H0:Hid (∀k,tf k->fs k=ν->∀z,D.atKey (.int .i64 k) z=z):=λk G e=>by have:=M7 k G;rw[e]at this;exact this
 have H1:Hid (∀k s,tf k->fs k=μ s->∀z,D.atKey (.int .i64 k) z=.held s):=λk s G e=>by have:=M7 k G;rw[e]at this;exact this
 clear M7 hs
 go_in
 go_wp2_with(first
  |(at_range;refine wpList_range_own _ rfl _ 211 rfl 3 40 uK underlying211 tr bs ns _ rfl jm ?_;intro w0 Ui Pa hs0)
  |fail)
 go_frame
 go_loopw [8] (λ_ wr=>∃(left:Lit->Bool) (X:Nat),wr.ranges eY 3 tr bs w.heap.size ns D left X/\X<=ns/\SMap wr bd (nd+(ns-X)) (mix fd fs left)/\w.grownBy wr (μ bd))
  (λ_ wr=>wr.rangeLeft bs w.heap.size)
 case atStart=>
  refine⟨_,_,Ui,rS,((hd.kept Pa gU).mono dZ).congr (λk G=> ?_),Pa.but _⟩;cases e:fs k with
  |none=>simp[mix,e]
  |some s=>simp[mix,Maps.has_true_of_atKey (H1.out k s G e)]
 case round=>
  clear Ui Pa hs0 jm hd;obtain⟨left,X,A,hcs,h,Kh⟩:=hrel;go_wp2_with(first
   |(at_next;refine wpList_next_ranges _ rfl _ rfl 3 uK tr (ι .i64) SV.v (λkey kl yv=>by obtain⟨x,rfl,_⟩:=cC underlying3 yv;exact⟨x,rfl⟩) (λv y hv=>by obtain⟨s,rfl,_⟩:=xe hv;exact⟨s,rfl⟩) bs w.heap.size ns _ _ _ rfl A ?_ ?_)
   |fail)
  ·intro rI vQ;have HE:Hid (SMap wr bd (nd+ns) (over fd fs)):=by
    show SMap wr bd (nd+ns) (over fd fs);rw[<-Ya vQ];exact h.mono dZ
   clear A h
   go_wp2
   first|go_end0|refine iK rfl rfl ?_
   exact⟨rfl,HE.out,Kh⟩
  ·intro x c kl yd yp w1 u yv hlx hv hat Uj Gk kD DQ Ar;obtain⟨x',ex,rfl,E⟩:=cC underlying3 yv;cases ex;have zn:=AG E;obtain⟨V,cs,ca,Y,Z⟩:=c;rw[zm]at hv;have hy:yd=.held ⟨V,cs,ca,Y,Z⟩:=by have:=Option.some.inj hv;simp only[fc]at this;exact this.1.symm
   have M:fs x=μ ⟨V,cs,ca,Y,Z⟩:=by
    cases e:fs x with
    |none=>
     have Q:=H0.out x zn e .nil;rw[hat,hy]at Q;cases Q
    |some s=>
     have Q:=H1.out x s zn e .nil;rw[hat,hy]at Q;cases Q;rfl
   have S:=(h.kept kD (λe=>by have:=Option.some.inj e;omega)).alloc (γ #[ι κ V,ι κ cs,σ ca Y Z] 40);obtain⟨T,sW,S2,T2⟩:=S.store (by unfold maxLen;omega) x zn ⟨V,cs,ca,Y,Z⟩;have apf:(fh 211 (.map (μ bd)) (ι κ x) (.agg #[ι κ V,ι κ cs,σ ca Y Z])).run eY (w1.alloc (γ #[ι κ V,ι κ cs,σ ca Y Z] 40))=.ok () T:=sW;rw[Uh M]at S2;have afg:(Instr.entry (π (μ ⟨w.heap.size,0,ν⟩))).run eY w1=.ok (τ #[ι κ x,.agg #[ι κ V,ι κ cs,σ ca Y Z]]) w1:=Ar;have U:=(Uj.alloc (γ #[ι κ V,ι κ cs,σ ca Y Z] 40)).kept T2.grown (λe=>jt (Option.some.inj e).symm) (λe=>by have:=Option.some.inj e;omega);have BL:w.grownBy T (μ bd):=((Kh.andThen kD (λj J=>.inl (by cases J;exact Nat.le_refl _))).andThen ((World.grownBy_alloc w1 (γ #[ι κ V,ι κ cs,σ ca Y Z] 40) ν).but (μ bd)) (λj J=>.inr J)).andThen T2.grown (λj J=>.inr J);have HR:Hid (T.ranges eY 3 tr bs w.heap.size ns D (λz=>left z&& !z.sameKey (.int .i64 x)) u/\u<=ns/\SMap T bd (nd+(ns-u)) (mix fd fs (λz=>left z&& !z.sameKey (.int .i64 x)))/\w.grownBy T (μ bd)):=⟨U,dZ,S2.mono dZ,BL⟩
   have HM:Hid (T.rangeLeft bs w.heap.size<wr.rangeLeft bs w.heap.size):=by
    show _<_;rw[U.left_eq,A.left_eq];exact Gk
   clear sW Ar S2 T2 S h A Uj U kD BL Kh hat hy hv M hlx yv E;go_wp2_with(fail)
   first|go_frame|skip
   go_roundw
   case rel=>exact⟨_,u,HR.out⟩
   case measure=>exact HM.out
theorem jC.Uk {m:FM} (g:w.grownBy w' (μ b))(hb:b=m.bm \/b∈m.bs):jC w w' m:=by
 refine⟨g.os,g.tape,g.output,g.size,λi hi Z Y=>g.block i hi (λe=> ?_)⟩;have:i=b:=by simpa using e
 subst this;rcases hb with hb|hb
 {exact Z hb};{exact Y hb}
theorem tu {x:Nat} (h:w.grownBy w' (μ b))(hx:x<w.heap.size)(Z:x≠b):w'.heap[x]? =w.heap[x]? :=h.block x hx (λe=>Z (by simpa using e))
theorem FB.ajU {m:FM} {kn:Int->Option SV} {ow:Nat->Int->Option SV} {f:Int->Option SV} (h:FB w B m n kn ow)(hi:m.bs[i]? =μ b)(Z:w.grownBy w' (μ b))(S:SMap w' b n' f)(X:n<=n'):FB w' B m n' kn (λj=>if j=i then f else ow j):=by
 have hb:=h.nB.2.2.2 b (bI hi);refine⟨(tu Z h.lt (λe=>hb.1 e.symm)).trans h.od,h.row.keep Z.size (λk V=> ?_),(h.km.keep (tu Z h.km.lt (λe=>hb.2.2 e.symm))).mono X,λj c e=> ?_,h.few,h.nB,h.nd⟩
 ·have T:m.g=k:=by simpa[FM.sl,eh]using V
  subst T;exact tu Z (h.row.lt _ V) (λe=>hb.2.1 e.symm)
 ·by_cases Y:j=i;{subst Y;rw[hi]at e;obtain rfl:=Option.some.inj e;simp only[if_true];exact S}
  ·rw[af Y];have Q:c≠b:=λU=>by
    subst U;exact Y ((fC (aK.1 e).1 h.nd).1 (e.trans hi.symm))
   exact((h.om j c e).keep (tu Z (h.om j c e).lt Q)).mono X
theorem Ul(B:Nat)(m:FM)(k:Nat)(kn:Int->Option SV)(ow:Nat->Int->Option SV)(p:Nat)(w:dX)(h:FB w B m k kn ow)(S:p<m.bs.length)(hk:k<=1000000):
 eX eY 126 #[π (μ ⟨B,0,ν⟩),ι κ (p:Int)] w λe w'=>e=ρ η/\FB w' B m (k+k) kn (λi=>if i=p then over (ow p) kn else ow i)/\jC w w' m:=by
 have hh:=Dh B m k kn ow (p:Int) w h;have hv:(decide (0<=(p:Int))&&decide ((p:Int)<(m.bs.length:Int)))=true:=by simp;omega
 rw[hv]at hh;clear hv;have hpi:(p:Int)<(m.bs.length:Int):=dZ;have yu:=h.few;have X:m.bs[p]? =μ m.bs[p] :=ay S;have bd:eB w w.drew:=below_drewN (au _ _) 1;have Fd:=h.below bd;have V:=QP m.bs[p] m.bm k k (ow p) kn w.drew (Fd.om p _ X) Fd.km (Fd.nB.2.2.2 _ (aF _)).2.2 dZ;have U:Hid (∀w',SMap w' m.bs[p] (k+k) (over (ow p) kn)->w.drew.grownBy w' (μ m.bs[p])->FB w' B m (k+k) kn (λi=>if i=p then over (ow p) kn else ow i)/\jC w w' m):=λw' Y Z=>⟨Fd.ajU X Z Y dZ,(jC.iT m bd).trans (jC.Uk Z (.inr (aF _)))⟩
 have c0:=h.c0;have c1:w.cell? ⟨B,1,ν⟩=μ (σ (μ ⟨m.g,0,ν⟩) m.bs.length m.cap):=h.c1;have lB:=h.lt;have cp:=h.port p _ X;have gl:m.g<w.heap.size:=ag w _ cp;generalize m.bs[p] =bp at cp V U;clear X Fd bd
 go_in
 go_wp2_with(fail);refine hh.mono ?_;rintro e w1 ⟨rfl,rfl⟩;clear hh
 go_upto_region 3 with fail
 go_region_with(first|(go_at_call 181;refine V.mono ?_;rintro e w2 ⟨rfl,Y,Z⟩)|fail)
 all_goals
  have T:Hid _:=U.out _ Y Z;clear Y Z
  go_wp2
  go_ret;exact⟨rfl,T.out⟩
structure vT(w:dX)(a:Option dW)(n:Nat)(S:Nat->SV)(E:Nat->List jJ):Prop where
 row:n=0 \/ ∃b off,a=μ ⟨b,off,ν⟩/\∀j,j<n->w.cell? ⟨b,off+j*3,ν⟩=μ (ι κ (S j).own)/\w.cell? ⟨b,off+j*3+1,ν⟩=μ (ι κ (S j).seq)/\w.cell? ⟨b,off+j*3+2,ν⟩=μ (σ (S j).a (S j).n (S j).cap)
 opt:∀j,j<n->jc w (S j).a (S j).n (E j)/\kJ (S j).a (S j).cap/\(S j).n<=maxLen
theorem vT.below {w w':dX} {a:Option dW} {n:Nat} {S:Nat->SV} {E:Nat->List jJ} (h:vT w a n S E)(hb:eB w w'):vT w' a n S E:=by
 refine⟨?_,λj Z=>⟨(h.opt j Z).1.below hb,(h.opt j Z).2⟩⟩;rcases h.row with Y|⟨b,off,rfl,Y⟩
 {exact .inl Y};{refine .inr ⟨b,off,rfl,λj Z=> ?_⟩;obtain⟨c1,c2,c3⟩:=Y j Z;have l:=ag w _ c1;exact⟨(hb.cell (p:=⟨b,off+j*3,ν⟩) l).trans c1,(hb.cell (p:=⟨b,off+j*3+1,ν⟩) l).trans c2,(hb.cell (p:=⟨b,off+j*3+2,ν⟩) l).trans c3⟩}
theorem M8 {enc:eu×dY->H} {v:dY} {y:eT H×List fe}
 (M:DataW.trod enc eY W 0 (λ_=>true) true m 38 [v] =μ y):
 ∃(a:Option dW) (n cap:Nat) (os:List jJ),v=σ a n cap/\jc W a n os/\kJ a cap/\n<=maxLen:=by
 rcases dD underlying38 underlying123 gS rfl rfl gS gS M with⟨hcs,_⟩|⟨a,len,cap,m',n',Y,X,D0,D1,P0,P1,hcs,_,hl,hm,T,_,hx⟩
 ·simp at hcs;subst hcs;exact⟨ν,0,0,[],rfl,⟨rfl,.inl rfl⟩,λ_=>rfl,ew⟩
 ·simp at hcs;subst hcs;simp at T;have each:∀i,i<len->W.cell? (a.add (i*2))=μ (ι κ (eZ (Y i)))/\W.cell? (a.add (i*2+1))=μ (ι κ (eZ (X i))):=by
   intro i hi;obtain⟨q1,q2,G,E⟩:=hx i dZ;obtain⟨k,f0,_,_⟩:=bg underlying3 G;obtain⟨n,f1,_,_⟩:=bg underlying3 E;simp at f0 f1;exact⟨by rw[q1,f0];rfl,by rw[q2,f1];rfl⟩
  refine⟨μ a,len,cap,(List.range len).map (λi=>(eZ (Y i),eZ (X i))),rfl,⟨gU,?_⟩,λh=>by simp at h,dZ⟩;by_cases Q:len=0;{exact .inl Q}
  ·obtain⟨b,off,Z⟩:=a;have hc:=(each 0 dZ).1;have U:Z=ν:=by simpa[fE]using de hc
   subst U;refine .inr ⟨b,off,rfl,λj J=> ?_⟩;have S:j<len:=by simpa using J
   have V:=each j S;rw[ng,ng]at V;simpa[Nat.add_assoc]using V
theorem QQ {enc:eu×dY->H} {d:eT H} 
 (h:DataW.Trod enc eY W 0 (λ_=>true) true 35 (σ a n cap) d ps):
 ∃os:List jJ,jc W a n os/\kJ a cap/\n<=maxLen:=by
 obtain⟨fuel,hf⟩:=h;rcases dD underlying35 underlying276 gS rfl rfl gS gS hf with⟨hcs,_⟩|⟨x,len,cp,m',n',Y,X,D0,D1,P0,P1,hcs,_,hl,hm,T,_,hx⟩
 ·simp[fF]at hcs;obtain⟨rfl,rfl,rfl⟩:=hcs;exact⟨[],⟨rfl,.inl rfl⟩,λ_=>rfl,ew⟩
 ·simp[fF]at hcs;obtain⟨rfl,rfl,rfl⟩:=hcs;simp at T;have each:∀i,i<n->W.cell? (x.add (i*2))=μ (ι κ (eZ (Y i)))/\W.cell? (x.add (i*2+1))=μ (ι κ (eZ (X i))):=by
   intro i hi;obtain⟨q1,q2,J,G⟩:=hx i dZ;obtain⟨k,f0,_,_⟩:=bg underlying3 J;obtain⟨n,f1,_,_⟩:=bg underlying3 G;simp at f0 f1;exact⟨by rw[q1,f0];rfl,by rw[q2,f1];rfl⟩
  refine⟨(List.range n).map (λi=>(eZ (Y i),eZ (X i))),⟨gU,?_⟩,λh=>by simp at h,dZ⟩;by_cases Q:n=0;{exact .inl Q}
  ·obtain⟨b,off,Z⟩:=x;have hc:=(each 0 dZ).1;have U:Z=ν:=by simpa[fE]using de hc
   subst U;refine .inr ⟨b,off,rfl,λj M=> ?_⟩;have S:j<n:=by simpa using M
   have V:=each j S;rw[ng,ng]at V;simpa[Nat.add_assoc]using V
structure AV where
 kind:ByteArray
 a:Int
 b:Int
 c:Int
 d:Int
 s:ByteArray
 Pb:Int
 pid:Int
 po:Option dW
 pn:Nat
 D5:Nat
 x:SV
instance:Inhabited AV:=⟨⟨fG,0,0,0,0,fG,0,0,ν,0,0,SV.zero⟩⟩
def AV.at_(v:AV)(w:dX)(b o:Nat):Prop:=
 w.cell? ⟨b,o,ν⟩=μ (.string v.kind)/\w.cell? ⟨b,o+1,ν⟩=μ (ι κ v.a)/\w.cell? ⟨b,o+2,ν⟩=μ (ι κ v.b)/\w.cell? ⟨b,o+3,ν⟩=μ (ι κ v.c)/\w.cell? ⟨b,o+4,ν⟩=μ (ι κ v.d)/\w.cell? ⟨b,o+5,ν⟩=μ (.string v.s)/\
 w.cell? ⟨b,o+6,ν⟩=μ (ι κ v.Pb)/\w.cell? ⟨b,o+7,ν⟩=μ (ι κ v.pid)/\w.cell? ⟨b,o+8,ν⟩=μ (σ v.po v.pn v.D5)/\
 w.cell? ⟨b,o+9,ν⟩=μ (ι κ v.x.own)/\w.cell? ⟨b,o+10,ν⟩=μ (ι κ v.x.seq)/\w.cell? ⟨b,o+11,ν⟩=μ (σ v.x.a v.x.n v.x.cap)
structure Pc(w:dX)(a:Option dW)(n:Nat)(V:Nat->AV)(E:Nat->List jJ):Prop where
 row:n=0 \/ ∃b off,a=μ ⟨b,off,ν⟩/\∀j,j<n->(V j).at_ w b (off+j*12)
 opt:∀j,j<n->jc w (V j).x.a (V j).x.n (E j)/\kJ (V j).x.a (V j).x.cap/\(V j).x.n<=maxLen/\(V j).pn<=maxLen
 pk:∀j,j<n->∃os:List jJ,jc w (V j).po (V j).pn os/\kJ (V j).po (V j).D5/\(V j).pn<=(V j).D5
theorem AV.at_.below {v:AV} {o:Nat} (h:v.at_ w b o)(hb:eB w w'):v.at_ w' b o:=by
 obtain⟨c0,c1,c2,c3,c4,X,V,U,T,c9,Z,Y⟩:=h;have l:=ag w _ c0;have k:∀i u,w.cell? ⟨b,i,ν⟩=μ u->w'.cell? ⟨b,i,ν⟩=μ u:=λi u S=>(hb.cell (p:=⟨b,i,ν⟩) l).trans S;exact⟨k _ _ c0,k _ _ c1,k _ _ c2,k _ _ c3,k _ _ c4,k _ _ X,k _ _ V,k _ _ U,k _ _ T,k _ _ c9,k _ _ Z,k _ _ Y⟩
theorem D6 {enc:eu×dY->H} {e:eu} {v:dY} {y:eT H×List fe} (Y:eY.underlying t=μ (.slice e))
 (Z:DataW.trod enc eY W 0 (λ_=>true) true m t [v] =μ y):∃(a:Option dW) (n cap:Nat),v=σ a n cap/\n<=maxLen/\n<=cap:=by
 rcases cX Y Z with⟨hcs,_⟩|⟨a,len,cap,m',n',D,Pl,hcs,_,hl,hm,_,_,_⟩
 {simp at hcs;subst hcs;exact⟨ν,0,0,rfl,ew,Nat.le_refl _⟩};{simp at hcs;subst hcs;exact⟨μ a,len,cap,rfl,dZ,hl⟩}
theorem aeq {enc:eu×dY->H} {d:eT H} 
 (h:DataW.Trod enc eY W 0 (λ_=>true) true 23 (σ a n cap) d ps):
 ∃(V:Nat->AV) (E:Nat->List jJ),Pc W a n V E/\n<=maxLen:=by
 obtain⟨fuel,hf⟩:=h;rcases cX underlying23 hf with⟨hcs,_⟩|⟨x,len,cp,m',n',D,Pl,hcs,_,hl,hm,J7,_,hx⟩
 ·simp[fF]at hcs;obtain⟨rfl,rfl,rfl⟩:=hcs;exact⟨λ_=>default,λ_=>[],⟨.inl rfl,λj Z=>dZ,λj Z=>dZ⟩,ew⟩
 ·simp[fF]at hcs;obtain⟨rfl,rfl,rfl⟩:=hcs;simp at J7;have ce:(eY).cellsOf 42=12:=gS;rw[ce]at hx;have each:∀i,i<n->∃q:AV×List jJ,(∀b off,x=⟨b,off,ν⟩->q.1.at_ W b (off+i*12))/\(W.cell? (x.add (i*12))).isSome=true/\jc W q.1.x.a q.1.x.n q.2/\kJ q.1.x.a q.1.x.cap/\q.1.x.n<=maxLen/\q.1.pn<=maxLen/\∃os:List jJ,jc W q.1.po q.1.pn os/\kJ q.1.po q.1.D5/\q.1.pn<=q.1.D5:=by
   intro i hi;obtain⟨cs',h1,h2⟩:=hx i dZ;obtain⟨_,hlen,hcell⟩:=World.cells?_some h1;obtain⟨xs,k,hk,hxy,_,Qs,Y⟩:=da underlying42 h2
   match xs,Qs,cs',hlen with
   |[y0,y1,y2,y3,y4,y5,y6,y7],_,[v0,v1,v2,v3,v4,v5,v6,v7,v8,v9,v10,v11],_=>
    have g0:=Y 0 _ rfl;have g1:=Y 1 _ rfl;have g2:=Y 2 _ rfl;have g3:=Y 3 _ rfl;have g4:=Y 4 _ rfl;have g5:=Y 5 _ rfl;have g6:=Y 6 _ rfl;have g7:=Y 7 _ rfl;have ci:(eY).cellsOf 3=1:=gS;have M:(eY).cellsOf 9=1:=gS;have A:(eY).cellsOf 37=3:=gS;have cx3:(eY).cellsOf 40=3:=gS;have y:(eY).cellsOf 38=1:=gS;have cso:(eY).cellsOf 35=1:=gS;simp[ci,M,A,cx3]at g0 g1 g2 g3 g4 g5 g6 g7;obtain⟨s0,f0,_,_⟩:=dv underlying9 g0;obtain⟨i1,f1,_,_⟩:=bg underlying3 g1;obtain⟨i2,f2,_,_⟩:=bg underlying3 g2;obtain⟨i3,f3,_,_⟩:=bg underlying3 g3;obtain⟨i4,f4,_,_⟩:=bg underlying3 g4;obtain⟨s5,f5,_,_⟩:=dv underlying9 g5;obtain⟨xp,kp,_,_,_,J,X⟩:=da underlying37 g6;obtain⟨xq,kq,_,_,_,G,U⟩:=da underlying40 g7
    match xp,J,xq,G with
    |[p0,p1,p2],_,[z0,z1,z2],_=>
     have e0:=X 0 _ rfl;have e1:=X 1 _ rfl;have e2:=X 2 _ rfl;have e3:=U 0 _ rfl;have e4:=U 1 _ rfl;have e5:=U 2 _ rfl;simp[ci,y,cso]at e0 e1 e2 e3 e4 e5;obtain⟨i6,f6,_,_⟩:=bg underlying3 e0;obtain⟨i7,f7,_,_⟩:=bg underlying3 e1;obtain⟨pa,pn,D5,f8,hpn,hpc⟩:=D6 underlying35 e2;obtain⟨i9,f9,_,_⟩:=bg underlying3 e3;obtain⟨i10,S,_,_⟩:=bg underlying3 e4;obtain⟨ea,en,ec,es,f11,eo,ez,em⟩:=M8 e5;simp at f0 f1 f2 f3 f4 f5 f6 f7 f9 S;subst f0 f1 f2 f3 f4 f5 f6 f7 f8 f9 S f11;obtain⟨pos,po1,po2,_⟩:=QQ (a:=pa) (n:=pn) (cap:=D5) (W:=W) ⟨_,e2⟩;have rI:=hcell 0 dZ;rw[Go.Deep.add_add]at rI;refine⟨(⟨s0,i1,i2,i3,i4,s5,i6,i7,pa,pn,D5,⟨i9,i10,ea,en,ec⟩⟩,es),λb off he=> ?_,by rw[show i*12+0=i*12 by omega]at rI;rw[rI];rfl,eo,ez,em,hpn,pos,po1,po2,hpc⟩;subst he;have c:=λj (Z:j<12)=>hcell j Z;simp only[ng]at c;have r:∀j,off+i*12+j=off+(i*12)+j:=λj=>rfl;exact⟨c 0 dZ,c 1 dZ,c 2 dZ,c 3 dZ,c 4 dZ,c 5 dZ,c 6 dZ,c 7 dZ,c 8 dZ,c 9 dZ,c 10 dZ,c 11 dZ⟩
  obtain⟨q,T⟩:=Go.Deep.choose_lt each;refine⟨λi=>(q i).1,λi=>(q i).2,⟨?_,λj Z=>⟨(T j Z).2.2.1,(T j Z).2.2.2.1,(T j Z).2.2.2.2.1,(T j Z).2.2.2.2.2.1⟩,λj Z=>(T j Z).2.2.2.2.2.2⟩,dZ⟩;by_cases h0:n=0;{exact .inl h0}
  ·obtain⟨b,off,Q⟩:=x;obtain⟨u,hu⟩:=Option.isSome_iff_exists.1 (T 0 dZ).2.1;have D4:Q=ν:=by simpa[fE]using de hu
   subst D4;exact .inr ⟨b,off,rfl,λj Z=>(T j Z).1 b off rfl⟩
section
variable {P:Program}
theorem Gl(s:ByteArray):(fH (λb:UInt8=>ι fI (b.toNat:Int)) s.data).extract 0 s.size=fH (λb:UInt8=>ι fI (b.toNat:Int)) s.data:=by
 have hs:s.size=(fH (λb:UInt8=>ι fI (b.toNat:Int)) s.data).size:=by rw[dR];rfl
 rw[hs,Array.extract_size]
theorem vU(g:Nat):∀(vs:List dY) (o:Nat) (w:dX),(w.setCells g o vs).heap.size=w.heap.size/\(w.setCells g o vs).os=w.os/\(w.setCells g o vs).tape=w.tape/\(w.setCells g o vs).output=w.output/\∀k,k≠g->(w.setCells g o vs).heap[k]? =w.heap[k]?
 |[],o,w=>⟨rfl,rfl,rfl,rfl,λ_ _=>rfl⟩
 |u::r,o,w=>by
  have h:=vU g r (o+1) (w.setCell ⟨g,o,ν⟩ u);have b1:Below 0 w (w.setCell ⟨g,o,ν⟩ u):=(au 0 w).setCell (Nat.zero_le _) _;exact⟨h.1.trans gU,h.2.1.trans b1.os,h.2.2.1.trans b1.tape,h.2.2.2.1.trans b1.output,λk Z=>(h.2.2.2.2 k Z).trans (ak _ _ _ k Z)⟩
theorem M9(l:List UInt8):∀u∈iP l,u.oneCell'=true:=by
 intro u Z;obtain⟨b,_,rfl⟩:=bH.1 Z;rfl
theorem Na(s:ByteArray):(fH (λb:UInt8=>ι fI (b.toNat:Int)) s.data).toList=iP s.data.toList:=by simp[iP]
theorem Row.Yb {v:dY} {xs:List dY} (h:Row w 1 v n xs):v=σ ν 0 0/\n=0/\xs=[] \/ ∃g cap,v=σ (μ ⟨g,0,ν⟩) n cap/\g<w.heap.size/\n<=cap/\cap<=maxLen/\(∀(j:Nat) (u:dY),xs[j]? =μ u->w.cell? ⟨g,j,ν⟩=μ u)/\(∀j,j<cap*1->(w.cell? ⟨g,j,ν⟩).isSome=true/\w.frozen? ⟨g,j,ν⟩=false):=by
 rcases h.2 with⟨Z,Y⟩|⟨g,cap,Z,X,V,U,T,S⟩
 {exact .inl ⟨Z,Y,aH (by rw[h.1,Y])⟩};{exact .inr ⟨g,cap,Z,X,V,U,T,S⟩}
theorem vV(w:dX)(t u ty e:eu)(i:TypeInfo)(z:dY)(T:P.underlying t=μ (.slice e))(S:P.underlying u=μ .string)(hi:P.info? e=μ i)(hz:i.zero=μ z)(rR:i.size=1)(vN:i.bytes=1)(MP:z.cells.size=1)
 (v:dY) (n:Nat) (xs:List dY) (X:Row w 1 v n xs) (s:ByteArray) (hs:s.size<=1000000) (hn:n<=1000000000):
 ∃v' w',(fJ #[t,u] ty #[v,.string s]).run P w=.ok v' w'/\Row w' 1 v' (n+s.size) (xs++iP s.data.toList)/\w.grownBy w' v.ownBlock/\(v'.ownBlock=v.ownBlock \/ ∃k,v'.ownBlock=μ k/\w.heap.size<=k):=by
 have hsl:(iP s.data.toList).length=s.size:=by simp[qR]
 have hex:=Gl s;rcases X.Yb with⟨rfl,rfl,rfl⟩|⟨g,cap,rfl,hg,tY,Gd,hcell,M⟩
 ·by_cases h:s.size=0;{have G:s.data.toList=[] :=aH (by simpa using h);refine⟨σ ν 0 0,w,?_,by rw[h,G];exact Row.nil _ _,⟨rfl,rfl,rfl,Nat.le_refl _,λ_ _ _=>rfl⟩,.inl rfl⟩;simp[fJ,fB T,fB S,sizeOf,typeInfo,hi,fK,fL,h]}
  ·have U:=run_append_nil_string (P:=P) (w:=w) t u ty e i z T S hi hz s dZ dZ (by rw[vN];omega);have xL:=grownCap_ge w s.size 0 e;refine⟨_,_,U,?_,⟨rfl,rfl,rfl,gU,λk Y _=>aU w.drew _ k Y⟩,.inr ⟨_,rfl,Nat.le_refl _⟩⟩;simp only[Nat.zero_add,List.nil_append];refine Row.made w.drew 1 e _ (0,0) s.size _ _ (by rw[hsl,Nat.mul_one]) ?_ xL (dq _ _ _ _ (by unfold maxLen;omega)) (.inl rfl) (λj x Z=> ?_);{rw[dw,size_zeroCells,MP,dR];have:s.data.size=s.size:=rfl;omega}
   ·have V:j<s.size:=by rw[<-hsl];exact(aK.1 Z).1
    rw[cR (by rw[dR];exact V),<-Z,<-Na s,Array.getElem?_toList]
 ·by_cases U:n+s.size<=cap
  ·have Q:∀j,j<(iP s.data.toList).length->(w.cell? ⟨g,0+n*1+j,ν⟩).isSome=true/\w.frozen? ⟨g,0+n*1+j,ν⟩=false:=λj Z=>M _ dZ;have kd:=run_storeCells_cells (P:=P) g (0+n*1) (iP s.data.toList) 0 w (λj Z=>by rw[Nat.add_zero];exact(Q j Z).1) (λj Z=>by rw[Nat.add_zero];exact(Q j Z).2) (M9 _);have B:=vU g (iP s.data.toList) (0+n*1) w;refine⟨σ (μ ⟨g,0,ν⟩) (n+s.size) cap,w.setCells g (0+n*1) (iP s.data.toList),?_,⟨by rw[az,X.1,hsl];omega,.inr ⟨g,cap,rfl,by rw[B.1];exact hg,U,Gd,λj x hx=> ?_,λj Z=> ?_⟩⟩,⟨B.2.1,B.2.2.1,B.2.2.2.1,by rw[B.1];exact Nat.le_refl _,λk _ Y=>B.2.2.2.2 k (λe=>Y (by simp[eh,e]))⟩,.inl rfl⟩
   ·simp[fJ,fB T,fB S,sizeOf,typeInfo,hi,rR,fK,fL,U,hex,add_plain];have J:(storeCells ⟨g,n,ν⟩ (iP s.data.toList)).run P w=.ok () (w.setCells g n (iP s.data.toList)):=by simpa using kd
    have e8:List.map (λb:UInt8=>ι fI (b.toNat:Int)) s.data.toList=iP s.data.toList:=rfl;rw[e8,J];rfl
   ·rcases Nat.lt_or_ge j xs.length with Z|Z
    ·rw[bz Z]at hx;rw[bB g _ _ _ _ (λ_ _=>.inl (by show j<0+n*1;have:=X.1;omega))];exact hcell j x hx
    ·rw[br Z]at hx;have V:j-xs.length<(iP s.data.toList).length:=(aK.1 hx).1;have:=bJ g (iP s.data.toList) (0+n*1) w (λk Y=>(Q k Y).1) (j-xs.length) V;have y:0+n*1+(j-xs.length)=j:=by have:=X.1;omega
     rw[y]at this;rw[this,<-hx,ay V]
   ·rw[bZ];refine⟨?_,(M j Z).2⟩;by_cases hq:n*1<=j/\j<n*1+(iP s.data.toList).length;{have:=bJ g (iP s.data.toList) (0+n*1) w (λk Y=>(Q k Y).1) (j-n*1) dZ;have y:0+n*1+(j-n*1)=j:=dZ;rw[y]at this;rw[this];rfl};{rw[bB g _ _ _ _ (λ_ _=>by show j<0+n*1 \/0+n*1+(iP s.data.toList).length<=j;omega)];exact(M j Z).1}
  ·have Pf:¬n+s.size<=cap:=U;have E:¬(9223372036854775807<((n:Int)+(s.size:Int))):=dZ;have hcc:cap<n+s.size:=dZ;have hnx:fM (n+s.size) cap<=281474976710656:=by have:=nextslicecap_le hcc;omega
   have D:¬(281474976710656<fM (n+s.size) cap*i.bytes):=by rw[vN];omega
   have qG:=run_loadCells_list (P:=P) (w:=w.drew) ⟨g,0,ν⟩ xs (λj x Z=>by rw[add_plain];exact hcell j x Z);have A:(loadCells ⟨g,0,ν⟩ (n*i.size)).run P w.drew=.ok xs.toArray w.drew:=by
    rw[rR,<-X.1];exact qG
   have xL:=grownCap_ge w (n+s.size) cap e;refine⟨σ (μ ⟨w.heap.size,0,ν⟩) (n+s.size) (grownCap w (n+s.size) cap e),w.drew.alloc (γ (xs.toArray++(iP s.data.toList).toArray++Builtin.zeroCells z.cells (grownCap w (n+s.size) cap e-(n+s.size))) e),?_,?_,⟨rfl,rfl,rfl,gU,λk Y _=>aU w.drew _ k Y⟩,.inr ⟨_,rfl,Nat.le_refl _⟩⟩;{simp[fJ,fB T,fB S,sizeOf,typeInfo,zeroValue,hi,hz,fK,Pf,E,D,Question.forced,newRow,grownCap,fL,hex,A];congr 2;apply Array.ext';simp[iP]}
   ·refine Row.made w.drew 1 e _ (0,0) (n+s.size) _ _ (by rw[az,X.1,hsl];omega) ?_ xL (dq _ _ _ _ (by unfold maxLen;omega)) (.inl rfl) (λj x Z=> ?_)
    ·rw[dw,dw,size_zeroCells,MP];have h1:xs.toArray.size=n:=by simpa using X.1
     have h2:(iP s.data.toList).toArray.size=s.size:=by simpa using hsl
     rw[h1,h2];omega
    ·have V:j<(xs++iP s.data.toList).length:=(aK.1 Z).1;rw[cR (by simpa using V),List.append_toArray,List.getElem?_toArray];exact Z
theorem tC(w:dX) {ops:Array Oper} {rest:List Oper} {o:Oper} {a:Act} {Q:Exit->Act->dX->Prop} (Z:o.guard=ν)(sl x:Operand)(t u:eu)
 (M:o.op=.call {callee:=.builtin .append,args:= #[sl,x],argTypes:= #[t,u] })
 (e:eu) (i:TypeInfo) (z:dY) (G:P.underlying t=μ (.slice e)) (E:P.underlying u=μ .string) (hi:P.info? e=μ i) (D:i.zero=μ z) (y:i.size=1) (j:i.bytes=1) (Y:z.cells.size=1)
 (v:dY) (n:Nat) (xs:List dY) (hs:a.eval sl=v) (A:Row w 1 v n xs) (s:ByteArray) (hx:a.eval x=.string s) (hsl:s.size<=1000000) (S:n<=1000000000)
 (h:∀v' w',Row w' 1 v' (n+s.size) (xs++iP s.data.toList)->w.grownBy w' v.ownBlock->(v'.ownBlock=v.ownBlock \/ ∃k,v'.ownBlock=μ k/\w.heap.size<=k)->wpList P ops Q rest (a.put o.dst v') w'):wpList P ops Q (o::rest) a w:=by
 refine wpList_plain Z λK T=> ?_;obtain⟨v',w',J,X,V,U⟩:=vV (P:=P) w t u o.type e i z G E hi D y j Y v n xs A s hsl S;unfold Oper.wp execOp;simp only[M,resolve,invoke,builtin,Sem.run_bind,Sem.run_pure,Result.andThen_ok,List.map_toArray,List.map_cons,List.map_nil,hs,hx,J];exact T _ _ (h v' w' X V U)
end
theorem Pg:∀(ps:List PV) (j:Nat) (p:PV),ps[j]? =μ p->(QB ps)[j*3]? =μ (ι κ p.code)/\(QB ps)[j*3+1]? =μ (ι κ p.id)/\(QB ps)[j*3+2]? =μ p.val
 |[],j,p,h=>by simp at h
 |q::r,0,p,h=>by
  have:q=p:=by simpa using h
  subst this;exact⟨rfl,rfl,rfl⟩
 |q::r,j+1,p,h=>by
  have Z:r[j]? =μ p:=by simpa using h
  obtain⟨a,b,c⟩:=Pg r j p Z;have e:QB (q::r)=ι κ q.code::ι κ q.id::q.val::QB r:=rfl;rw[e,show(j+1)*3=j*3+1+1+1 by omega,show j*3+1+1+1+1=(j*3+1)+1+1+1 by omega,show j*3+1+1+1+2=(j*3+2)+1+1+1 by omega];simp only[List.getElem?_cons_succ];exact⟨a,b,c⟩
structure abP(w:dX)(v:dY)(ps:List PV):Prop where
 row:Row w 3 v ps.length (QB ps)
 opt:∀p∈ps,jc w p.a p.n p.os/\p.n<=1000
theorem abP.shape {v:dY} {ps:List PV} (h:abP w v ps):∃(a:Option dW) (c:Nat),v=σ a ps.length c/\∀j p,ps[j]? =μ p->∃g,a=μ ⟨g,0,ν⟩/\w.cell? ⟨g,0+j*3,ν⟩=μ (ι κ p.code)/\w.cell? ⟨g,0+j*3+1,ν⟩=μ (ι κ p.id)/\w.cell? ⟨g,0+j*3+2,ν⟩=μ (σ p.a p.n p.cap):=by
 rcases h.row.2 with⟨Z,X⟩|⟨g,c,Z,hg,tY,Gd,hcell,_⟩
 {refine⟨ν,0,by rw[X,Z],λj p Y=> ?_⟩;have:=(aK.1 Y).1;omega};{refine⟨_,c,Z,λj p Y=>⟨g,rfl,?_⟩⟩;obtain⟨a,b,d⟩:=Pg ps j p Y;rw[Nat.zero_add];exact⟨hcell _ _ a,hcell _ _ b,hcell _ _ d⟩}
