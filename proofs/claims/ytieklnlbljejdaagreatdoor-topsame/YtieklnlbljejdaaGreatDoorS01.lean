import Derived.Test.YtieklnlbljejdaaGreatDoorS00
open Go.Value renaming int → ι, slice → σ, pointer → π, tuple → τ, nilIface → η, ownBlock → eD, map → fI, oneCell' → eG
open Go.IntKind renaming i64 → κ
open Go.Ending renaming returned → ρ
open Go.Obj renaming cells → γ
open Option renaming none → ν, some → μ
open List renaming length_cons → eW, length_nil → eX, getElem?_inj → fJ, getElem?_of_mem → fK
open Prod.mk renaming injEq → fC
open Go.Proofs.Tryz renaming prog → fe
open Go renaming World → ew, Calls → fc, Addr → eh, Value → eA, TypeId → eE, wpList_next_ranges → fL
open Go.RowKit renaming intOf → fh
open Go.Instr renaming mapUpdate → fD, lookup → fF, entry → fM, makeMap → fO
open Go.Maps renaming atKey_put_other → fE, atKey_del_other → fG
open Go.Builtin renaming clear_ → fH
open List.Pairwise renaming nil → fN
set_option maxRecDepth 100000
set_option maxHeartbeats 8000000
open Go.Proofs.Tryz
namespace Go.Proofs.YtieklnlbljejdaaGreatDoor
namespace St
variable {a b s1 s2:Int}
abbrev Ed:=Int×Int
def qP(own:Int):Int->List Ed->Nat
 |_,[] =>0
 |ah,e::r=>if e.1<1 \/6<e.1 \/e.2<1 \/20<e.2 then 1 else if e.1=own \/e.1<=ah then 3 else qP own e.1 r
def oK(own seq:Int)(es:List Ed):Nat:=if own<1 \/6<own \/seq<1 \/1000000<seq then 1 else if 6<es.length then 2 else qP own 0 es
theorem jC {own seq:Int} {es:List Ed} (h:oK own seq es=0):(1<=own/\own<=6)/\(1<=seq/\seq<=1000000)/\es.length<=6/\qP own 0 es=0:=by
 unfold oK at h;split at h;{simp at h};{split at h;{simp at h};{exact⟨eB,eB,eB,h⟩}}
theorem pI(own:Int):∀(es:List Ed) (Y:Int),qP own Y es=0->∀e∈es,(1<=e.1/\e.1<=6)/\(1<=e.2/\e.2<=20)
 |[],_,_,e,Z=>by simp at Z
 |x::r,Y,h,e,Z=>by
  unfold qP at h;split at h;{simp at h}
  ·split at h;{simp at h}
   ·rcases aP.1 Z with rfl|Z
    {omega};{exact pI own r _ h e Z}
def u8(x:Int):UInt8:=UInt8.ofNat x.toNat
theorem pW(x:Int)(h0:0<=x)(h1:x<=255):((u8 x).toNat:Int)=x:=by
 unfold u8;rw[UInt8.toNat_ofNat_of_lt' (by show x.toNat<256;omega)];omega
def MU(es:List Ed):List UInt8:=es.flatMap λo=>[u8 o.1,u8 o.2]
theorem Uz(os:List Ed)(o:Ed):MU (os++ [o])=MU os++ [u8 o.1,u8 o.2] :=by simp[MU]
theorem yN(os:List Ed):(MU os).length=2*os.length:=by
 induction os with
 |nil=>rfl
 |cons o r ih=>simp only[MU,List.flatMap_cons,List.length_append,eW,eX]at ih⊢;omega
def rN(own seq:Int)(es:List Ed):List UInt8:=u8 own::u8 (seq%256)::u8 (seq/256%256)::u8 (seq/65536)::MU es
def pairs:List UInt8->List Ed
 |k::n::r=>((k.toNat:Int),(n.toNat:Int))::pairs r
 |_=>[]
theorem zO:∀l:List UInt8,(pairs l).length=l.length/2
 |[] =>rfl
 |[_] =>by simp[pairs]
 |a::b::r=>by
  have ih:=zO r;simp only[pairs,eW,ih];omega
theorem Hs:∀(os:List Ed),(∀o∈os,(0<=o.1/\o.1<=255)/\(0<=o.2/\o.2<=255))->pairs (MU os)=os
 |[],_=>rfl
 |o::r,h=>by
  have X:MU (o::r)=u8 o.1::u8 o.2::MU r:=by simp[MU]
  obtain⟨Z,Y⟩:=h o ik;rw[X,pairs,pW o.1 Z.1 Z.2,pW o.2 Y.1 Y.2,Hs r (λx hx=>h x (by simp[hx]))]
def KZ(l:List UInt8):Int:=((l.getD 1 0).toNat:Int)+256*((l.getD 2 0).toNat:Int)+65536*((l.getD 3 0).toNat:Int)
def iB(l:List UInt8):Int×Int×List Ed×Nat:=
 if l.length<4 \/l.length%2=1 then(0,0,[],4)
 else if oK ((l.getD 0 0).toNat:Int) (KZ l) (pairs (l.drop 4))=0 then(((l.getD 0 0).toNat:Int),KZ l,pairs (l.drop 4),0)
 else(0,0,[],4)
theorem K0(l:List UInt8)(h:16<l.length):iB l=(0,0,[],4):=by
 unfold iB;split;{rfl}
 ·rename_i h1
  have hl:6<(pairs (l.drop 4)).length:=by rw[zO];simp;omega
  split
  ·rename_i Z
   have:=(jC Z).2.2.1;omega
  ·rfl
theorem od(own seq:Int)(es:List Ed)(hf:oK own seq es=0):iB (rN own seq es)=(own,seq,es,0):=by
 obtain⟨p1,p2,p3,V⟩:=jC hf;have X:=pI own es 0 V;have hl:(rN own seq es).length=4+2*es.length:=by
  unfold rN;simp only[eW,yN];omega
 have g0:(rN own seq es).getD 0 0=u8 own:=rfl;have Z:(rN own seq es).drop 4=MU es:=rfl;have hs:KZ (rN own seq es)=seq:=by
  show((u8 (seq%256)).toNat:Int)+256*((u8 (seq/256%256)).toNat:Int)+65536*((u8 (seq/65536)).toNat:Int)=seq;rw[pW _ eB eB,pW _ eB eB,pW _ eB eB];omega
 unfold iB;rw[g0,Z,hs,pW own eB eB,Hs es (λo Y=>by have:=X o Y;omega),hl,af eB,ai hf]
def mH(a b:Int):Int:=if a<b then-1 else if b<a then 1 else 0
def yO(a b:Ed):Int:=if mH a.1 b.1≠0 then mH a.1 b.1 else mH a.2 b.2
def mI:List Ed->List Ed->Int
 |[],[] =>0
 |[],_::_=> -1
 |_::_,[] =>1
 |a::r,b::q=>if yO a b≠0 then yO a b else mI r q
def mC(s1:Int)(e1:List Ed)(s2:Int)(e2:List Ed):Int:=if mH s1 s2≠0 then mH s1 s2 else mI e1 e2
theorem Ra(a b:Int):mH a b= -mH b a:=by unfold mH;split<;>split<;>(try split)<;>omega
theorem nS:mH a b=0↔a=b:=by unfold mH;constructor<;>intro h<;>(try split at h)<;>(try split at h)<;>(try split)<;>(try split)<;>omega
theorem Nr(a b:Int):mH a b= -1 \/mH a b=0 \/mH a b=1:=by unfold mH;split<;>(try split)<;>simp
theorem uL:0<mH a b↔b<a:=by unfold mH;split<;>(try split)<;>omega
theorem rm(a b:Ed):(yO a b=1/\(b.1<a.1 \/b.1=a.1/\b.2<a.2)) \/(yO a b= -1/\(a.1<b.1 \/a.1=b.1/\a.2<b.2)) \/(yO a b=0/\a=b):=by
 obtain⟨a1,a2⟩:=a;obtain⟨b1,b2⟩:=b;simp only[yO,mH,fC]
 repeat' split
 all_goals omega
theorem Rb(a b:Ed):yO a b= -yO b a:=by
 obtain⟨a1,a2⟩:=a;obtain⟨b1,b2⟩:=b;simp only[yO,mH]
 repeat' split
 all_goals omega
theorem Ei:∀a b:List Ed,mI a b= -1 \/mI a b=0 \/mI a b=1
 |[],[] =>by simp[mI]
 |[],_::_=>by simp[mI]
 |_::_,[] =>by simp[mI]
 |a::r,b::q=>by
  unfold mI;split;{rcases rm a b with h|h|h<;>simp[h.1]};{exact Ei r q}
theorem Ht:∀a b:List Ed,mI a b= -mI b a
 |[],[] =>by simp[mI]
 |[],_::_=>by simp[mI]
 |_::_,[] =>by simp[mI]
 |a::r,b::q=>by
  have h:=Rb a b;have ih:=Ht r q;unfold mI;split<;>split<;>omega
theorem Hu:∀ {a b:List Ed},mI a b=0↔a=b
 |[],[] =>by simp[mI]
 |[],_::_=>by simp[mI]
 |_::_,[] =>by simp[mI]
 |a::r,b::q=>by
  have ih:= @Hu r q;unfold mI;rcases rm a b with h|h|h
  {rw[ai eB,h.1];constructor;{intro e;simp at e};{intro e;obtain⟨Z,Y⟩:=a;obtain⟨b1,b2⟩:=b;simp at e h;omega}};{rw[ai eB,h.1];constructor;{intro e;simp at e};{intro e;obtain⟨Z,Y⟩:=a;obtain⟨b1,b2⟩:=b;simp at e h;omega}};{rw[af eB,ih];simp[h.2]}
theorem Ej:∀ {a b c:List Ed},0<=mI a b->0<=mI b c->0<=mI a c/\(0<mI a b \/0<mI b c->0<mI a c)
 |[],[],[],_,_=>by simp[mI]
 |[],[],_::_,_,h=>by simp[mI]at h
 |[],_::_,_,h,_=>by simp[mI]at h
 |_::_,[],[],_,_=>by simp[mI]
 |_::_,[],_::_,_,h=>by simp[mI]at h
 |_::_,_::_,[],_,_=>by simp[mI]
 |a::r,b::q,c::s,h1,h2=>by
  have ih:= @Ej r q s;unfold mI at h1 h2⊢;rcases rm a b with⟨Y,U⟩|⟨Y,U⟩|⟨Y,rfl⟩
  ·rcases rm b c with⟨Z,V⟩|⟨Z,V⟩|⟨Z,rfl⟩
   ·rcases rm a c with⟨X,T⟩|⟨X,T⟩|⟨X,rfl⟩
    {simp[X]};{omega};{omega}
   {simp[Z]at h2};{simp[Y]}
  ·simp[Y]at h1
  ·rcases rm a c with⟨Z,V⟩|⟨Z,V⟩|⟨Z,rfl⟩
   {simp[Z]};{simp[Z]at h2};{simp only[Y]at h1 h2⊢;simp at h1 h2⊢;exact ih h1 h2}
theorem uM(s1 s2:Int)(Z Y:List Ed):mC s1 Z s2 Y= -mC s2 Y s1 Z:=by
 have h:=Ra s1 s2;have ih:=Ht Z Y;unfold mC;split<;>split<;>omega
theorem Ba {e1 e2:List Ed}:mC s1 e1 s2 e2=0↔s1=s2/\e1=e2:=by
 unfold mC;split
 ·rename_i h
  constructor;{intro e;exact absurd e h};{intro⟨e,_⟩;exact absurd (nS.2 e) h}
 ·rename_i h
  have:s1=s2:=nS.1 eB;rw[Hu];simp[this]
theorem Ek(s1 s2:Int)(Z Y:List Ed):mC s1 Z s2 Y= -1 \/mC s1 Z s2 Y=0 \/mC s1 Z s2 Y=1:=by
 unfold mC;split;{rcases Nr s1 s2 with h|h|h<;>simp[h]};{exact Ei Z Y}
theorem yP {s3:Int} {e1 e2 e3:List Ed} (Y:0<=mC s1 e1 s2 e2)(Z:0<=mC s2 e2 s3 e3):0<=mC s1 e1 s3 e3/\(0<mC s1 e1 s2 e2 \/0<mC s2 e2 s3 e3->0<mC s1 e1 s3 e3):=by
 unfold mC at Y Z⊢;by_cases a:s1=s2;{by_cases b:s2=s3;{have c:s1=s3:=a.trans b;rw[af (by simp[nS.2 a])]at Y;rw[af (by simp[nS.2 b])]at Z;have X:=nS.2 a;have hb:=nS.2 b;have hc:=nS.2 c;rw[af (show¬mH s1 s2≠0 by omega),af (show¬mH s2 s3≠0 by omega),af (show¬mH s1 s3≠0 by omega)];exact Ej Y Z};{have hb:mH s2 s3≠0:=λe=>b (nS.1 e);rw[ai hb]at Z;have p:s3<s2:=uL.1 eB;have q:0<mH s1 s3:=uL.2 eB;rw[ai (show mH s1 s3≠0 by omega)];exact⟨eB,λ_=>q⟩}}
 ·have X:mH s1 s2≠0:=λe=>a (nS.1 e);rw[ai X]at Y;have p:s2<s1:=uL.1 eB;have p2:s3<=s2:=by
   by_cases b:mH s2 s3=0;{have:=nS.1 b;omega};{rw[ai b]at Z;have:=uL.1 (show 0<mH s2 s3 by omega);omega}
  have q:0<mH s1 s3:=uL.2 eB;rw[ai (show mH s1 s3≠0 by omega)];exact⟨eB,λ_=>q⟩
end St
open Go.RowKit St
variable {B C b c cap g i n n':Nat} {W a w w' w1 w3 wr:World} {bs:List Nat} {es:Int->List jQ} {k x:Int} {left:Lit->Bool} {o:Obj} {t:TypeId} {v':Value}
theorem zP:(fe.info? 123).map (λi=>(i.zero,i.size,i.bytes))=μ (μ (.agg #[ι κ 0,ι κ 0]),2,16):=ga
theorem qo(w:ew):(zeroValue 40).run fe w=.ok (.agg #[ι κ 0,ι κ 0,σ ν 0 0]) w:=ga
def UA(n:Int):Bool:=decide (1<=n)&&decide (n<=6)
theorem vt(n:Int)(w:ew):fc fe 167 #[ι κ n] w λe w'=>e=ρ (.bool (UA n))/\w=w':=by
 by_cases Z:1<=n
 ·by_cases Y:n<=6
  ·have hb:UA n=true:=by simp[UA,Z,Y]
   rw[hb];clear hb
   go_in
   go_wp2
   go_ret;exact⟨by first|rfl|(simp;omega),rfl⟩
  ·have hb:UA n=false:=by simp[UA,Y]
   rw[hb];clear hb
   go_in
   go_wp2
   go_ret;exact⟨by first|rfl|(simp;omega),rfl⟩
 ·have hb:UA n=false:=by simp[UA,Z]
  rw[hb];clear hb
  go_in
  go_wp2
  go_ret;exact⟨by first|rfl|(simp;omega),rfl⟩
theorem Em(n:Int)(h0:¬n<1)(h1:¬6<n):UA n=true:=by simp[UA];omega
theorem Bc(n:Int)(h:n<1 \/6<n):UA n=false:=by simp[UA];omega
theorem En(own:Int)(a:Option eh)(n cap:Nat)(os:List jQ)(w:ew)(hn:n<=1000000)(Q:jm w a n os):
 fc fe 168 #[ι κ own,σ a n cap] w λe w'=>e=ρ (jB (qP own 0 os))/\eH w w':=by
 have G:jB 0=η:=rfl;have E:jB 1=.iface 128 (ι κ 1):=rfl;have D:jB 3=.iface 128 (ι κ 3):=rfl;have u:Hid _:=G;have S:Hid _:=E;have J:Hid _:=D;clear G E D
 go_in
 go_wp2
 go_loopw [5,10] (λah i wr=>∃(k:Nat) (h:Int),k<=n/\ah=ι κ h/\i=ι κ k/\qP own 0 os=qP own h (os.drop k)/\eH w wr) (λ_ i _=>n-(fh i).toNat)
 case atStart=>exact⟨0,0,Nat.zero_le _,rfl,rfl,rfl,au _ _⟩
 case round=>
  obtain⟨k,h,hk,rfl,rfl,H,T⟩:=hrel;have U:Hid _:=H;clear H;by_cases kL:k<n
  ·have M:=Q.below T;rcases M.2 with h0|⟨b,off,rfl,hc⟩
   ·omega
   have y:k<os.length:=by rw[Q.1];exact kL
   obtain⟨c1,c2⟩:=hc k y;have V:Hid (os.drop k=os[k] ::os.drop (k+1)):=aR y;generalize os[k] =o at c1 c2 V;clear hc M;have n9:(k:Int)<(n:Int):=eB;have X:=T.alloc T.size (γ #[ι κ o.1,ι κ o.2] 123);have Y:=vt o.1 (wr.alloc (γ #[ι κ o.1,ι κ o.2] 123));have one:(o.1<1 \/6<o.1 \/o.2<1 \/20<o.2)->Hid (qP own 0 os=1):=λhh=>by
    show _=_;rw[U.out,V.out,qP,ai hh]
   by_cases r1:o.1<1 \/6<o.1;{have Z:=one eB;rw[Bc o.1 r1]at Y;clear one;go_wp2_with(fail);refine Y.mono ?_;rintro e w1 ⟨rfl,rfl⟩;go_wp2_with(fail);rw[Z.out,S.out];go_ret;exact⟨rfl,X⟩};rw[Em o.1 eB eB]at Y;by_cases r2:o.2<1;{have Z:=one eB;clear one;go_wp2_with(fail);refine Y.mono ?_;rintro e w1 ⟨rfl,rfl⟩;go_wp2_with(fail);rw[Z.out,S.out];go_ret;exact⟨rfl,X⟩};by_cases r3:20<o.2;{have Z:=one eB;clear one;go_wp2_with(fail);refine Y.mono ?_;rintro e w1 ⟨rfl,rfl⟩;go_wp2_with(fail);rw[Z.out,S.out];go_ret;exact⟨rfl,X⟩}
   have three:(o.1=own \/o.1<=h)->Hid (qP own 0 os=3):=λhh=>by
    show _=_;rw[U.out,V.out,qP,af eB,ai hh]
   clear one;cases A:(o.1==own)
   ·by_cases r5:o.1<=h;{have Z:=three (.inr r5);clear three;go_wp2_with(fail);refine Y.mono ?_;rintro e w1 ⟨rfl,rfl⟩;go_wp2_with(fail);rw[Z.out,J.out];go_ret;exact⟨rfl,X⟩}
    ·have j:Hid (qP own 0 os=qP own o.1 (os.drop (k+1))):=by
      show _=_;have r4':¬o.1=own:=by simpa using A
      rw[U.out,V.out,qP,af eB,af eB]
     clear three;go_wp2_with(fail);refine Y.mono ?_;rintro e w1 ⟨rfl,rfl⟩
     go_wp2
     go_roundw
     case rel=>exact⟨k+1,_,eB,rfl,by go_num,j.out,X⟩
     case measure=>simp[fh];omega
   ·have Z:=three (.inl (by simpa using A));clear three;go_wp2_with(fail);refine Y.mono ?_;rintro e w1 ⟨rfl,rfl⟩;go_wp2_with(fail);rw[Z.out,J.out];go_ret;exact⟨rfl,X⟩
  ·have Z:Hid (qP own 0 os=0):=by
    show _=_;rw[U.out,bg (by rw[Q.1];omega),qP]
   go_wp2_with(fail);rw[Z.out,u.out];go_ret;exact⟨rfl,T⟩
theorem yQ(own seq:Int)(a:Option eh)(n cap:Nat)(os:List jQ)(w:ew)(S:n<=1000000)(U:jm w a n os):
 fc fe 117 #[.agg #[ι κ own,ι κ seq,σ a n cap]] w λe w'=>e=ρ (jB (oK own seq os))/\eH w w':=by
 have X:=gK w (γ #[ι κ own,ι κ seq,σ a n cap] 40);have V:Hid (jB 1=.iface 128 (ι κ 1)):=rfl;have T:Hid (jB 2=.iface 128 (ι κ 2)):=rfl;have hl:=U.1;have Y:=vt own (w.alloc (γ #[ι κ own,ι κ seq,σ a n cap] 40));have one:(own<1 \/6<own \/seq<1 \/1000000<seq)->Hid (oK own seq os=1):=λhh=>by show _=_;rw[oK,ai hh]
 by_cases r1:own<1 \/6<own
 ·have Z:=one eB;rw[Bc own r1]at Y;clear one
  go_in
  go_wp2_with(fail);refine Y.mono ?_;rintro e w1 ⟨rfl,rfl⟩;go_wp2_with(fail);rw[Z.out,V.out];go_ret;exact⟨rfl,X⟩
 rw[Em own eB eB]at Y;by_cases r2:seq<1
 ·have Z:=one eB;clear one
  go_in
  go_wp2_with(fail);refine Y.mono ?_;rintro e w1 ⟨rfl,rfl⟩;go_wp2_with(fail);rw[Z.out,V.out];go_ret;exact⟨rfl,X⟩
 by_cases r3:1000000<seq
 ·have Z:=one eB;clear one
  go_in
  go_wp2_with(fail);refine Y.mono ?_;rintro e w1 ⟨rfl,rfl⟩;go_wp2_with(fail);rw[Z.out,V.out];go_ret;exact⟨rfl,X⟩
 clear one;by_cases r4:(6:Int)<(n:Int)
 ·have Z:Hid (oK own seq os=2):=by show _=_;rw[oK,af eB,ai eB]
  go_in
  go_wp2_with(fail);refine Y.mono ?_;rintro e w1 ⟨rfl,rfl⟩;go_wp2_with(fail);rw[Z.out,T.out];go_ret;exact⟨rfl,X⟩
 ·have Z:Hid (oK own seq os=qP own 0 os):=by show _=_;rw[oK,af eB,af eB]
  have hc:=En own a n cap os _ S (U.below X)
  go_in
  go_wp2_with(fail);refine Y.mono ?_;rintro e w1 ⟨rfl,rfl⟩;go_wp2_with(fail);refine hc.mono ?_;rintro e w2 ⟨rfl,k2⟩;go_wp2_with(fail);rw[Z.out];go_ret;exact⟨rfl,fP X k2⟩
theorem acz {x y z:eA} (hb:Below (w.alloc (γ #[x,y,z] t)).heap.size (w.alloc (γ #[x,y,z] t)) w1):
 w1.cell? ⟨w.heap.size,0,ν⟩=μ x/\w1.cell? ⟨w.heap.size,1,ν⟩=μ y/\w1.cell? ⟨w.heap.size,2,ν⟩=μ z/\w.heap.size<w1.heap.size:=by
 have Z:w.heap.size<(w.alloc (γ #[x,y,z] t)).heap.size:=ik;have hA:=λj=>ak w #[x,y,z] t (0,0) j;exact⟨(hb.cell (p:=⟨w.heap.size,0,ν⟩) Z).trans (hA 0),(hb.cell (p:=⟨w.heap.size,1,ν⟩) Z).trans (hA 1),(hb.cell (p:=⟨w.heap.size,2,ν⟩) Z).trans (hA 2),Nat.lt_of_lt_of_le Z hb.size⟩
def ahead(os:List jQ)(k:Nat):Int:=if k=0 then 0 else(os.getD (k-1) (0,0)).1
theorem Jm(a:Int)(w:ew):fc fe 222 #[ι κ a] w λe w'=>e=ρ (.bool false)/\w=w':=by
 have h:(a !=a)=false:=ik
 go_in
 go_wp2
 go_ret;exact⟨rfl,rfl⟩
theorem tV(a b:Int)(w:ew):fc fe 204 #[ι κ a,ι κ b] w λe w'=>e=ρ (ι κ (mH a b))/\w=w':=by
 by_cases Z:a<b
 ·have hv:mH a b= -1:=by simp[mH,Z]
  rw[hv];clear hv
  go_in
  go_wp2_with(go_at_call 222;refine(Jm _ _).mono ?_;rintro e w1 ⟨rfl,rfl⟩);go_ret;exact⟨rfl,rfl⟩
 ·by_cases Y:b<a
  ·have hv:mH a b=1:=by simp[mH,Z,Y]
   rw[hv];clear hv
   go_in
   go_wp2_with(go_at_call 222;refine(Jm _ _).mono ?_;rintro e w1 ⟨rfl,rfl⟩);go_ret;exact⟨rfl,rfl⟩
  ·have hv:mH a b=0:=by simp[mH,Z,Y]
   rw[hv];clear hv
   go_in
   go_wp2_with(go_at_call 222;refine(Jm _ _).mono ?_;rintro e w1 ⟨rfl,rfl⟩);go_ret;exact⟨rfl,rfl⟩
theorem acA(g cap:Nat)(x y:Int)(w:ew)(Z:w.cell? ⟨g,0,ν⟩=μ (ι κ x))(h1:w.cell? ⟨g,1,ν⟩=μ (ι κ y)):
 fc fe 215 #[σ (μ ⟨g,0,ν⟩) 2 cap] w λe w'=>e=ρ (ι κ (if x≠0 then x else y))/\w=w':=by
 have hg:g<w.heap.size:=ag w _ Z;cases q:(x !=0)
 ·have hx:x=0:=by simpa using q
  cases q2:(y !=0)
  ·have hy:y=0:=by simpa using q2
   have hv:(if x≠0 then x else y)=0:=by simp[hx,hy]
   rw[hv];clear hv hx hy
   go_in
   go_wp2_with(fail);refine cr 3 ?_;rw[bT];go_wp2_with(fail);rw[bT];go_wp2_with(fail);rw[bT]
   go_wp2
   go_ret;exact⟨rfl,rfl⟩
  ·have hv:(if x≠0 then x else y)=y:=by simp[hx]
   rw[hv];clear hv hx
   go_in
   go_wp2_with(fail);refine cr 3 ?_;rw[bT];go_wp2_with(fail);rw[bT]
   go_wp2
   go_ret;exact⟨rfl,rfl⟩
 ·have hx:¬x=0:=by simpa using q
  have hv:(if x≠0 then x else y)=x:=by simp[hx]
  rw[hv];clear hv hx
  go_in
  go_wp2_with(fail);refine cr 3 ?_;rw[bT]
  go_wp2
  go_ret;exact⟨rfl,rfl⟩
theorem Px(W:ew)(x y:eA)(t:eE)(g:Nat)(Z:W.heap.size=g):(W.alloc (γ #[x,y] t)).drew.cell? ⟨g,0,ν⟩=μ x/\(W.alloc (γ #[x,y] t)).drew.cell? ⟨g,1,ν⟩=μ y:=by
 subst Z;exact⟨ak W #[x,y] t (0,0) 0,ak W #[x,y] t (0,0) 1⟩
theorem UB(a b c d:Int)(w:ew):fc fe 214 #[.agg #[ι κ a,ι κ b],.agg #[ι κ c,ι κ d]] w λe w'=>e=ρ (ι κ (yO (a,b) (c,d)))/\eH w w':=by
 have M:eH w ((w.alloc (γ #[ι κ a,ι κ b] 123)).alloc (γ #[ι κ c,ι κ d] 123)):=(gK _ _).alloc ik _;obtain⟨p,S⟩:=fq (mH a c);obtain⟨q,Q⟩:=fq (mH b d);have hv:yO (a,b) (c,d)=if p≠0 then p else q:=by simp[yO,S,Q]
 have U:=λ(g cap:Nat) (W:ew) A V=>acA g cap p q W A V;rw[hv];generalize (if p≠0 then p else q)=r at U;have D:Hid _:=U;clear U;have V:=λW=>tV a c W;have H:=λW=>tV b d W;rw[S]at V;rw[Q]at H;clear hv S Q
 go_in
 go_wp2_with(fail);obtain⟨Z,Y⟩:=fq ((w.alloc (γ #[ι κ a,ι κ b] 123)).alloc (γ #[ι κ c,ι κ d] 123));have hs:Z.heap.size=w.heap.size+1+1:=by rw[<-Y];simp
 have x0:Z.cell? ⟨w.heap.size,0,ν⟩=μ (ι κ a):=by rw[<-Y];exact((gK _ _).cell (p:=⟨w.heap.size,0,ν⟩) ik).trans (ak w #[ι κ a,ι κ b] 123 (0,0) 0)
 have x1:Z.cell? ⟨w.heap.size,1,ν⟩=μ (ι κ b):=by rw[<-Y];exact((gK _ _).cell (p:=⟨w.heap.size,1,ν⟩) ik).trans (ak w #[ι κ a,ι κ b] 123 (0,0) 1)
 have J:Z.cell? ⟨w.heap.size+1,0,ν⟩=μ (ι κ c):=by rw[<-Y];simp
 have G:Z.cell? ⟨w.heap.size+1,1,ν⟩=μ (ι κ d):=by rw[<-Y];simp
 have y:w.heap.size<Z.heap.size:=ag Z _ x0;have u:w.heap.size+1<Z.heap.size:=ag Z _ J;rw[Y]at M⊢;have HS:Hid _:=hs;clear Y hs;obtain⟨X,T⟩:=fq (w.heap.size);have HX:Hid _:=T;rw[T]at x0 x1 J G y u⊢;clear T;have E:Z.drew.cell? ⟨X,0,ν⟩=μ (ι κ a)/\Z.drew.cell? ⟨X,1,ν⟩=μ (ι κ b)/\Z.drew.cell? ⟨X+1,0,ν⟩=μ (ι κ c)/\Z.drew.cell? ⟨X+1,1,ν⟩=μ (ι κ d):=⟨x0,x1,J,G⟩
 go_region_held3(λx=>x.cell? ⟨X,0,ν⟩=μ (ι κ a)/\x.cell? ⟨X,1,ν⟩=μ (ι κ b)/\x.cell? ⟨X+1,0,ν⟩=μ (ι κ c)/\x.cell? ⟨X+1,1,ν⟩=μ (ι κ d))
  (first|assumption|exact E|go_keep)
  (first
   |(go_at_call_of 204 a;refine(V _).mono ?_;rintro e w1 ⟨rfl,rfl⟩)
   |(go_at_call_of 204 b;refine(H _).mono ?_;rintro e w1 ⟨rfl,rfl⟩)
   |(go_at_call 215;refine(D.out _ _ _ (Px _ _ _ _ _ (by rfl)).1 (Px _ _ _ _ _ (by rfl)).2).mono ?_;rintro e w1 ⟨rfl,rfl⟩))
 all_goals
  go_wp2
  go_ret;exact⟨rfl,below_drewN (M.alloc M.size _) 1⟩
theorem Dd(a b:Option eh)(n m ca y:Nat)(es fs:List jQ)(w:ew)(E:jm w a n es)(hb:jm w b m fs)(hn:n<=1000000):
 fc fe 213 #[σ a n ca,σ b m y,.func (.func 214) #[] #[]] w λe w'=>e=ρ (ι κ (mI es fs))/\eH w w':=by
 have hla:=E.1;have Ns:=hb.1
 go_in
 go_wp2
 go_loopw [13] (λi wr=>∃k:Nat,k<=n/\k<=m/\i=ι κ k/\mI es fs=mI (es.drop k) (fs.drop k)/\eH w wr) (λi _=>n-(fh i).toNat)
 case atStart=>exact⟨0,Nat.zero_le _,Nat.zero_le _,rfl,rfl,au _ _⟩
 case round=>
  obtain⟨k,hk,hkm,rfl,H,X⟩:=hrel;have V:Hid _:=H;clear H;by_cases kL:k<n
  ·have n9:(k:Int)<(n:Int):=eB;rcases(E.below X).2 with u|⟨b1,o1,rfl,hA⟩
   {omega};obtain⟨c1,c2⟩:=hA k eB;have Y:Hid (es.drop k=es[k]'(by omega)::es.drop (k+1)):=aR eB;generalize es[k]'(by omega)=o at c1 c2 Y;clear hA;have U:=X.alloc X.size (γ #[ι κ o.1,ι κ o.2] 123);by_cases hlm:k<m
   ·have S:¬(m:Int)<=(k:Int):=eB;have ap1:(k:Int)<(m:Int):=eB;rcases(hb.below U).2 with u|⟨b2,o2,rfl,G⟩
    ·omega
    obtain⟨c3,c4⟩:=G k eB;have J:Hid (fs.drop k=fs[k]'(by omega)::fs.drop (k+1)):=aR eB;generalize fs[k]'(by omega)=q at c3 c4 J;clear G;have A:=U.alloc U.size (γ #[ι κ q.1,ι κ q.2] 123);have hc:=λW=>UB o.1 o.2 q.1 q.2 W;have Z:Hid (mI es fs=if yO (o.1,o.2) (q.1,q.2)≠0 then yO (o.1,o.2) (q.1,q.2)else mI (es.drop (k+1)) (fs.drop (k+1))):=by
     show _=_;rw[V.out,Y.out,J.out,mI]
    generalize yO (o.1,o.2) (q.1,q.2)=r at hc Z;cases D:(r !=0)
    ·have M:Hid (mI es fs=mI (es.drop (k+1)) (fs.drop (k+1))):=by
      show _=_;have T:r=0:=by simpa using D
      rw[Z.out,T];simp
     go_wp2_with(fail);refine(hc _).mono ?_;rintro e w1 ⟨rfl,k1⟩;have Q:=fP A k1;clear hc
     go_wp2
     go_roundw
     case rel=>exact⟨k+1,eB,eB,by go_num,M.out,Q⟩
     case measure=>simp[fh];omega
    ·have M:Hid (mI es fs=r):=by
      show _=_;have T:¬r=0:=by simpa using D
      rw[Z.out,ai T]
     go_wp2_with(fail);refine(hc _).mono ?_;rintro e w1 ⟨rfl,k1⟩;have Q:=fP A k1;clear hc;go_wp2_with(fail);rw[M.out];go_ret;exact⟨rfl,Q⟩
   ·have S:(m:Int)<=(k:Int):=eB;have Z:Hid (mI es fs=1):=by
     show _=_;rw[V.out,Y.out,bg (show fs.length<=k by omega),mI]
    go_wp2_with(fail);rw[Z.out];go_ret;exact⟨rfl,U⟩
  ·have yc:¬(k:Int)<(n:Int):=eB;have Y:es.drop k=[] :=bg eB;by_cases Pt:(n:Int)<(m:Int)
   ·have Z:Hid (mI es fs= -1):=by
     show _=_;rw[V.out,Y,aR (show k<fs.length by omega),mI]
    clear Y;go_wp2_with(fail);rw[Z.out];go_ret;exact⟨rfl,X⟩
   ·have Z:Hid (mI es fs=0):=by
     show _=_;rw[V.out,Y,bg (show fs.length<=k by omega),mI]
    clear Y;go_wp2_with(fail);rw[Z.out];go_ret;exact⟨rfl,X⟩
theorem Hv(o1 s1 o2 s2:Int)(a b:Option eh)(n m ca X:Nat)(es fs:List jQ)(w:ew)(S:jm w a n es)(hb:jm w b m fs)(Q:n<=1000000):
 fc fe 189 #[.agg #[ι κ o1,ι κ s1,σ a n ca],.agg #[ι κ o2,ι κ s2,σ b m X]] w λe w'=>e=ρ (ι κ (mC s1 es s2 fs))/\eH w w':=by
 have T:eH w ((w.alloc (γ #[ι κ o1,ι κ s1,σ a n ca] 40)).alloc (γ #[ι κ o2,ι κ s2,σ b m X] 40)):=(gK _ _).alloc ik _;have Y:=tV s1 s2 ((w.alloc (γ #[ι κ o1,ι κ s1,σ a n ca] 40)).alloc (γ #[ι κ o2,ι κ s2,σ b m X] 40));have V:=Dd a b n m ca X es fs _ (S.below T) (hb.below T) Q;have hv:mC s1 es s2 fs=if mH s1 s2≠0 then mH s1 s2 else mI es fs:=rfl
 rw[hv];clear hv;generalize mI es fs=q at V;generalize mH s1 s2=r at Y;cases U:(r !=0)
 ·have Z:(if r≠0 then r else q)=q:=by simp at U;simp[U]
  rw[Z];clear Z
  go_in
  go_wp2_with(fail);refine Y.mono ?_;rintro e w1 ⟨rfl,rfl⟩;clear Y;go_wp2_with(fail);refine V.mono ?_;rintro e w2 ⟨rfl,k2⟩;clear V
  go_wp2
  go_ret;exact⟨rfl,fP T k2⟩
 ·have Z:(if r≠0 then r else q)=r:=by simp at U;simp[U]
  rw[Z];clear Z V
  go_in
  go_wp2_with(fail);refine Y.mono ?_;rintro e w1 ⟨rfl,rfl⟩;clear Y
  go_wp2
  go_ret;exact⟨rfl,T⟩
theorem K3(a:eh)(n cap:Nat)(w:ew):(binOp .eql 38 (σ (μ a) n cap) (σ ν 0 0)).run fe w=.ok (.bool false) w:=ga
theorem YK(w:ew):(binOp .eql 38 (σ ν 0 0) (σ ν 0 0)).run fe w=.ok (.bool true) w:=ga
theorem Ck(a:eh)(cap:Nat)(w:ew):
 fc fe 206 #[σ (μ a) 0 cap] w λe w'=>∃(v:eA),e=ρ v/\Made w w' v [] :=by
 have hq:=K3
 go_in
 go_wp2
 go_ret;exact⟨_,rfl,⟨Row.made w 2 _ #[] (0,0) 0 0 [] rfl rfl (Nat.le_refl _) eF (.inl rfl) ik,λj Z=>kS (Nat.le_refl _) Z,gK _ _⟩⟩
theorem Nt(w:ew):
 fc fe 206 #[σ ν 0 0] w λe w'=>∃(v:eA),e=ρ v/\Made w w' v [] :=by
 have hq:=YK
 go_in
 go_wp2
 go_ret;exact⟨_,rfl,⟨Row.nil w 2,λj Z=>ny Z,au _ _⟩⟩
theorem K5(b off n cap:Nat)(os:List jQ)(w:ew)(hn:n<=1000000)(T:0<n)(Y:jm w (μ ⟨b,off,ν⟩) n os):
 fc fe 206 #[σ (μ ⟨b,off,ν⟩) n cap] w λe w'=>∃(v:eA),e=ρ v/\Made w w' v os:=by
 obtain⟨i0,hi,E,G,H⟩:=aX zP;have hq:=K3;have U:eH w (w.alloc (γ #[] 123)):=gK _ _;have hl:=Y.1;have S:Row (w.alloc (γ #[] 123)) 2 (σ (μ ⟨w.heap.size,0,ν⟩) 0 0) 0 [] :=Row.made w 2 _ #[] (0,0) 0 0 [] rfl rfl (Nat.le_refl _) eF (.inl rfl) ik
 go_in
 go_wp2_with(at_builtin;go_must(refine iU _ rfl (.tmp 5) (.tmp 6) 38 rfl 123 i0 (.agg #[ι κ 0,ι κ 0]) 2 16 underlying38 hi E G H rfl eF (σ (μ ⟨w.heap.size,0,ν⟩) 0 0) 0 [] rfl S _ n cap (je os) rfl (by rw[lH];omega) T ((Y.below U).cells T) (KB _) (by unfold maxLen;omega) eB ?_));intro g1 C9 w1 M V X;have Q:=mF U V (λj Z=>kS (Nat.le_refl _) Z);have J:=oo (B:=w.heap.size) X eB (λj Z=>kS (Nat.le_refl _) Z);clear V X
 go_wp2
 go_ret;refine⟨_,rfl,⟨?_,λj Z=>kS J Z,Q⟩⟩;rw[hl];exact M
theorem Nu(a:Option eh)(n cap:Nat)(os:List jQ)(w:ew)(V:n<=1000000)(U:kY a cap)(Z:jm w a n os):
 fc fe 206 #[σ a n cap] w λe w'=>∃(v:eA),e=ρ v/\Made w w' v os:=by
 rcases Z.2 with X|⟨b,off,rfl,hc⟩
 ·subst X;have Y:os=[] :=aJ Z.1;subst Y;cases a with
  |none=>
   obtain rfl:=U rfl;exact Nt w
  |some a=>exact Ck a cap w
 ·by_cases T:0<n;{exact K5 b off n cap os w V T Z};{have X:n=0:=eB;subst X;have Y:os=[] :=aJ Z.1;subst Y;exact Ck _ cap w}
structure UC(w w':ew)(e:Ending)(own seq:Int)(os:List jQ):Prop where
 out:∃(a:Option eh) (cap:Nat),e=ρ (.agg #[ι κ own,ι κ seq,σ a os.length cap])/\jm w' a os.length os/\kY a cap/\os.length<=cap/\(∀j,eD (σ a os.length cap)=μ j->w.heap.size<=j/\j<w'.heap.size)
 below:eH w w'
theorem Eo(own seq:Int)(a:Option eh)(n cap:Nat)(os:List jQ)(w:ew)(hn:n<=1000000)(kH:kY a cap)(ho:jm w a n os):
 fc fe 169 #[.agg #[ι κ own,ι κ seq,σ a n cap]] w λe w'=>UC w w' e own seq os:=by
 have hz:=qo;have H:eH w ((w.alloc (γ #[ι κ own,ι κ seq,σ a n cap] 40)).alloc (γ #[ι κ 0,ι κ 0,σ ν 0 0] 40)):=(gK _ _).alloc ik _;obtain⟨M,S⟩:=fq ((w.alloc (γ #[ι κ own,ι κ seq,σ a n cap] 40)).alloc (γ #[ι κ 0,ι κ 0,σ ν 0 0] 40));have X:M.heap[w.heap.size]? =μ (γ #[ι κ own,ι κ seq,σ a n cap] 40 (0,0)):=by
  rw[<-S,aV _ _ _ ik];exact aY w _
 have Y:M.heap[w.heap.size+1]? =μ (γ #[ι κ 0,ι κ 0,σ ν 0 0] 40 (0,0)):=by
  have h:=aY (w.alloc (γ #[ι κ own,ι κ seq,σ a n cap] 40)) (γ #[ι κ 0,ι κ 0,σ ν 0 0] 40);rw[S]at h;simpa using h
 rw[S]at H;have A:=Nu a n cap os M hn kH (ho.below H);have HW:Hid _:=S;clear S
 go_in
 go_wp2_with(fail);rw[HW.out];refine A.mono ?_;rintro e w1 ⟨v,rfl,V⟩;clear A;obtain⟨Q,vc,rfl,vn,vl⟩:=V.shape;have k1:=V.below;have T:=(k1.block _ (ay.1 X).1).trans X;have Z:=(k1.block _ (ay.1 Y).1).trans Y;have x0:w1.cell? ⟨w.heap.size,0,ν⟩=μ (ι κ own):=ax w1 _ 0 _ _ (0,0) T;have x1:w1.cell? ⟨w.heap.size,1,ν⟩=μ (ι κ seq):=ax w1 _ 1 _ _ (0,0) T;have x2:w1.cell? ⟨w.heap.size,2,ν⟩=μ (σ a n cap):=ax w1 _ 2 _ _ (0,0) T;have y0:w1.cell? ⟨w.heap.size+1,0,ν⟩=μ (ι κ 0):=ax w1 _ 0 _ _ (0,0) Z;have y1:w1.cell? ⟨w.heap.size+1,1,ν⟩=μ (ι κ 0):=ax w1 _ 1 _ _ (0,0) Z;have y2:w1.cell? ⟨w.heap.size+1,2,ν⟩=μ (σ ν 0 0):=ax w1 _ 2 _ _ (0,0) Z;have fx:=λj=>bF w1 w.heap.size j _ _ T;have fy:=λj=>bF w1 (w.heap.size+1) j _ _ Z;have lx:w.heap.size<w1.heap.size:=ag w1 _ x0;have ly:w.heap.size+1<w1.heap.size:=ag w1 _ y0;have E:=fP H k1;have J:∀j,eD (σ Q os.length vc)=μ j->w.heap.size+2<=j:=λj U=>by
  have h1:=V.new j U;have h2:w.heap.size+1<M.heap.size:=(ay.1 Y).1;omega
 have D:∀j,eD (σ Q os.length vc)=μ j->j<w1.heap.size:=V.row.lt;have yR:=V.opts.2;have HC:Hid (∀u v x y:eA,UC w ((((w1.setCell ⟨w.heap.size,2,ν⟩ u).setCell ⟨w.heap.size+1,0,ν⟩ v).setCell ⟨w.heap.size+1,1,ν⟩ x).setCell ⟨w.heap.size+1,2,ν⟩ y) (ρ (.agg #[ι κ own,ι κ seq,σ Q os.length vc])) own seq os):=by
  intro u v x y;refine⟨⟨Q,vc,rfl,?_,vn,vl,λj U=>⟨by have:=J j U;omega,by simpa using D j U⟩⟩,(((E.setCell (Nat.le_refl _) _).setCell (by show _<=w.heap.size+1;omega) _).setCell (by show _<=w.heap.size+1;omega) _).setCell (by show _<=w.heap.size+1;omega) _⟩;refine⟨rfl,?_⟩;rcases yR.2 with h0|⟨b,off,rfl,hc⟩
  ·exact .inl h0
  ·refine .inr ⟨b,off,rfl,λj U=> ?_⟩;have hb:w.heap.size+2<=b:=J b rfl;have G:∀o,((((w1.setCell ⟨w.heap.size,2,ν⟩ u).setCell ⟨w.heap.size+1,0,ν⟩ v).setCell ⟨w.heap.size+1,1,ν⟩ x).setCell ⟨w.heap.size+1,2,ν⟩ y).cell? ⟨b,o,ν⟩=w1.cell? ⟨b,o,ν⟩:=λo=>by
    apply aj;rw[aq _ _ _ _ (by show b≠w.heap.size+1;omega),aq _ _ _ _ (by show b≠w.heap.size+1;omega),aq _ _ _ _ (by show b≠w.heap.size+1;omega),aq _ _ _ _ (by show b≠w.heap.size;omega)]
   rw[G,G];exact hc j U
 clear V k1 T Z J D yR E X Y;go_wp2_with(fail);refine aE (v:=.agg #[ι κ own,ι κ seq,σ Q os.length vc]) (by simp[results,results169,go_sem,y0,y1,y2]) rfl ?_;exact HC.out _ _ _ _
theorem UD {x0 x1 x2 y0 y1 y2:eA} (hb:Below ((w.alloc (γ #[x0,x1,x2] t)).alloc (γ #[y0,y1,y2] t)).heap.size ((w.alloc (γ #[x0,x1,x2] t)).alloc (γ #[y0,y1,y2] t)) w1):
 (w1.cell? ⟨w.heap.size,2,ν⟩=μ x2/\w.heap.size<w1.heap.size)/\(w1.cell? ⟨w.heap.size+1,2,ν⟩=μ y2/\w.heap.size+1<w1.heap.size):=by
 have Z:=acz hb;have X:(w.alloc (γ #[x0,x1,x2] t)).heap.size=w.heap.size+1:=ik;rw[X]at Z;have Y:=acz (w1:=w1) (fP (gK _ _) hb);exact⟨⟨Y.2.2.1,Y.2.2.2⟩,⟨Z.2.2.1,Z.2.2.2⟩⟩
theorem yq(o1 s1 o2 s2:Int)(a b:Option eh)(n m ca S:Nat)(es fs:List jQ)(w:ew)(ha:jm w a n es)(hb:jm w b m fs)(hn:n<=1000000)(hm:m<=1000000):
 fc fe 51 #[.agg #[ι κ o1,ι κ s1,σ a n ca],.agg #[ι κ o2,ι κ s2,σ b m S]] w λe w'=>e=ρ (.bool (decide (o1=o2/\s1=s2/\es=fs)))/\eH w w':=by
 have M:=ha.1;have Ns:=hb.1;have Y:eH w ((w.alloc (γ #[ι κ o1,ι κ s1,σ a n ca] 40)).alloc (γ #[ι κ o2,ι κ s2,σ b m S] 40)):=(gK _ _).alloc ik _;cases q1:(o1 !=o2)
 ·have V:o1=o2:=by simpa using q1
  cases q2:(s1 !=s2)
  ·have Q:s1=s2:=by simpa using q2
   by_cases q3:n=m
   ·subst q3;have G:((n:Int) !=(n:Int))=false:=ik;have Z:decide (o1=o2/\s1=s2/\es=fs)=decide (es=fs):=by simp[V,Q]
    rw[Z];clear Z V Q
    go_in
    go_wp2_with(fail);obtain⟨y,H⟩:=fq ((w.alloc (γ #[ι κ o1,ι κ s1,σ a n ca] 40)).alloc (γ #[ι κ o2,ι κ s2,σ b n S] 40));have qO:=UD (w1:=y) (by rw[<-H];exact au _ _);obtain⟨⟨x2,xl⟩,⟨y2,yl⟩⟩:=qO;rw[H]at Y⊢;clear H
    go_loopw [5] (λi wr=>∃k j:Nat,k<=n/\i=ι κ k/\es.take k=fs.take k/\wr=y.drewN j) (λi _=>n-(fh i).toNat)
    case atStart=>exact⟨0,0,Nat.zero_le _,rfl,rfl,rfl⟩
    case round=>
     obtain⟨k,j,hk,rfl,hT,rfl⟩:=hrel;have A:Hid _:=hT;clear hT;by_cases kL:k<n
     ·rcases(ha.below Y).2 with h0|⟨b1,f1,rfl,hA⟩
      ·omega
      rcases(hb.below Y).2 with h0|⟨b2,f2,rfl,u⟩
      ·omega
      obtain⟨c1,c2⟩:=hA k eB;obtain⟨c3,c4⟩:=u k eB;have E:Hid (es.take (k+1)=es.take k++ [es[k]'(by omega)]):=az eB;have D:Hid (fs.take (k+1)=fs.take k++ [fs[k]'(by omega)]):=az eB;have X:Hid (es=fs->es[k]'(by omega)=fs[k]'(by omega)):=λh=>by subst h;rfl
      clear hA u;generalize es[k]'(by omega)=o at c1 c2 E X;generalize fs[k]'(by omega)=q at c3 c4 D X;have n9:(k:Int)<(n:Int):=eB;cases U:(o.1==q.1)
      ·have J:Hid (decide (es=fs)=false):=by
        show _=_;rw[bk];intro h;have:=X.out h;rw[this]at U;simp at U
       go_wp2
       go_quiet(fail)
       go_wp2_with(fail);rw[J.out];go_ret;exact⟨rfl,below_drewN (below_drewN Y _) _⟩
      ·cases T:(o.2==q.2)
       ·have J:Hid (decide (es=fs)=false):=by
         show _=_;rw[bk];intro h;have:=X.out h;rw[this]at T;simp at T
        go_wp2
        go_quiet(fail)
        go_wp2_with(fail);rw[J.out];go_ret;exact⟨rfl,below_drewN (below_drewN Y _) _⟩
       ·have HE:Hid (es.take (k+1)=fs.take (k+1)):=by
         show _=_;rw[E.out,D.out,A.out];simp at U T;congr 2;exact aU U T
        go_wp2
        go_quiet(fail)
        go_wp2
        go_roundw
        case rel=>exact⟨k+1,_,eB,by go_num,HE.out,rfl⟩
        case measure=>simp[fh];omega
     ·have um:decide (es=fs)=true:=by
       have h1:es.take k=es:=aH eB;have h2:fs.take k=fs:=aH eB;have:=A.out;rw[h1,h2]at this;simp[this]
      have yc:¬(k:Int)<(n:Int):=eB
      go_wp2
      go_ret;exact⟨rfl,below_drewN Y _⟩
   ·have G:((n:Int) !=(m:Int))=true:=by rw[dW];omega
    have Z:decide (o1=o2/\s1=s2/\es=fs)=false:=by
     rw[bk];rintro⟨_,_,h⟩;exact q3 (by rw[<-M,<-Ns,h])
    rw[Z];clear Z V Q
    go_in
    go_wp2
    go_ret;exact⟨rfl,Y⟩
  ·have Z:decide (o1=o2/\s1=s2/\es=fs)=false:=by
    rw[bk];rintro⟨_,h,_⟩;simp[h]at q2
   rw[Z];clear Z V
   go_in
   go_wp2
   go_ret;exact⟨rfl,Y⟩
 ·have Z:decide (o1=o2/\s1=s2/\es=fs)=false:=by
   rw[bk];rintro⟨h,_⟩;simp[h]at q1
  rw[Z];clear Z
  go_in
  go_wp2
  go_ret;exact⟨rfl,Y⟩
open Go.Maps (Keyed)
open Go.ChangeMaps Go.MapKept
open Go.WideElems (Fit)
structure SV where
 own:Int
 seq:Int
 a:Option eh
 n:Nat
 cap:Nat
def SV.v(s:SV):eA:=.agg #[ι κ s.own,ι κ s.seq,σ s.a s.n s.cap]
def SV.zero:SV:=⟨0,0,ν,0,0⟩
def acC:eA->Option SV
 | .agg cs=>(match cs.toList with
   |[.int .i64 o,.int .i64 q,.slice a n c] =>some ⟨o,q,a,n,c⟩
   |_=>none)
 |_=>none
theorem UE {v:eA} {s:SV} (h:acC v=μ s):v=s.v:=by
 unfold acC at h;split at h
 ·rename_i cs
  split at h
  ·rename_i o q a n c e
   obtain rfl:=Option.some.inj h;have:cs= #[ι κ o,ι κ q,σ a n c] :=by
    apply dG.1;simpa using e
   rw[this];rfl
  ·cases h
 ·cases h
def tW(v:eA):Option (DataW SV×List MemPlace):=(acC v).map λs=>(.held s,[])
theorem zR(s:SV):tW s.v=μ (.held s,[]):=rfl
theorem xK {v:eA} {y:DataW SV×List MemPlace} (h:tW v=μ y):∃s,v=s.v/\y=(.held s,[]):=by
 unfold tW at h;obtain⟨s,hs,rfl⟩:=Option.map_eq_some_iff.1 h;exact⟨s,UE hs,rfl⟩
theorem vu:Keyed fe 3:=Go.Maps.int_keyed underlying3
theorem K6(w:ew):(zeroValue 40).run fe w=.ok SV.zero.v w:=ga
def sd(k:Int):Prop:= -9223372036854775808<=k/\k<=9223372036854775807
theorem Er(h:sd k):keyOf fe 3 (.int .i64 k)=μ (.int .i64 k):=by
 refine Go.Maps.keyOf_int_mk underlying3 ?_;exact WalkArith.wf_i64 (by obtain⟨h1,h2⟩:=h;omega)
structure SMap(w:ew)(b n:Nat)(f:Int->Option SV):Prop where
 own:∃D:DataW SV,w.ownsMap fe 3 tW b n D/\∀k,sd k->match f k with
  |none=>∀z,D.atKey (.int .i64 k) z=z
  |some s=>∀z,D.atKey (.int .i64 k) z=.held s
theorem SMap.made(w:ew):SMap (w.alloc (.map #[] 0)) w.heap.size 0 (λ_=>ν):=
 ⟨⟨.map [],World.ownsMap_made w _ _ _,λ_ _ _=>rfl⟩⟩
theorem SMap.lt {w:ew} {b n:Nat} {f:Int->Option SV} (h:SMap w b n f):b<w.heap.size:=by obtain⟨D,Z,_⟩:=h.own;exact Z.lt
theorem SMap.mono {w:ew} {b n m:Nat} {f:Int->Option SV} (h:SMap w b n f)(X:n<=m):SMap w b m f:=by obtain⟨D,Z,Y⟩:=h.own;exact⟨⟨D,Z.mono X,Y⟩⟩
theorem SMap.kept {w w':ew} {b n:Nat} {f:Int->Option SV} {row:Option Nat} (h:SMap w b n f)(X:w.grownBy w' row)(V:μ b≠row):SMap w' b n f:=by obtain⟨D,Z,Y⟩:=h.own;exact⟨⟨D,Z.kept X V,Y⟩⟩
theorem SMap.keep {f:Int->Option SV} (h:SMap w b n f)(hb:w'.heap[b]? =w.heap[b]?):SMap w' b n f:=by
 obtain⟨D,⟨es,clock,Z,X⟩,Y⟩:=h.own;exact⟨⟨D,⟨es,clock,hb.trans Z,X⟩,Y⟩⟩
theorem SMap.below {f:Int->Option SV} (h:SMap w b n f)(hb:eH w w'):SMap w' b n f:=h.keep (hb.block b h.lt)
theorem SMap.drew {w:ew} {b n:Nat} {f:Int->Option SV} (h:SMap w b n f):SMap w.drew b n f:=h.keep rfl
theorem SMap.alloc {w:ew} {b n:Nat} {f:Int->Option SV} (h:SMap w b n f)(o:Obj):SMap (w.alloc o) b n f:=h.below (gK _ _)
theorem Jo(h:x≠k):(Lit.int .i64 x)≠ .int .i64 k:=λe=>h (by simpa using e)
theorem YL(k:Int)(h:sd k):WideAt.IsKeyLit (.int .i64 k):=vu.key (Er h)
theorem SMap.store {w:ew} {b n:Nat} {f:Int->Option SV} (h:SMap w b n f)(U:n<maxLen)(k:Int)(Y:sd k)(s:SV):
 ∃w',(fD 211 (.map (μ b)) (ι κ k) s.v).run fe w=.ok () w'/\SMap w' b (n+1) (λx=>if x=k then μ s else f x)/\w.mapTurned w' b:=by
 obtain⟨D,Z,X⟩:=h.own;obtain⟨w',S,T,Q⟩:=Z.store vu underlying211 U (Er Y) (zR s);refine⟨w',S,⟨⟨_,T,λx hx=> ?_⟩⟩,Q⟩;have V:=Z.isMap;by_cases e:x=k;{subst e;simp only[if_true];exact λz=>Maps.atKey_put_same V (YL x Y) _ z}
 ·rw[af e];have:=X x hx;cases hf:f x with
  |none=>rw[hf]at this;exact λz=>(fE (Jo e) _ z).trans (this z)
  |some s'=>rw[hf]at this;exact λz=>(fE (Jo e) _ z).trans (this z)
theorem SMap.look {f:Int->Option SV} (h:SMap w b n f)(k:Int)(Z:sd k):
 (fF 211 (.map (μ b)) (ι κ k) false).run fe w=.ok ((f k).getD SV.zero).v w:=by
 obtain⟨D,Y,X⟩:=h.own;obtain⟨v,ps,V,hv⟩:=Y.lookup vu underlying211 (K6 w) (zR SV.zero) (Er Z);rw[V];obtain⟨s,rfl,e⟩:=xK hv;have hx:=X k Z;simp only[fC]at e;cases hf:f k with
 |none=>
  rw[hf]at hx;rw[hx]at e;have:SV.zero=s:=by simpa using e.1
  rw[<-this];rfl
 |some s'=>
  rw[hf]at hx;rw[hx]at e;have:s'=s:=by simpa using e.1
  rw[this];rfl
theorem SMap.look_ok {w:ew} {b n:Nat} {f:Int->Option SV} (h:SMap w b n f)(k:Int)(Z:sd k):
 (fF 211 (.map (μ b)) (ι κ k) true).run fe w=.ok (τ #[((f k).getD SV.zero).v,.bool (f k).isSome]) w:=by
 obtain⟨D,Y,X⟩:=h.own;obtain⟨v,ps,V,hv⟩:=Y.look_ok vu underlying211 (K6 w) (zR SV.zero) (Er Z);rw[V];obtain⟨s,rfl,e⟩:=xK hv;have hx:=X k Z;simp only[fC]at e;cases hf:f k with
 |none=>
  rw[hf]at hx;rw[hx]at e;have:SV.zero=s:=by simpa using e.1
  rw[<-this,dL hx];rfl
 |some s'=>
  rw[hf]at hx;rw[hx]at e;have:s'=s:=by simpa using e.1
  rw[this,dO hx];rfl
theorem SMap.drop {w:ew} {b n:Nat} {f:Int->Option SV} (h:SMap w b n f)(k:Int)(X:sd k)(ty:eE):
 ∃w',(Builtin.delete_ #[211,3] ty #[.map (μ b),ι κ k]).run fe w=.ok (τ #[]) w'/\SMap w' b n (λx=>if x=k then ν else f x)/\w.mapTurned w' b:=by
 obtain⟨D,Z,Y⟩:=h.own;obtain⟨w',U,V,T⟩:=Z.drop vu underlying211 (Er X) ty;refine⟨w',U,⟨⟨_,V,λx hx=> ?_⟩⟩,T⟩;by_cases e:x=k;{subst e;simp only[if_true];exact λz=>Maps.atKey_del_same z}
 ·rw[af e];have:=Y x hx;cases hf:f x with
  |none=>rw[hf]at this;exact λz=>(fG (Jo e) z).trans (this z)
  |some s'=>rw[hf]at this;exact λz=>(fG (Jo e) z).trans (this z)
theorem SMap.clear {f:Int->Option SV} (h:SMap w b n f)(ty:eE):
 ∃w',(fH #[211] ty #[.map (μ b)]).run fe w=.ok (τ #[]) w'/\SMap w' b n (λ_=>ν)/\w.mapTurned w' b:=by
 obtain⟨D,⟨es,clock,hb,F,hs,hD⟩,h2⟩:=h.own;refine⟨setBlock w b (.map #[] clock),?_,⟨⟨.map [],⟨#[],clock,heap_setBlock_same hb _,⟨ik,?_,ik⟩,ik,rfl⟩,λ_ _ _=>rfl⟩⟩,⟨es,clock,#[],clock,hb,rfl⟩⟩;{simp[fH,run_underlying underlying211,MapKept.run_getObj_map hb,MapKept.run_setObj_map _ hb,Result.andThen,setBlock]};{exact stamped_empty clock}
open Go.ChangeShapes Go.WideShapes Go.ChangeAt
theorem Bf(own seq:Int)(a:Option eh)(n cap:Nat)(os:List jQ)(w:ew)(S:n<=maxLen)(U:jm w a n os):
 fc fe 117 #[.agg #[ι κ own,ι κ seq,σ a n cap]] w λe w'=>e=ρ (jB (oK own seq os))/\eH w w':=by
 by_cases h6:n<=6;{exact yQ own seq a n cap os w eB U}
 unfold maxLen at S;have X:=gK w (γ #[ι κ own,ι κ seq,σ a n cap] 40);have V:Hid (jB 1=.iface 128 (ι κ 1)):=rfl;have T:Hid (jB 2=.iface 128 (ι κ 2)):=rfl;have hl:=U.1;have Y:=vt own (w.alloc (γ #[ι κ own,ι κ seq,σ a n cap] 40));have one:(own<1 \/6<own \/seq<1 \/1000000<seq)->Hid (oK own seq os=1):=λhh=>by show _=_;rw[oK,ai hh]
 by_cases r1:own<1 \/6<own
 ·have Z:=one eB;rw[Bc own r1]at Y;clear one
  go_in
  go_wp2_with(fail);refine Y.mono ?_;rintro e w1 ⟨rfl,rfl⟩;go_wp2_with(fail);rw[Z.out,V.out];go_ret;exact⟨rfl,X⟩
 rw[Em own eB eB]at Y;by_cases r2:seq<1
 ·have Z:=one eB;clear one
  go_in
  go_wp2_with(fail);refine Y.mono ?_;rintro e w1 ⟨rfl,rfl⟩;go_wp2_with(fail);rw[Z.out,V.out];go_ret;exact⟨rfl,X⟩
 by_cases r3:1000000<seq
 ·have Z:=one eB;clear one
  go_in
  go_wp2_with(fail);refine Y.mono ?_;rintro e w1 ⟨rfl,rfl⟩;go_wp2_with(fail);rw[Z.out,V.out];go_ret;exact⟨rfl,X⟩
 clear one;have r4:(6:Int)<(n:Int):=eB;have Z:Hid (oK own seq os=2):=by show _=_;rw[oK,af eB,ai eB]
 go_in
 go_wp2_with(fail);refine Y.mono ?_;rintro e w1 ⟨rfl,rfl⟩;go_wp2_with(fail);rw[Z.out,T.out];go_ret;exact⟨rfl,X⟩
structure FM where
 bm:Nat
 g:Nat
 cap:Nat
 bs:List Nat
 no:Nat->Prop:=λ_=>False
def FM.sl(m:FM):eA:=σ (μ ⟨m.g,0,ν⟩) m.bs.length m.cap
def FM.row(m:FM):List eA:=m.bs.map λb=>fI (μ b)
structure FB(w:ew)(B:Nat)(m:FM)(n:Nat)(kn:Int->Option SV)(ow:Nat->Int->Option SV):Prop where
 oE:w.heap[B]? =μ (γ #[.map (μ m.bm),m.sl] 214 (0,0))
 row:Row w 1 m.sl m.bs.length m.row
 km:SMap w m.bm n kn
 om:∀i b,m.bs[i]? =μ b->SMap w b n (ow i)
 few:m.bs.length<=3
 nB:m.bm≠B/\m.g≠B/\m.bm≠m.g/\(∀b∈m.bs,b≠B/\b≠m.g/\b≠m.bm)
 nd:m.bs.Nodup
theorem FB.lt {m:FM} {kn:Int->Option SV} {ow:Nat->Int->Option SV} (h:FB w B m n kn ow):B<w.heap.size:=(ay.1 h.oE).1
theorem FB.c0 {m:FM} {kn:Int->Option SV} {ow:Nat->Int->Option SV} (h:FB w B m n kn ow):w.cell? ⟨B,0,ν⟩=μ (.map (μ m.bm)):=ax w B 0 _ _ (0,0) h.oE
theorem FB.c1 {m:FM} {kn:Int->Option SV} {ow:Nat->Int->Option SV} (h:FB w B m n kn ow):w.cell? ⟨B,1,ν⟩=μ m.sl:=ax w B 1 _ _ (0,0) h.oE
theorem FB.below {w w':ew} {B:Nat} {m:FM} {n:Nat} {kn:Int->Option SV} {ow:Nat->Int->Option SV} (h:FB w B m n kn ow)(hb:eH w w'):FB w' B m n kn ow:=
 ⟨(hb.block B h.lt).trans h.oE,h.row.below hb,h.km.below hb,λi b e=>(h.om i b e).below hb,h.few,h.nB,h.nd⟩
theorem FB.port {m:FM} {kn:Int->Option SV} {ow:Nat->Int->Option SV} (h:FB w B m n kn ow)(i:Nat)(b:Nat)(e:m.bs[i]? =μ b):w.cell? ⟨m.g,i,ν⟩=μ (.map (μ b)):=by
 refine Row.cell h.row i _ ?_;unfold FM.row;rw[cJ,e];rfl
theorem DC(B:Nat)(m:FM)(n:Nat)(kn:Int->Option SV)(ow:Nat->Int->Option SV)(port:Int)(w:ew)(h:FB w B m n kn ow):
 fc fe 176 #[π (μ ⟨B,0,ν⟩),ι κ port] w λe w'=>e=ρ (.bool (decide (0<=port)&&decide (port<(m.bs.length:Int))))/\w=w':=by
 have hl:=h.lt;have c1:w.cell? ⟨B,1,ν⟩=μ (σ (μ ⟨m.g,0,ν⟩) m.bs.length m.cap):=h.c1;have hf:=h.few;by_cases Z:0<=port
 ·by_cases Y:port<(m.bs.length:Int)
  ·have hv:(decide (0<=port)&&decide (port<(m.bs.length:Int)))=true:=by simp[Z,Y]
   rw[hv];clear hv h
   go_in
   go_wp2
   go_ret;exact⟨by first|rfl|(simp;omega),rfl⟩
  ·have hv:(decide (0<=port)&&decide (port<(m.bs.length:Int)))=false:=by simp[Y]
   rw[hv];clear hv h
   go_in
   go_wp2
   go_ret;exact⟨by first|rfl|(simp;omega),rfl⟩
 ·have hv:(decide (0<=port)&&decide (port<(m.bs.length:Int)))=false:=by simp[Z]
  rw[hv];clear hv h
  go_in
  go_wp2
  go_ret;exact⟨by first|rfl|(simp;omega),rfl⟩
def wD(afV:Nat)(port own seq:Int)(es:List jQ):Nat:=if 0<=port/\port<(afV:Int)then oK own seq es else 1
theorem ru(B:Nat)(m:FM)(k:Nat)(kn:Int->Option SV)(ow:Nat->Int->Option SV)(port own seq:Int)(a:Option eh)(n cap:Nat)(es:List jQ)(w:ew)(h:FB w B m k kn ow)(V:n<=maxLen)(U:jm w a n es):
 fc fe 216 #[π (μ ⟨B,0,ν⟩),ι κ port,.agg #[ι κ own,ι κ seq,σ a n cap]] w λe w'=>e=ρ (jB (wD m.bs.length port own seq es))/\eH w w':=by
 have Z:=gK w (γ #[ι κ own,ι κ seq,σ a n cap] 40);have hh:=DC B m k kn ow port _ (h.below Z);have hc:=Bf own seq a n cap es _ V (U.below Z);have X:Hid (jB 1=.iface 128 (ι κ 1)):=rfl;by_cases Y:0<=port/\port<(m.bs.length:Int)
 ·have hv:(decide (0<=port)&&decide (port<(m.bs.length:Int)))=true:=by simp[Y.1,Y.2]
  have hf:wD m.bs.length port own seq es=oK own seq es:=by rw[wD,ai Y]
  rw[hv]at hh;rw[hf];clear hv hf h
  go_in
  go_wp2_with(fail);refine hh.mono ?_;rintro e w1 ⟨rfl,rfl⟩;go_wp2_with(fail);refine hc.mono ?_;rintro e w2 ⟨rfl,k2⟩
  go_wp2
  go_ret;exact⟨rfl,fP Z k2⟩
 ·have hv:(decide (0<=port)&&decide (port<(m.bs.length:Int)))=false:=by
   simp only[Bool.and_eq_false_iff,decide_eq_false_iff_not];omega
  have hf:Hid (wD m.bs.length port own seq es=1):=by show _=_;rw[wD,af Y]
  rw[hv]at hh;clear hv h
  go_in
  go_wp2_with(fail);refine hh.mono ?_;rintro e w1 ⟨rfl,rfl⟩;go_wp2_with(fail);rw[hf.out,X.out];go_ret;exact⟨rfl,Z⟩
theorem Nv(B:Nat)(m:FM)(k:Nat)(kn:Int->Option SV)(ow:Nat->Int->Option SV)(own seq:Int)(a:Option eh)(n cap:Nat)(w:ew)(h:FB w B m k kn ow)(U:sd own)(V:kn own=ν):
 fc fe 217 #[π (μ ⟨B,0,ν⟩),.agg #[ι κ own,ι κ seq,σ a n cap]] w λe w'=>e=ρ (ι κ 1)/\eH w w':=by
 have hz:=qo;have hb:=gK w (γ #[ι κ own,ι κ seq,σ a n cap] 40);have Y:=h.below hb;obtain⟨Z,X⟩:=fq (w.alloc (γ #[ι κ own,ι κ seq,σ a n cap] 40));have x0:Z.cell? ⟨w.heap.size,0,ν⟩=μ (ι κ own):=by rw[<-X];exact ak w #[ι κ own,ι κ seq,σ a n cap] 40 (0,0) 0
 rw[X]at hb Y;have T:Hid _:=X;clear X;have pV:(fF 211 (.map (μ m.bm)) (ι κ own) true).run fe Z.drew=.ok (τ #[.agg #[ι κ 0,ι κ 0,σ ν 0 0],.bool false]) Z.drew:=by
  have:=Y.km.drew.look_ok own U;rw[V]at this;exact this
 have akz:(fF 211 (.map (μ m.bm)) (ι κ own) true).run fe (Z.alloc (γ #[ι κ 0,ι κ 0,σ ν 0 0] 40)).drew=.ok (τ #[.agg #[ι κ 0,ι κ 0,σ ν 0 0],.bool false]) (Z.alloc (γ #[ι κ 0,ι κ 0,σ ν 0 0] 40)).drew:=by
  have:=(Y.km.alloc (γ #[ι κ 0,ι κ 0,σ ν 0 0] 40)).drew.look_ok own U;rw[V]at this;exact this
 have c0:=Y.c0;have hl:=Y.lt;have hx:w.heap.size<Z.heap.size:=ag Z _ x0;clear h Y V
 go_in
 go_wp2_with(fail);rw[T.out]
 go_region
 all_goals
  go_wp2
  go_ret;exact⟨rfl,below_drewN (hb.alloc hb.size _) 1⟩
theorem Nw(B:Nat)(m:FM)(k:Nat)(kn:Int->Option SV)(ow:Nat->Int->Option SV)(own seq:Int)(a:Option eh)(n cap:Nat)(es:List jQ)(t:SV)(fs:List jQ)(w:ew)(h:FB w B m k kn ow)(H:sd own)(S:kn own=μ t)(J:jm w a n es)(E:n<=1000000)(Q:jm w t.a t.n fs):
 fc fe 217 #[π (μ ⟨B,0,ν⟩),.agg #[ι κ own,ι κ seq,σ a n cap]] w λe w'=>e=ρ (ι κ (mC seq es t.seq fs))/\eH w w':=by
 obtain⟨T,ts,ta,tn,U⟩:=t;simp only at Q;have hz:=qo;have hb:=gK w (γ #[ι κ own,ι κ seq,σ a n cap] 40);have Y:=h.below hb;obtain⟨Z,X⟩:=fq (w.alloc (γ #[ι κ own,ι κ seq,σ a n cap] 40));have V:Z.heap[w.heap.size]? =μ (γ #[ι κ own,ι κ seq,σ a n cap] 40 (0,0)):=by rw[<-X];exact aY w _
 rw[X]at hb Y;have G:Hid _:=X;clear X;have x0:Z.cell? ⟨w.heap.size,0,ν⟩=μ (ι κ own):=ax Z _ 0 _ _ (0,0) V;have pV:(fF 211 (.map (μ m.bm)) (ι κ own) true).run fe Z.drew=.ok (τ #[.agg #[ι κ T,ι κ ts,σ ta tn U],.bool true]) Z.drew:=by
  have:=Y.km.drew.look_ok own H;rw[S]at this;exact this
 have akz:(fF 211 (.map (μ m.bm)) (ι κ own) true).run fe (Z.alloc (γ #[ι κ 0,ι κ 0,σ ν 0 0] 40)).drew=.ok (τ #[.agg #[ι κ T,ι κ ts,σ ta tn U],.bool true]) (Z.alloc (γ #[ι κ 0,ι κ 0,σ ν 0 0] 40)).drew:=by
  have:=(Y.km.alloc (γ #[ι κ 0,ι κ 0,σ ν 0 0] 40)).drew.look_ok own H;rw[S]at this;exact this
 have c0:=Y.c0;have hl:=Y.lt;have hx:w.heap.size<Z.heap.size:=ag Z _ x0;have M:eH w ((Z.alloc (γ #[ι κ T,ι κ ts,σ ta tn U] 40)).drew):=below_drewN (hb.alloc hb.size _) 1;have D:=Hv own seq T ts a ta n tn cap U es fs _ (J.below M) (Q.below M) E;have x1:Z.cell? ⟨w.heap.size,1,ν⟩=μ (ι κ seq):=ax Z _ 1 _ _ (0,0) V;have x2:Z.cell? ⟨w.heap.size,2,ν⟩=μ (σ a n cap):=ax Z _ 2 _ _ (0,0) V;clear h Y S Q J V
 go_in
 go_wp2_with(fail);rw[G.out]
 go_region
 all_goals
  go_wp2_with(fail);refine D.mono ?_;rintro e w2 ⟨rfl,k2⟩
  go_wp2
  go_ret;exact⟨rfl,fP M k2⟩
structure jP(w w':ew)(m:FM):Prop where
 os:w'.os=w.os
 tape:w'.tape=w.tape
 output:w'.output=w.output
 size:w.heap.size<=w'.heap.size
 block:∀i,i<w.heap.size->i≠m.bm->i∉m.bs->w'.heap[i]? =w.heap[i]?
theorem jP.jg(m:FM)(h:eH w w'):jP w w' m:=⟨h.os,h.tape,h.output,h.size,λi hi _ _=>h.block i hi⟩
theorem jP.trans {a b c:ew} {m:FM} (h:jP a b m)(k:jP b c m):jP a c m:=
 ⟨k.os.trans h.os,k.tape.trans h.tape,k.output.trans h.output,Nat.le_trans h.size k.size,λi hi Z Y=>(k.block i (Nat.lt_of_lt_of_le hi h.size) Z Y).trans (h.block i hi Z Y)⟩
theorem jP.qp {m:FM} (h:w.mapTurned w' b)(hb:b=m.bm \/b∈m.bs):jP w w' m:=by
 have g:=h.grown;refine⟨g.os,g.tape,g.output,g.size,λi hi Z Y=>g.block i hi (λe=> ?_)⟩;have:i=b:=by simpa using e
 subst this;rcases hb with hb|hb
 {exact Z hb};{exact Y hb}
theorem jP.below {b:ew} {m:FM} (h:eH w a)(k:jP a b m)(h1:w.heap.size<=m.bm)(Z:∀x∈m.bs,w.heap.size<=x):eH w b:=
 ⟨k.os.trans h.os,k.tape.trans h.tape,k.output.trans h.output,Nat.le_trans h.size k.size,λi hi=>by
  rw[k.block i (Nat.lt_of_lt_of_le hi h.size) eB (λe=>by have:=Z i e;omega)];exact h.block i hi⟩
theorem og {x:Nat} (h:w.mapTurned w' b)(hx:x<w.heap.size)(Z:x≠b):w'.heap[x]? =w.heap[x]? :=h.grown.block x hx (λe=>Z (by simpa using e))
theorem FB.akA {m:FM} {kn kn':Int->Option SV} {ow:Nat->Int->Option SV} (h:FB w B m n kn ow)(Z:w.mapTurned w' m.bm)(V:SMap w' m.bm n' kn')(U:n<=n'):FB w' B m n' kn' ow:=by
 refine⟨(og Z h.lt (λe=>h.nB.1 e.symm)).trans h.oE,h.row.keep Z.grown.size (λk Y=> ?_),V,λi b e=> ?_,h.few,h.nB,h.nd⟩
 ·have X:m.g=k:=by simpa[FM.sl,eD]using Y
  subst X;exact og Z (h.row.lt _ Y) (λe=>h.nB.2.2.1 e.symm)
 ·have hb:=h.nB.2.2.2 b (bL e);exact((h.om i b e).keep (og Z (h.om i b e).lt hb.2.2)).mono U
theorem FB.Nx {m:FM} {kn:Int->Option SV} {ow:Nat->Int->Option SV} {f:Int->Option SV} (h:FB w B m n kn ow)(hi:m.bs[i]? =μ b)(Z:w.mapTurned w' b)(S:SMap w' b n' f)(X:n<=n'):FB w' B m n' kn (λj=>if j=i then f else ow j):=by
 have hb:=h.nB.2.2.2 b (bL hi);refine⟨(og Z h.lt (λe=>hb.1 e.symm)).trans h.oE,h.row.keep Z.grown.size (λk V=> ?_),(h.km.keep (og Z h.km.lt (λe=>hb.2.2 e.symm))).mono X,λj c e=> ?_,h.few,h.nB,h.nd⟩
 ·have T:m.g=k:=by simpa[FM.sl,eD]using V
  subst T;exact og Z (h.row.lt _ V) (λe=>hb.2.1 e.symm)
 ·by_cases Y:j=i;{subst Y;rw[hi]at e;obtain rfl:=Option.some.inj e;simp only[if_true];exact S}
  ·rw[af Y];have Q:c≠b:=λU=>by
    subst U;exact Y ((fJ (aK.1 e).1 h.nd).1 (e.trans hi.symm))
   exact((h.om j c e).keep (og Z (h.om j c e).lt Q)).mono X
def uu(f:Int->Option SV)(k:Int)(s:SV):Int->Option SV:=λx=>if x=k then μ s else f x
structure Jp(w w':ew)(B:Nat)(m:FM)(n:Nat)(kn:Int->Option SV)(ow:Nat->Int->Option SV)(own seq:Int)(es:List jQ)(s:SV):Prop where
 so:s.own=own
 ss:s.seq=seq
 sn:s.n=es.length
 so2:jm w' s.a s.n es
 nil:kY s.a s.cap
 new:∀j,eD (σ s.a s.n s.cap)=μ j->w.heap.size<=j/\j<w'.heap.size
 fb:FB w' B m (n+1+m.bs.length) (uu kn own s) (λi=>if i<m.bs.length then uu (ow i) own s else ow i)
 kept:jP w w' m
theorem jm.UF {a:Option eh} {os:List jQ} {m:FM} (h:jm w a n os)(X:jP w w' m)(hf:∀j,eD (σ a n cap)=μ j->j≠m.bm/\j∉m.bs):jm w' a n os:=by
 refine⟨h.1,?_⟩;rcases h.2 with Z|⟨b,off,rfl,Z⟩
 {exact .inl Z};{refine .inr ⟨b,off,rfl,λj Y=> ?_⟩;obtain⟨c1,c2⟩:=Z j Y;obtain⟨f1,f2⟩:=hf b rfl;have e:=X.block b (ag w _ c1) f1 f2;exact⟨(aj (a:=⟨b,off+j*2,ν⟩) e).trans c1,(aj (a:=⟨b,off+j*2+1,ν⟩) e).trans c2⟩}
theorem Hw(B:Nat)(m:FM)(k:Nat)(kn:Int->Option SV)(ow:Nat->Int->Option SV)(own seq:Int)(a:Option eh)(n cap:Nat)(es:List jQ)(w:ew)(h:FB w B m k kn ow)(hr:sd own)(ho:jm w a n es)(kH:kY a cap)(hn:n<=1000000)(hk:k<=1000000):
 fc fe 118 #[π (μ ⟨B,0,ν⟩),.agg #[ι κ own,ι κ seq,σ a n cap]] w λe w'=>e=ρ (τ #[])/\∃s,Jp w w' B m k kn ow own seq es s:=by
 have hb:=gK w (γ #[ι κ own,ι κ seq,σ a n cap] 40);have J:=h.below hb;obtain⟨W1,kt⟩:=fq (w.alloc (γ #[ι κ own,ι κ seq,σ a n cap] 40));have oP:W1.heap[w.heap.size]? =μ (γ #[ι κ own,ι κ seq,σ a n cap] 40 (0,0)):=by rw[<-kt];exact aY w _
 rw[kt]at hb J;have HW:Hid _:=kt;clear kt;have DE:=Eo own seq a n cap es W1 hn kH (ho.below hb)
 go_in
 go_wp2_with(fail);rw[HW.out];refine DE.mono ?_;rintro e X ⟨⟨Y,vc,rfl,vo,vn,vl,GG⟩,k2⟩;clear DE;have G:=(k2.block _ (ay.1 oP).1).trans oP;have x0:X.cell? ⟨w.heap.size,0,ν⟩=μ (ι κ own):=ax X _ 0 _ _ (0,0) G;have x1:X.cell? ⟨w.heap.size,1,ν⟩=μ (ι κ seq):=ax X _ 1 _ _ (0,0) G;have x2:X.cell? ⟨w.heap.size,2,ν⟩=μ (σ a n cap):=ax X _ 2 _ _ (0,0) G;have fx:=λj=>bF X w.heap.size j _ _ G;have xl:w.heap.size<X.heap.size:=ag X _ x0
 go_upto_region 2 with fail
 obtain⟨Z,E⟩:=fq (((X.setCell ⟨w.heap.size,0,ν⟩ (ι κ own)).setCell ⟨w.heap.size,1,ν⟩ (ι κ seq)).setCell ⟨w.heap.size,2,ν⟩ (σ Y es.length vc));have sv:=fP hb k2;have b3:eH w Z:=by rw[<-E];exact((sv.setCell (Nat.le_refl _) _).setCell (Nat.le_refl _) _).setCell (Nat.le_refl _) _
 have yS:Z.heap[w.heap.size]? =μ (γ #[ι κ own,ι κ seq,σ Y es.length vc] 40 (0,0)):=by
  rw[<-E];have s1:=cG X w.heap.size #[ι κ own,ι κ seq,σ a n cap] (#[ι κ own,ι κ seq,σ a n cap].setIfInBounds 0 (ι κ own)) 40 (0,0) G;rw[<-bP X w.heap.size 0 _ _ (0,0) _ G]at s1;have s2:=cG _ w.heap.size _ ((#[ι κ own,ι κ seq,σ a n cap].setIfInBounds 0 (ι κ own)).setIfInBounds 1 (ι κ seq)) 40 (0,0) s1;rw[<-bP _ w.heap.size 1 _ _ (0,0) _ s1]at s2;have s3:=cG _ w.heap.size _ (((#[ι κ own,ι κ seq,σ a n cap].setIfInBounds 0 (ι κ own)).setIfInBounds 1 (ι κ seq)).setIfInBounds 2 (σ Y es.length vc)) 40 (0,0) s2;rw[<-bP _ w.heap.size 2 _ _ (0,0) _ s2]at s3;exact s3
 have u:W1.heap.size=w.heap.size+1:=by have:=HW.out;rw[<-this];simp
 have vo3:jm Z Y es.length es:=by
  refine vo.kept (cap:=vc) (λj hj=> ?_);have:=(GG j hj).1;rw[<-E,aq _ _ _ _ (by show j≠w.heap.size;omega),aq _ _ _ _ (by show j≠w.heap.size;omega),aq _ _ _ _ (by show j≠w.heap.size;omega)]
 have hs3:X.heap.size=Z.heap.size:=by rw[<-E];simp
 rw[E];have S:=h.below b3;have Py:eH w Z.drew:=below_drewN b3 1;have M:=h.below Py;obtain⟨W4,hr4,S4,T4⟩:=M.km.store (by unfold maxLen;omega) own hr ⟨own,seq,Y,es.length,vc⟩;have akD:(fD 211 (.map (μ m.bm)) (ι κ own) (.agg #[ι κ own,ι κ seq,σ Y es.length vc])).run fe Z.drew=.ok () W4:=hr4;have U:=M.akA T4 S4 (Nat.le_succ _);have c0:=S.c0;have lB:=S.lt;have y0:Z.cell? ⟨w.heap.size,0,ν⟩=μ (ι κ own):=ax Z _ 0 _ _ (0,0) yS;have y1:Z.cell? ⟨w.heap.size,1,ν⟩=μ (ι κ seq):=ax Z _ 1 _ _ (0,0) yS;have y2:Z.cell? ⟨w.heap.size,2,ν⟩=μ (σ Y es.length vc):=ax Z _ 2 _ _ (0,0) yS;have yl:w.heap.size<Z.heap.size:=ag Z _ y0;clear x0 x1 x2 fx xl E hr4 S4
 go_region
 have A:jP Z.drew W4 m:=jP.qp T4 (.inl rfl);have Rc:∀x,x=m.bm \/x∈m.bs->x<w.heap.size:=by
  intro x hx;rcases hx with rfl|hx
  {exact h.km.lt};{obtain⟨i,hi⟩:=fK hx;exact(h.om i x hi).lt}
 have y:∀V:ew,jP Z.drew V m->V.heap[w.heap.size]? =μ (γ #[ι κ own,ι κ seq,σ Y es.length vc] 40 (0,0)):=λV hV=>
  (hV.block w.heap.size yl (λe=>by have:=Rc m.bm (.inl rfl);omega) (λe=>by have:=Rc _ (.inr e);omega)).trans yS
 obtain⟨s,hs⟩:∃s:SV,(⟨own,seq,Y,es.length,vc⟩:SV)=s:=⟨_,rfl⟩
 have afZ:FB W4 B m (k+1+0) (uu kn own s) (λi=>if i<0 then uu (ow i) own s else ow i):=by
  rw[<-hs];have e0:(λi=>if i<0 then uu (ow i) own ⟨own,seq,Y,es.length,vc⟩else ow i)=ow:=by funext i;simp
  rw[e0];exact U
 have yL:=h.few;have c1:W4.cell? ⟨B,1,ν⟩=μ (σ (μ ⟨m.g,0,ν⟩) m.bs.length m.cap):=U.c1;have lB4:=U.lt;have Q:Hid _:=hs;have HX:Hid _:=y;have H3:Hid (jm Z Y es.length es/\eH w Z/\X.heap.size=Z.heap.size/\W1.heap.size=w.heap.size+1):=⟨vo3,b3,hs3,u⟩
 have D:Hid _:=Rc;clear hs y c0 lB y0 y1 y2 yl S M U akD T4 J G oP yS b3 Py hb k2 sv Rc vo3 hs3 u vo
 go_wp2
 go_loopw [20] (λi wr=>∃j:Nat,j<=m.bs.length/\i=ι κ j/\FB wr B m (k+1+j) (uu kn own s) (λi=>if i<j then uu (ow i) own s else ow i)/\jP Z.drew wr m) (λi _=>m.bs.length-(fh i).toNat)
 case atStart=>exact⟨0,Nat.zero_le _,rfl,afZ,A⟩
 case round=>
  clear afZ A c1 lB4;obtain⟨j,hj,rfl,hF,H⟩:=hrel;by_cases kL:j<m.bs.length
  ·have n9:(j:Int)<(m.bs.length:Int):=eB;have hX:=HX.out wr H;have z0:wr.cell? ⟨w.heap.size,0,ν⟩=μ (ι κ own):=ax wr _ 0 _ _ (0,0) hX;have z1:wr.cell? ⟨w.heap.size,1,ν⟩=μ (ι κ seq):=ax wr _ 1 _ _ (0,0) hX;have z2:wr.cell? ⟨w.heap.size,2,ν⟩=μ (σ Y es.length vc):=ax wr _ 2 _ _ (0,0) hX;have zl:w.heap.size<wr.heap.size:=ag wr _ z0;have T:m.bs[j]? =μ m.bs[j] :=aw kL;have cp:=hF.port j _ T;have gl:m.g<wr.heap.size:=ag wr _ cp;obtain⟨W5,Ny,S5,T5⟩:=(hF.om j _ T).store (by unfold maxLen;omega) own hr s;have F5:=hF.Nx T T5 S5 (Nat.le_succ _);have M5:jP Z.drew W5 m:=H.trans (jP.qp T5 (.inr (aF _)));have F5':FB W5 B m (k+1+(j+1)) (uu kn own s) (λi=>if i<j+1 then uu (ow i) own s else ow i):=by
    have e:(λi=>if i<j+1 then uu (ow i) own s else ow i)=(λi=>if i=j then(λx=>if x=own then μ s else(if j<j then uu (ow j) own s else ow j) x)else(if i<j then uu (ow i) own s else ow i)):=by
     funext i
     by_cases J:i=j;{rw[J,ai (Nat.lt_succ_self j),ai rfl,af (Nat.lt_irrefl j)];rfl};{by_cases h2:i<j;{rw[ai eB,af J,ai h2]};{rw[af eB,af J,af h2]}}
    rw[e];exact F5
   have akE:(fD 211 (.map (μ m.bs[j])) (ι κ own) (.agg #[ι κ own,ι κ seq,σ Y es.length vc])).run fe wr=.ok () W5:=by
    have:=Ny;rw[<-Q.out]at this;exact this
   generalize m.bs[j] =bj at cp akE;clear Ny S5 T5 F5 hF H T hX
   go_wp2
   go_roundw
   case rel=>exact⟨j+1,eB,by go_num,F5',M5⟩
   case measure=>simp[fh];omega
  ·have Pm:j=m.bs.length:=eB;subst Pm;have HF:Hid (∃s,Jp w wr B m k kn ow own seq es s):=by
    obtain⟨q1,q2,q3,q4⟩:=H3.out;have vp:∀x,eD (σ Y es.length vc)=μ x->x≠m.bm/\x∉m.bs:=λx hx=>by
     have J:=(GG x hx).1;exact⟨λe=>by have:=D.out m.bm (.inl rfl);omega,λe=>by have:=D.out x (.inr e);omega⟩
    have o1:=(q1.drewN 1).UF (cap:=vc) H vp;have sG:=H.size;have ap5:Z.heap.size<=wr.heap.size:=sG;refine⟨s,?_,?_,?_,?_,?_,?_,hF,(jP.jg m (below_drewN q2 1)).trans H⟩;{rw[<-Q.out]};{rw[<-Q.out]};{rw[<-Q.out]};{rw[<-Q.out];exact o1};{rw[<-Q.out];exact vn};{rw[<-Q.out];intro x hx;have:=GG x hx;omega}
   clear hF H
   go_wp2
   first|go_end0|refine iX rfl rfl ?_
   exact⟨rfl,HF.out⟩
def del(f:Int->Option SV)(k:Int):Int->Option SV:=λx=>if x=k then ν else f x
theorem FB.mlt {m:FM} {kn:Int->Option SV} {ow:Nat->Int->Option SV} (h:FB w B m n kn ow):∀x,x=m.bm \/x∈m.bs->x<w.heap.size:=by
 intro x hx;rcases hx with rfl|hx
 {exact h.km.lt};{obtain⟨i,hi⟩:=fK hx;exact(h.om i x hi).lt}
theorem FB.mono {w:ew} {B:Nat} {m:FM} {n n':Nat} {kn:Int->Option SV} {ow:Nat->Int->Option SV} (h:FB w B m n kn ow)(Z:n<=n'):FB w B m n' kn ow:=⟨h.oE,h.row,h.km.mono Z,λi b e=>(h.om i b e).mono Z,h.few,h.nB,h.nd⟩
theorem UG {V:ew} {m:FM} {kn:Int->Option SV} {ow:Nat->Int->Option SV} {C:Array eA} (h:FB w B m n kn ow)(Z:W.heap[w.heap.size]? =μ (γ C 40 (0,0)))(Y:jP W V m):V.heap[w.heap.size]? =μ (γ C 40 (0,0)):=
 (Y.block w.heap.size (ay.1 Z).1 (λe=>by have:=h.mlt m.bm (.inl rfl);omega) (λe=>by have:=h.mlt _ (.inr e);omega)).trans Z
theorem take_zero(B:Nat)(m:FM)(k:Nat)(kn:Int->Option SV)(ow:Nat->Int->Option SV)(p:Nat)(own seq:Int)(a:Option eh)(n cap:Nat)(es:List jQ)(w:ew)(h:FB w B m k kn ow)(hr:sd own)(hp:p<m.bs.length)(ho:jm w a n es)(hn:n<=maxLen)(hf:oK own seq es=0)
 (y:∀W,eH w W->fc fe 217 #[π (μ ⟨B,0,ν⟩),.agg #[ι κ own,ι κ seq,σ a n cap]] W λe w'=>e=ρ (ι κ 0)/\eH W w'):
 fc fe 190 #[π (μ ⟨B,0,ν⟩),ι κ (p:Int),.agg #[ι κ own,ι κ seq,σ a n cap]] w λe w'=>e=ρ (τ #[ι κ 0,η])/\FB w' B m k kn (λi=>if i=p then del (ow p) own else ow i)/\jP w w' m:=by
 have hb:=gK w (γ #[ι κ own,ι κ seq,σ a n cap] 40);obtain⟨D,V⟩:=fq (w.alloc (γ #[ι κ own,ι κ seq,σ a n cap] 40));have Q:D.heap[w.heap.size]? =μ (γ #[ι κ own,ι κ seq,σ a n cap] 40 (0,0)):=by rw[<-V];exact aY w _
 rw[V]at hb;have j:Hid _:=V;have M:=ru B m k kn ow (p:Int) own seq a n cap es D (h.below hb) hn (ho.below hb);have A:wD m.bs.length (p:Int) own seq es=0:=by rw[wD,ai eB,hf]
 have H:jB 0=η:=rfl;rw[A,H]at M;have UH:Hid _:=y;have hpi:(p:Int)<(m.bs.length:Int):=eB;have yL:=h.few;clear V A H y hf
 go_in
 go_wp2_with(fail);rw[j.out];refine M.mono ?_;rintro e Z ⟨rfl,k2⟩;have b2:=fP hb k2;have Y:=(k2.block _ (ay.1 Q).1).trans Q;have x0:Z.cell? ⟨w.heap.size,0,ν⟩=μ (ι κ own):=ax Z _ 0 _ _ (0,0) Y;have x1:Z.cell? ⟨w.heap.size,1,ν⟩=μ (ι κ seq):=ax Z _ 1 _ _ (0,0) Y;have x2:Z.cell? ⟨w.heap.size,2,ν⟩=μ (σ a n cap):=ax Z _ 2 _ _ (0,0) Y;have J:w.heap.size<Z.heap.size:=ag Z _ x0;clear M Q hb k2;go_wp2_with(fail);refine(UH.out Z b2).mono ?_;rintro e w3 ⟨rfl,k3⟩;have b3:=fP b2 k3;have yS:=(k3.block _ J).trans Y;clear x0 x1 x2 J Y;have x0:w3.cell? ⟨w.heap.size,0,ν⟩=μ (ι κ own):=ax w3 _ 0 _ _ (0,0) yS;have J:w.heap.size<w3.heap.size:=ag w3 _ x0;have X:=h.below b3;have G:eH w w3.drew:=below_drewN b3 1;have T:=h.below G;have U:m.bs[p]? =μ m.bs[p] :=aw hp;obtain⟨W5,Ny,E,S⟩:=(T.om p _ U).drop own hr 0;have u:=T.Nx U S E (Nat.le_refl _);have M5:jP w W5 m:=(jP.jg m G).trans (jP.qp S (.inr (aF _)));have c1:w3.cell? ⟨B,1,ν⟩=μ (σ (μ ⟨m.g,0,ν⟩) m.bs.length m.cap):=X.c1;have lB:=X.lt;have cp:=X.port p _ U;have gl:m.g<w3.heap.size:=ag w3 _ cp;generalize m.bs[p] =bp at cp Ny;clear X T E S U k3
 go_wp2
 go_region
 all_goals
  go_wp2
  go_ret2
  exact⟨rfl,u,M5⟩
theorem UI(B:Nat)(m:FM)(k:Nat)(kn:Int->Option SV)(ow:Nat->Int->Option SV)(p:Nat)(own seq:Int)(a:Option eh)(n cap:Nat)(es:List jQ)(w:ew)(h:FB w B m k kn ow)(y:sd own)(hp:p<m.bs.length)(ho:jm w a n es)(hn:n<=maxLen)(hf:oK own seq es=0)(t:SV)(u:kn own=μ t)(hk:k<=1000000)
 (tP:∀W,eH w W->fc fe 217 #[π (μ ⟨B,0,ν⟩),.agg #[ι κ own,ι κ seq,σ a n cap]] W λe w'=>e=ρ (ι κ (-1))/\eH W w'):
 fc fe 190 #[π (μ ⟨B,0,ν⟩),ι κ (p:Int),.agg #[ι κ own,ι κ seq,σ a n cap]] w λe w'=>e=ρ (τ #[ι κ (-1),η])/\FB w' B m (k+1) kn (λi=>if i=p then uu (ow p) own t else ow i)/\jP w w' m:=by
 have hb:=gK w (γ #[ι κ own,ι κ seq,σ a n cap] 40);obtain⟨A,U⟩:=fq (w.alloc (γ #[ι κ own,ι κ seq,σ a n cap] 40));have Q:A.heap[w.heap.size]? =μ (γ #[ι κ own,ι κ seq,σ a n cap] 40 (0,0)):=by rw[<-U];exact aY w _
 rw[U]at hb;have HW:Hid _:=U;have M:=ru B m k kn ow (p:Int) own seq a n cap es A (h.below hb) hn (ho.below hb);have j:wD m.bs.length (p:Int) own seq es=0:=by rw[wD,ai eB,hf]
 have H:jB 0=η:=rfl;rw[j,H]at M;have UH:Hid _:=tP;have hpi:(p:Int)<(m.bs.length:Int):=eB;have yL:=h.few;clear U j H tP hf
 go_in
 go_wp2_with(fail);rw[HW.out];refine M.mono ?_;rintro e Z ⟨rfl,k2⟩;have b2:=fP hb k2;have X:=(k2.block _ (ay.1 Q).1).trans Q;have x0:Z.cell? ⟨w.heap.size,0,ν⟩=μ (ι κ own):=ax Z _ 0 _ _ (0,0) X;have x1:Z.cell? ⟨w.heap.size,1,ν⟩=μ (ι κ seq):=ax Z _ 1 _ _ (0,0) X;have x2:Z.cell? ⟨w.heap.size,2,ν⟩=μ (σ a n cap):=ax Z _ 2 _ _ (0,0) X;have J:w.heap.size<Z.heap.size:=ag Z _ x0;clear M Q hb k2;go_wp2_with(fail);refine(UH.out Z b2).mono ?_;rintro e w3 ⟨rfl,k3⟩;have b3:=fP b2 k3;have yS:=(k3.block _ J).trans X;clear x0 x1 x2 J X;have x0:w3.cell? ⟨w.heap.size,0,ν⟩=μ (ι κ own):=ax w3 _ 0 _ _ (0,0) yS;have J:w.heap.size<w3.heap.size:=ag w3 _ x0;have Y:=h.below b3;have E:eH w w3.drew:=below_drewN b3 1;have V:=h.below E;have T:m.bs[p]? =μ m.bs[p] :=aw hp;have pV:(fF 211 (.map (μ m.bm)) (ι κ own) false).run fe w3.drew=.ok t.v w3.drew:=by
  have:=V.km.look own y;rw[u]at this;exact this
 obtain⟨W5,G,D,S⟩:=(V.om p _ T).store (by unfold maxLen;omega) own y t;have F5:=V.Nx T S D (Nat.le_succ _);have M5:jP w W5 m:=(jP.jg m E).trans (jP.qp S (.inr (aF _)));have c0:=Y.c0;have c1:w3.cell? ⟨B,1,ν⟩=μ (σ (μ ⟨m.g,0,ν⟩) m.bs.length m.cap):=Y.c1;have lB:=Y.lt;have cp:=Y.port p _ T;have gl:m.g<w3.heap.size:=ag w3 _ cp;generalize m.bs[p] =bp at cp G;generalize t.v=tv at pV G;clear Y V D S T k3 u
 go_wp2
 go_region
 all_goals
  go_wp2
  go_ret2
  exact⟨rfl,F5,M5⟩
structure af0(w w':ew)(B:Nat)(m:FM)(n:Nat)(kn:Int->Option SV)(ow:Nat->Int->Option SV)(p:Nat)(own seq:Int)(es:List jQ)(s:SV):Prop where
 so:s.own=own
 ss:s.seq=seq
 sn:s.n=es.length
 so2:jm w' s.a s.n es
 nil:kY s.a s.cap
 new:∀j,eD (σ s.a s.n s.cap)=μ j->w.heap.size<=j/\j<w'.heap.size
 fb:FB w' B m (n+1+m.bs.length) (uu kn own s) (λi=>if i=p then del (uu (ow p) own s) own else if i<m.bs.length then uu (ow i) own s else ow i)
 kept:jP w w' m
theorem UJ(B:Nat)(m:FM)(k:Nat)(kn:Int->Option SV)(ow:Nat->Int->Option SV)(p:Nat)(own seq:Int)(a:Option eh)(n cap:Nat)(es:List jQ)(w:ew)(h:FB w B m k kn ow)(hr:sd own)(hp:p<m.bs.length)(u:jm w a n es)(hn:n<=maxLen)(kH:kY a cap)(hk:k<=1000000)(hf:oK own seq es=0)
 (tP:∀W,eH w W->fc fe 217 #[π (μ ⟨B,0,ν⟩),.agg #[ι κ own,ι κ seq,σ a n cap]] W λe w'=>e=ρ (ι κ 1)/\eH W w'):
 fc fe 190 #[π (μ ⟨B,0,ν⟩),ι κ (p:Int),.agg #[ι κ own,ι κ seq,σ a n cap]] w λe w'=>e=ρ (τ #[ι κ 1,η])/\∃s,af0 w w' B m k kn ow p own seq es s:=by
 have hb:=gK w (γ #[ι κ own,ι κ seq,σ a n cap] 40);obtain⟨W1,H⟩:=fq (w.alloc (γ #[ι κ own,ι κ seq,σ a n cap] 40));have oP:W1.heap[w.heap.size]? =μ (γ #[ι κ own,ι κ seq,σ a n cap] 40 (0,0)):=by rw[<-H];exact aY w _
 rw[H]at hb;have HW:Hid _:=H;have ti:=ru B m k kn ow (p:Int) own seq a n cap es W1 (h.below hb) hn (u.below hb);have si:wD m.bs.length (p:Int) own seq es=0:=by rw[wD,ai eB,hf]
 have E0:jB 0=η:=rfl;rw[si,E0]at ti;have UH:Hid _:=tP;have HN:Hid (n<=6):=by show n<=6;have:=(jC hf).2.2.1;rw[u.1]at this;exact this
 have hpi:(p:Int)<(m.bs.length:Int):=eB;have yL:=h.few;clear H si E0 tP hf
 go_in
 go_wp2_with(fail);rw[HW.out];refine ti.mono ?_;rintro e V ⟨rfl,k2⟩;have b2:=fP hb k2;have M:=(k2.block _ (ay.1 oP).1).trans oP;have x0:V.cell? ⟨w.heap.size,0,ν⟩=μ (ι κ own):=ax V _ 0 _ _ (0,0) M;have x1:V.cell? ⟨w.heap.size,1,ν⟩=μ (ι κ seq):=ax V _ 1 _ _ (0,0) M;have x2:V.cell? ⟨w.heap.size,2,ν⟩=μ (σ a n cap):=ax V _ 2 _ _ (0,0) M;have J:w.heap.size<V.heap.size:=ag V _ x0;clear ti oP hb k2;go_wp2_with(fail);refine(UH.out V b2).mono ?_;rintro e w3 ⟨rfl,k3⟩;have b3:=fP b2 k3;have E:=(k3.block _ J).trans M;clear x0 x1 x2 J M;have x0:w3.cell? ⟨w.heap.size,0,ν⟩=μ (ι κ own):=ax w3 _ 0 _ _ (0,0) E;have J:w.heap.size<w3.heap.size:=ag w3 _ x0;have x1:w3.cell? ⟨w.heap.size,1,ν⟩=μ (ι κ seq):=ax w3 _ 1 _ _ (0,0) E;have x2:w3.cell? ⟨w.heap.size,2,ν⟩=μ (σ a n cap):=ax w3 _ 2 _ _ (0,0) E;have F3:=h.below b3;have y:n<=1000000:=by have:=HN.out;omega
 have Q:=Hw B m k kn ow own seq a n cap es w3 F3 hr (u.below b3) kH y hk;clear k3;go_wp2_with(fail);refine Q.mono ?_;rintro e Z ⟨rfl,s,Y⟩;clear Q x0 x1 x2 J;have A:=UG h E Y.kept;have x0:Z.cell? ⟨w.heap.size,0,ν⟩=μ (ι κ own):=ax Z _ 0 _ _ (0,0) A;have J:w.heap.size<Z.heap.size:=ag Z _ x0;have T:=Y.fb;have U:=T.below (show eH Z Z.drew from below_drewN (au _ _) 1);have G:m.bs[p]? =μ m.bs[p] :=aw hp;obtain⟨W5,Ny,S5,D⟩:=(U.om p _ G).drop own hr 0;have F5:=U.Nx G D S5 (Nat.le_refl _);have X:jP Z W5 m:=(jP.jg m (show eH Z Z.drew from below_drewN (au _ _) 1)).trans (jP.qp D (.inr (aF _)));have hT:Hid (af0 w W5 B m k kn ow p own seq es s):=by
  have vp:∀x,eD (σ s.a s.n s.cap)=μ x->x≠m.bm/\x∉m.bs:=λx hx=>by
   have S:=(Y.new x hx).1;have h2:=b3.size;exact⟨λe=>by have:=h.mlt m.bm (.inl rfl);omega,λe=>by have:=h.mlt x (.inr e);omega⟩
  refine⟨Y.so,Y.ss,Y.sn,Y.so2.UF (cap:=s.cap) X vp,Y.nil,λj hj=> ?_,?_,((jP.jg m b3).trans Y.kept).trans X⟩;{have:=Y.new j hj;have h2:=b3.size;have h3:=X.size;omega}
  ·have e:(λi=>if i=p then del (uu (ow p) own s) own else if i<m.bs.length then uu (ow i) own s else ow i)=(λj=>if j=p then(λx=>if x=own then ν else(λi=>if i<m.bs.length then uu (ow i) own s else ow i) p x)else(λi=>if i<m.bs.length then uu (ow i) own s else ow i) j):=by
    funext i
    by_cases S:i=p
    ·rw[ai S,ai S]
     funext x
     simp only[del,if_pos hp]
    ·rw[af S,af S]
   rw[e];exact F5
 have c1:Z.cell? ⟨B,1,ν⟩=μ (σ (μ ⟨m.g,0,ν⟩) m.bs.length m.cap):=T.c1;have lB:=T.lt;have cp:=T.port p _ G;have gl:m.g<Z.heap.size:=ag Z _ cp;generalize m.bs[p] =bp at cp Ny;clear F3 T U S5 D G Y F5 X
 go_wp2
 go_region
 all_goals
  go_wp2
  go_ret2
  exact⟨rfl,s,hT.out⟩
theorem UK(h:c≠0):jB c=.iface 128 (ι κ (c:Int)):=by rw[jB,af h]
theorem UL(B:Nat)(m:FM)(k:Nat)(kn:Int->Option SV)(ow:Nat->Int->Option SV)(p:Nat)(w:ew)(h:FB w B m k kn ow)(Q:p<m.bs.length):
 fc fe 124 #[π (μ ⟨B,0,ν⟩),ι κ (p:Int)] w λe w'=>e=ρ (τ #[])/\FB w' B m k kn (λi=>if i=p then λ_=>ν else ow i)/\jP w w' m:=by
 have hh:=DC B m k kn ow (p:Int) w h;have hv:(decide (0<=(p:Int))&&decide ((p:Int)<(m.bs.length:Int)))=true:=by
  simp;omega
 rw[hv]at hh;clear hv;have hpi:(p:Int)<(m.bs.length:Int):=eB;have yL:=h.few;have Z:m.bs[p]? =μ m.bs[p] :=aw Q;obtain⟨S,T,X,Y⟩:=(h.om p _ Z).clear 0;have V:=h.Nx Z Y X (Nat.le_refl _);have U:jP w S m:=jP.qp Y (.inr (aF _));have c1:w.cell? ⟨B,1,ν⟩=μ (σ (μ ⟨m.g,0,ν⟩) m.bs.length m.cap):=h.c1;have lB:=h.lt;have cp:=h.port p _ Z;have gl:m.g<w.heap.size:=ag w _ cp;generalize m.bs[p] =bp at cp T;clear X Y Z
 go_in
 go_wp2_with(fail);refine hh.mono ?_;rintro e w1 ⟨rfl,rfl⟩;clear hh
 go_wp2
 first|go_end0|refine iX rfl rfl ?_
 exact⟨rfl,V,U⟩
theorem acE(B:Nat)(m:FM)(k:Nat)(kn:Int->Option SV)(ow:Nat->Int->Option SV)(own seq:Int)(a:Option eh)(n cap:Nat)(es:List jQ)(w:ew)(h:FB w B m k kn ow)(u:sd own)(S:jm w a n es)(kH:kY a cap)(y:k<=1000000)(hf:oK own seq es=0):
 fc fe 67 #[π (μ ⟨B,0,ν⟩),.agg #[ι κ own,ι κ seq,σ a n cap]] w λe w'=>e=ρ η/\∃s,Jp w w' B m k kn ow own seq es s:=by
 have T:n<=1000000:=by have:=(jC hf).2.2.1;rw[S.1]at this;omega
 have hb:=gK w (γ #[ι κ own,ι κ seq,σ a n cap] 40);obtain⟨G,U⟩:=fq (w.alloc (γ #[ι κ own,ι κ seq,σ a n cap] 40));have Q:G.heap[w.heap.size]? =μ (γ #[ι κ own,ι κ seq,σ a n cap] 40 (0,0)):=by rw[<-U];exact aY w _
 rw[U]at hb;have A:Hid _:=U;have J:=Bf own seq a n cap es G (by unfold maxLen;omega) (S.below hb);have H:jB 0=η:=rfl;rw[hf,H]at J;clear U H hf
 go_in
 go_wp2_with(fail);rw[A.out];refine J.mono ?_;rintro e Y ⟨rfl,k2⟩;have b2:=fP hb k2;have M:=(k2.block _ (ay.1 Q).1).trans Q;have x0:Y.cell? ⟨w.heap.size,0,ν⟩=μ (ι κ own):=ax Y _ 0 _ _ (0,0) M;have x1:Y.cell? ⟨w.heap.size,1,ν⟩=μ (ι κ seq):=ax Y _ 1 _ _ (0,0) M;have x2:Y.cell? ⟨w.heap.size,2,ν⟩=μ (σ a n cap):=ax Y _ 2 _ _ (0,0) M;have xl:w.heap.size<Y.heap.size:=ag Y _ x0;have V:=Hw B m k kn ow own seq a n cap es Y (h.below b2) u (S.below b2) kH T y;clear J Q hb k2;go_wp2_with(fail);refine V.mono ?_;rintro e w4 ⟨rfl,s,Z⟩;have X:=b2.size;have D:Hid (∃s,Jp w w4 B m k kn ow own seq es s):=⟨s,Z.so,Z.ss,Z.sn,Z.so2,Z.nil,λj E=>⟨Nat.le_trans X (Z.new j E).1,(Z.new j E).2⟩,Z.fb,(jP.jg m b2).trans Z.kept⟩
 clear V x0 x1 x2 xl Z X b2
 go_wp2
 go_ret;exact⟨rfl,D.out⟩
theorem Nz(B:Nat)(m:FM)(k:Nat)(kn:Int->Option SV)(ow:Nat->Int->Option SV)(p:Nat)(own seq:Int)(a:Option eh)(n cap:Nat)(es:List jQ)(w:ew)(h:FB w B m k kn ow)(hr:sd own)(hp:p<m.bs.length)(ho:jm w a n es)(hn:n<=maxLen)(hf:oK own seq es=0)
 (y:∀W,eH w W->fc fe 217 #[π (μ ⟨B,0,ν⟩),.agg #[ι κ own,ι κ seq,σ a n cap]] W λe w'=>e=ρ (ι κ 0)/\eH W w'):
 fc fe 191 #[π (μ ⟨B,0,ν⟩),ι κ (p:Int),.agg #[ι κ own,ι κ seq,σ a n cap]] w λe w'=>e=ρ η/\FB w' B m k kn (λi=>if i=p then del (ow p) own else ow i)/\jP w w' m:=by
 have hb:=gK w (γ #[ι κ own,ι κ seq,σ a n cap] 40);obtain⟨D,V⟩:=fq (w.alloc (γ #[ι κ own,ι κ seq,σ a n cap] 40));have Q:D.heap[w.heap.size]? =μ (γ #[ι κ own,ι κ seq,σ a n cap] 40 (0,0)):=by rw[<-V];exact aY w _
 rw[V]at hb;have j:Hid _:=V;have M:=ru B m k kn ow (p:Int) own seq a n cap es D (h.below hb) hn (ho.below hb);have A:wD m.bs.length (p:Int) own seq es=0:=by rw[wD,ai eB,hf]
 have H:jB 0=η:=rfl;rw[A,H]at M;have UH:Hid _:=y;have hpi:(p:Int)<(m.bs.length:Int):=eB;have yL:=h.few;clear V A H y hf
 go_in
 go_wp2_with(fail);rw[j.out];refine M.mono ?_;rintro e Z ⟨rfl,k2⟩;have b2:=fP hb k2;have Y:=(k2.block _ (ay.1 Q).1).trans Q;have x0:Z.cell? ⟨w.heap.size,0,ν⟩=μ (ι κ own):=ax Z _ 0 _ _ (0,0) Y;have x1:Z.cell? ⟨w.heap.size,1,ν⟩=μ (ι κ seq):=ax Z _ 1 _ _ (0,0) Y;have x2:Z.cell? ⟨w.heap.size,2,ν⟩=μ (σ a n cap):=ax Z _ 2 _ _ (0,0) Y;have J:w.heap.size<Z.heap.size:=ag Z _ x0;clear M Q hb k2;go_wp2_with(fail);refine(UH.out Z b2).mono ?_;rintro e w3 ⟨rfl,k3⟩;have b3:=fP b2 k3;have yS:=(k3.block _ J).trans Y;clear x0 x1 x2 J Y;have x0:w3.cell? ⟨w.heap.size,0,ν⟩=μ (ι κ own):=ax w3 _ 0 _ _ (0,0) yS;have J:w.heap.size<w3.heap.size:=ag w3 _ x0;have X:=h.below b3;have G:eH w w3.drew:=below_drewN b3 1;have T:=h.below G;have U:m.bs[p]? =μ m.bs[p] :=aw hp;obtain⟨W5,Ny,E,S⟩:=(T.om p _ U).drop own hr 0;have u:=T.Nx U S E (Nat.le_refl _);have M5:jP w W5 m:=(jP.jg m G).trans (jP.qp S (.inr (aF _)));have c1:w3.cell? ⟨B,1,ν⟩=μ (σ (μ ⟨m.g,0,ν⟩) m.bs.length m.cap):=X.c1;have lB:=X.lt;have cp:=X.port p _ U;have gl:m.g<w3.heap.size:=ag w3 _ cp;generalize m.bs[p] =bp at cp Ny;clear X T E S U k3
 go_wp2
 go_region
 all_goals
  go_wp2
  go_ret;exact⟨rfl,u,M5⟩
theorem Rf(B:Nat)(m:FM)(k:Nat)(kn:Int->Option SV)(ow:Nat->Int->Option SV)(p:Nat)(own seq:Int)(a:Option eh)(n cap:Nat)(es:List jQ)(w:ew)(h:FB w B m k kn ow)(hr:sd own)(hp:p<m.bs.length)(ho:jm w a n es)(hn:n<=maxLen)(hf:oK own seq es=0)
 (y:∀W,eH w W->fc fe 217 #[π (μ ⟨B,0,ν⟩),.agg #[ι κ own,ι κ seq,σ a n cap]] W λe w'=>e=ρ (ι κ 1)/\eH W w'):
 fc fe 191 #[π (μ ⟨B,0,ν⟩),ι κ (p:Int),.agg #[ι κ own,ι κ seq,σ a n cap]] w λe w'=>e=ρ η/\FB w' B m k kn (λi=>if i=p then del (ow p) own else ow i)/\jP w w' m:=by
 have hb:=gK w (γ #[ι κ own,ι κ seq,σ a n cap] 40);obtain⟨D,V⟩:=fq (w.alloc (γ #[ι κ own,ι κ seq,σ a n cap] 40));have Q:D.heap[w.heap.size]? =μ (γ #[ι κ own,ι κ seq,σ a n cap] 40 (0,0)):=by rw[<-V];exact aY w _
 rw[V]at hb;have j:Hid _:=V;have M:=ru B m k kn ow (p:Int) own seq a n cap es D (h.below hb) hn (ho.below hb);have A:wD m.bs.length (p:Int) own seq es=0:=by rw[wD,ai eB,hf]
 have H:jB 0=η:=rfl;rw[A,H]at M;have UH:Hid _:=y;have hpi:(p:Int)<(m.bs.length:Int):=eB;have yL:=h.few;clear V A H y hf
 go_in
 go_wp2_with(fail);rw[j.out];refine M.mono ?_;rintro e Z ⟨rfl,k2⟩;have b2:=fP hb k2;have Y:=(k2.block _ (ay.1 Q).1).trans Q;have x0:Z.cell? ⟨w.heap.size,0,ν⟩=μ (ι κ own):=ax Z _ 0 _ _ (0,0) Y;have x1:Z.cell? ⟨w.heap.size,1,ν⟩=μ (ι κ seq):=ax Z _ 1 _ _ (0,0) Y;have x2:Z.cell? ⟨w.heap.size,2,ν⟩=μ (σ a n cap):=ax Z _ 2 _ _ (0,0) Y;have J:w.heap.size<Z.heap.size:=ag Z _ x0;clear M Q hb k2;go_wp2_with(fail);refine(UH.out Z b2).mono ?_;rintro e w3 ⟨rfl,k3⟩;have b3:=fP b2 k3;have yS:=(k3.block _ J).trans Y;clear x0 x1 x2 J Y;have x0:w3.cell? ⟨w.heap.size,0,ν⟩=μ (ι κ own):=ax w3 _ 0 _ _ (0,0) yS;have J:w.heap.size<w3.heap.size:=ag w3 _ x0;have X:=h.below b3;have G:eH w w3.drew:=below_drewN b3 1;have T:=h.below G;have U:m.bs[p]? =μ m.bs[p] :=aw hp;obtain⟨W5,Ny,E,S⟩:=(T.om p _ U).drop own hr 0;have u:=T.Nx U S E (Nat.le_refl _);have M5:jP w W5 m:=(jP.jg m G).trans (jP.qp S (.inr (aF _)));have c1:w3.cell? ⟨B,1,ν⟩=μ (σ (μ ⟨m.g,0,ν⟩) m.bs.length m.cap):=X.c1;have lB:=X.lt;have cp:=X.port p _ U;have gl:m.g<w3.heap.size:=ag w3 _ cp;generalize m.bs[p] =bp at cp Ny;clear X T E S U k3
 go_wp2
 go_region
 all_goals
  go_wp2
  go_ret;exact⟨rfl,u,M5⟩
theorem Rh(B:Nat)(m:FM)(k:Nat)(kn:Int->Option SV)(ow:Nat->Int->Option SV)(p:Nat)(own seq:Int)(a:Option eh)(n cap:Nat)(es:List jQ)(w:ew)(h:FB w B m k kn ow)(hp:p<m.bs.length)(D:jm w a n es)(E:n<=maxLen)(hf:oK own seq es=0)
 (M:∀W,eH w W->fc fe 217 #[π (μ ⟨B,0,ν⟩),.agg #[ι κ own,ι κ seq,σ a n cap]] W λe w'=>e=ρ (ι κ (-1))/\eH W w'):
 fc fe 191 #[π (μ ⟨B,0,ν⟩),ι κ (p:Int),.agg #[ι κ own,ι κ seq,σ a n cap]] w λe w'=>e=ρ η/\eH w w':=by
 have hb:=gK w (γ #[ι κ own,ι κ seq,σ a n cap] 40);obtain⟨S,X⟩:=fq (w.alloc (γ #[ι κ own,ι κ seq,σ a n cap] 40));have V:S.heap[w.heap.size]? =μ (γ #[ι κ own,ι κ seq,σ a n cap] 40 (0,0)):=by rw[<-X];exact aY w _
 rw[X]at hb;have H:Hid _:=X;have U:=ru B m k kn ow (p:Int) own seq a n cap es S (h.below hb) E (D.below hb);have Q:wD m.bs.length (p:Int) own seq es=0:=by rw[wD,ai eB,hf]
 have T:jB 0=η:=rfl;rw[Q,T]at U;have G:Hid _:=M;have hpi:(p:Int)<(m.bs.length:Int):=eB;have yL:=h.few;clear X Q T M hf
 go_in
 go_wp2_with(fail);rw[H.out];refine U.mono ?_;rintro e Z ⟨rfl,k2⟩;have b2:=fP hb k2;have Y:=(k2.block _ (ay.1 V).1).trans V;have x0:Z.cell? ⟨w.heap.size,0,ν⟩=μ (ι κ own):=ax Z _ 0 _ _ (0,0) Y;have x1:Z.cell? ⟨w.heap.size,1,ν⟩=μ (ι κ seq):=ax Z _ 1 _ _ (0,0) Y;have x2:Z.cell? ⟨w.heap.size,2,ν⟩=μ (σ a n cap):=ax Z _ 2 _ _ (0,0) Y;have J:w.heap.size<Z.heap.size:=ag Z _ x0;clear U V hb k2;go_wp2_with(fail);refine(G.out Z b2).mono ?_;rintro e w3 ⟨rfl,k3⟩;have b3:=fP b2 k3;have yS:=(k3.block _ J).trans Y;clear x0 x1 x2 J Y;clear k3
 go_wp2
 go_ret;exact⟨rfl,b3⟩
theorem Pz(B:Nat)(m:FM)(k:Nat)(kn:Int->Option SV)(ow:Nat->Int->Option SV)(i:Int)(t:SV)(ok:Bool)(fs:List jQ)(w:ew)(h:FB w B m k kn ow)(hr:sd i)(hd:(kn i).getD SV.zero=t)(hs:(kn i).isSome=ok)(M:jm w t.a t.n fs)(hn:t.n<=1000000)(kH:kY t.a t.cap):
 fc fe 177 #[π (μ ⟨B,0,ν⟩),ι κ i] w λe w'=>∃(a:Option eh) (cap:Nat),e=ρ (τ #[.agg #[ι κ t.own,ι κ t.seq,σ a fs.length cap],.bool ok])/\jm w' a fs.length fs/\kY a cap/\eH w w':=by
 obtain⟨T,ts,ta,tn,S⟩:=t;simp only at M hn kH;have hz:=qo;have hb:=gK w (γ #[ι κ 0,ι κ 0,σ ν 0 0] 40);obtain⟨Y,U⟩:=fq (w.alloc (γ #[ι κ 0,ι κ 0,σ ν 0 0] 40));have oP:Y.heap[w.heap.size]? =μ (γ #[ι κ 0,ι κ 0,σ ν 0 0] 40 (0,0)):=by rw[<-U];exact aY w _
 have H:Y.heap.size=w.heap.size+1:=by rw[<-U];simp
 rw[U]at hb;have HW:Hid _:=U;clear U;have X:=h.below hb;have pV:(fF 211 (.map (μ m.bm)) (ι κ i) true).run fe Y=.ok (τ #[.agg #[ι κ T,ι κ ts,σ ta tn S],.bool ok]) Y:=by
  have:=X.km.look_ok i hr;rw[hd,hs]at this;exact this
 have c0:=X.c0;have hl:=X.lt;have J:eH w (Y.alloc (γ #[ι κ T,ι κ ts,σ ta tn S] 40)):=hb.alloc hb.size _;have G:=Eo T ts ta tn S fs _ hn kH (M.below J);have A:(Y.alloc (γ #[ι κ T,ι κ ts,σ ta tn S] 40)).heap[w.heap.size]? =μ (γ #[ι κ 0,ι κ 0,σ ν 0 0] 40 (0,0)):=by
  rw[aV _ _ _ eB];exact oP
 have HB:Hid _:=J;have D:Hid _:=A;have HS:Hid _:=H;clear h X hd hs M hb J A oP H
 go_in
 go_upto_region 1 with fail
 rw[HW.out];go_wp2_with(fail);refine G.mono ?_;rintro e Z ⟨⟨Q,vc,rfl,vo,vn,vl,E⟩,k2⟩;clear G pV c0;have V:=(k2.block _ (ay.1 D.out).1).trans D.out;have y0:Z.cell? ⟨w.heap.size,0,ν⟩=μ (ι κ 0):=ax Z _ 0 _ _ (0,0) V;have y1:Z.cell? ⟨w.heap.size,1,ν⟩=μ (ι κ 0):=ax Z _ 1 _ _ (0,0) V;have y2:Z.cell? ⟨w.heap.size,2,ν⟩=μ (σ ν 0 0):=ax Z _ 2 _ _ (0,0) V;have fy:=λj=>bF Z w.heap.size j _ _ V;have ly:w.heap.size<Z.heap.size:=ag Z _ y0;have y:=fP HB.out k2;have HC:Hid (∀u v x:eA,jm (((Z.setCell ⟨w.heap.size,0,ν⟩ u).setCell ⟨w.heap.size,1,ν⟩ v).setCell ⟨w.heap.size,2,ν⟩ x) Q fs.length fs/\kY Q vc/\eH w (((Z.setCell ⟨w.heap.size,0,ν⟩ u).setCell ⟨w.heap.size,1,ν⟩ v).setCell ⟨w.heap.size,2,ν⟩ x)):=by
  intro u v x;refine⟨vo.kept (cap:=vc) (λj hj=> ?_),vn,((y.setCell (Nat.le_refl _) _).setCell (Nat.le_refl _) _).setCell (Nat.le_refl _) _⟩;have X:=(E j hj).1;have h2:=HS.out;have h3:w.heap.size+1<=j:=by simp at X;omega
  rw[aq _ _ _ _ (by show j≠w.heap.size;omega),aq _ _ _ _ (by show j≠w.heap.size;omega),aq _ _ _ _ (by show j≠w.heap.size;omega)]
 clear vo E k2 V y;go_wp2_with(fail);refine aE (v:=τ #[.agg #[ι κ T,ι κ ts,σ Q fs.length vc],.bool ok]) (by simp[results,results177,go_sem,y0,y1,y2]) rfl ?_;exact⟨Q,vc,rfl,HC.out _ _ _⟩
open Go.Maps (Keyed)
theorem Bg(h:(Lit.int .i64 x).wf=true):sd x:=by
 simp[Lit.wf,IntKind.min,IntKind.max,IntKind.signed,IntKind.bits]at h;exact⟨eB,eB⟩
theorem rO(x y:Int):(Lit.int .i64 x).sameKey (.int .i64 y)=decide (x=y):=by simp[Lit.sameKey]
def mix(fd fs:Int->Option SV)(left:Lit->Bool):Int->Option SV:=λk=>if left (.int .i64 k)=false/\(fs k).isSome=true then fs k else fd k
theorem UM {fd fs:Int->Option SV} {s:SV} (h:fs x=μ s):(λk=>if k=x then μ s else mix fd fs left k)=mix fd fs (λz=>left z&& !z.sameKey (.int .i64 x)):=by
 funext k
 by_cases e:k=x;{subst e;simp[mix,rO,h]};{simp[mix,rO,e]}
def over(fd fs:Int->Option SV):Int->Option SV:=λk=>if(fs k).isSome=true then fs k else fd k
theorem YM {fd fs:Int->Option SV} (h:∀Z,left Z=false):mix fd fs left=over fd fs:=by
 funext k
 simp[mix,over,h]
theorem SMap.congr {f g:Int->Option SV} (h:SMap w b n f)(e:∀k,sd k->f k=g k):SMap w b n g:=by
 obtain⟨D,Y,X⟩:=h.own;exact⟨⟨D,Y,λk Z=>by rw[<-e k Z];exact X k Z⟩⟩
theorem Ri(bd bs nd ns:Nat)(fd fs:Int->Option SV)(w:ew)(hd:SMap w bd nd fd)(hs:SMap w bs ns fs)(jx:bd≠bs)(aaQ:nd+ns<=2000000):
 fc fe 181 #[.map (μ bd),.map (μ bs)] w λe w'=>e=ρ (τ #[])/\SMap w' bd (nd+ns) (over fd fs)/\w.grownBy w' (μ bd):=by
 obtain⟨D,jA,NB⟩:=hs.own;have sG:=jA.size_le;have kL:=hd.lt;have Gq:=hs.lt;have hz:=qo;have H0:Hid (∀k,sd k->fs k=ν->∀z,D.atKey (.int .i64 k) z=z):=λk H e=>by have:=NB k H;rw[e]at this;exact this
 have H1:Hid (∀k s,sd k->fs k=μ s->∀z,D.atKey (.int .i64 k) z=.held s):=λk s H e=>by have:=NB k H;rw[e]at this;exact this
 clear NB hs
 go_in
 go_wp2_with(first
  |(at_range;refine wpList_range_own _ rfl _ 211 rfl 3 40 vu underlying211 tW bs ns _ rfl jA ?_;intro w0 UN TS TU)
  |fail)
 go_frame
 go_loopw [8] (λ_ wr=>∃(left:Lit->Bool) (X:Nat),wr.ranges fe 3 tW bs w.heap.size ns D left X/\X<=ns/\SMap wr bd (nd+(ns-X)) (mix fd fs left)/\w.grownBy wr (μ bd))
  (λ_ wr=>wr.rangeLeft bs w.heap.size)
 case atStart=>
  refine⟨_,_,UN,sG,((hd.kept TS ik).mono eB).congr (λk H=> ?_),TS.but _⟩;cases e:fs k with
  |none=>simp[mix,e]
  |some s=>simp[mix,Maps.has_true_of_atKey (H1.out k s H e)]
 case round=>
  clear UN TS TU jA hd;obtain⟨left,X,E,hcs,u,Ky⟩:=hrel;go_wp2_with(first
   |(at_next;refine fL _ rfl _ rfl 3 vu tW (ι .i64) SV.v (λkey kl h=>by obtain⟨x,rfl,_⟩:=cE underlying3 h;exact⟨x,rfl⟩) (λv y hv=>by obtain⟨s,rfl,_⟩:=xK hv;exact⟨s,rfl⟩) bs w.heap.size ns _ _ _ rfl E ?_ ?_)
   |fail)
  ·intro si wA;have HE:Hid (SMap wr bd (nd+ns) (over fd fs)):=by
    show SMap wr bd (nd+ns) (over fd fs);rw[<-YM wA];exact u.mono eB
   clear E u
   go_wp2
   first|go_end0|refine iX rfl rfl ?_
   exact⟨rfl,HE.out,Ky⟩
  ·intro x c kl yd yp w1 A h hlx hv hat UO GH kR A5 AZ;obtain⟨x',ex,rfl,G⟩:=cE underlying3 h;cases ex;have zS:=Bg G;obtain⟨V,cs,ca,Y,Z⟩:=c;rw[zR]at hv;have hy:yd=.held ⟨V,cs,ca,Y,Z⟩:=by have:=Option.some.inj hv;simp only[fC]at this;exact this.1.symm
   have M:fs x=μ ⟨V,cs,ca,Y,Z⟩:=by
    cases e:fs x with
    |none=>
     have Q:=H0.out x zS e .nil;rw[hat,hy]at Q;cases Q
    |some s=>
     have Q:=H1.out x s zS e .nil;rw[hat,hy]at Q;cases Q;rfl
   have S:=(u.kept kR (λe=>by have:=Option.some.inj e;omega)).alloc (γ #[ι κ V,ι κ cs,σ ca Y Z] 40);obtain⟨T,sH,S2,T2⟩:=S.store (by unfold maxLen;omega) x zS ⟨V,cs,ca,Y,Z⟩;have ap6:(fD 211 (.map (μ bd)) (ι κ x) (.agg #[ι κ V,ι κ cs,σ ca Y Z])).run fe (w1.alloc (γ #[ι κ V,ι κ cs,σ ca Y Z] 40))=.ok () T:=sH;rw[UM M]at S2;have af1:(fM (π (μ ⟨w.heap.size,0,ν⟩))).run fe w1=.ok (τ #[ι κ x,.agg #[ι κ V,ι κ cs,σ ca Y Z]]) w1:=AZ;have U:=(UO.alloc (γ #[ι κ V,ι κ cs,σ ca Y Z] 40)).kept T2.grown (λe=>jx (Option.some.inj e).symm) (λe=>by have:=Option.some.inj e;omega);have Cg:w.grownBy T (μ bd):=((Ky.andThen kR (λj J=>.inl (by cases J;exact Nat.le_refl _))).andThen ((World.grownBy_alloc w1 (γ #[ι κ V,ι κ cs,σ ca Y Z] 40) ν).but (μ bd)) (λj J=>.inr J)).andThen T2.grown (λj J=>.inr J);have HR:Hid (T.ranges fe 3 tW bs w.heap.size ns D (λz=>left z&& !z.sameKey (.int .i64 x)) A/\A<=ns/\SMap T bd (nd+(ns-A)) (mix fd fs (λz=>left z&& !z.sameKey (.int .i64 x)))/\w.grownBy T (μ bd)):=⟨U,eB,S2.mono eB,Cg⟩
   have HM:Hid (T.rangeLeft bs w.heap.size<wr.rangeLeft bs w.heap.size):=by
    show _<_;rw[U.left_eq,E.left_eq];exact GH
   clear sH AZ S2 T2 S u E UO U kR Cg Ky hat hy hv M hlx h G;go_wp2_with(fail)
   first|go_frame|skip
   go_roundw
   case rel=>exact⟨_,A,HR.out⟩
   case measure=>exact HM.out
theorem jP.UQ {m:FM} (g:w.grownBy w' (μ b))(hb:b=m.bm \/b∈m.bs):jP w w' m:=by
 refine⟨g.os,g.tape,g.output,g.size,λi hi Z Y=>g.block i hi (λe=> ?_)⟩;have:i=b:=by simpa using e
 subst this;rcases hb with hb|hb
 {exact Z hb};{exact Y hb}
theorem tX {x:Nat} (h:w.grownBy w' (μ b))(hx:x<w.heap.size)(Z:x≠b):w'.heap[x]? =w.heap[x]? :=h.block x hx (λe=>Z (by simpa using e))
theorem FB.akG {m:FM} {kn:Int->Option SV} {ow:Nat->Int->Option SV} {f:Int->Option SV} (h:FB w B m n kn ow)(hi:m.bs[i]? =μ b)(Z:w.grownBy w' (μ b))(S:SMap w' b n' f)(X:n<=n'):FB w' B m n' kn (λj=>if j=i then f else ow j):=by
 have hb:=h.nB.2.2.2 b (bL hi);refine⟨(tX Z h.lt (λe=>hb.1 e.symm)).trans h.oE,h.row.keep Z.size (λk V=> ?_),(h.km.keep (tX Z h.km.lt (λe=>hb.2.2 e.symm))).mono X,λj c e=> ?_,h.few,h.nB,h.nd⟩
 ·have T:m.g=k:=by simpa[FM.sl,eD]using V
  subst T;exact tX Z (h.row.lt _ V) (λe=>hb.2.1 e.symm)
 ·by_cases Y:j=i;{subst Y;rw[hi]at e;obtain rfl:=Option.some.inj e;simp only[if_true];exact S}
  ·rw[af Y];have Q:c≠b:=λU=>by
    subst U;exact Y ((fJ (aK.1 e).1 h.nd).1 (e.trans hi.symm))
   exact((h.om j c e).keep (tX Z (h.om j c e).lt Q)).mono X
theorem UR(B:Nat)(m:FM)(k:Nat)(kn:Int->Option SV)(ow:Nat->Int->Option SV)(p:Nat)(w:ew)(h:FB w B m k kn ow)(S:p<m.bs.length)(hk:k<=1000000):
 fc fe 126 #[π (μ ⟨B,0,ν⟩),ι κ (p:Int)] w λe w'=>e=ρ η/\FB w' B m (k+k) kn (λi=>if i=p then over (ow p) kn else ow i)/\jP w w' m:=by
 have hh:=DC B m k kn ow (p:Int) w h;have hv:(decide (0<=(p:Int))&&decide ((p:Int)<(m.bs.length:Int)))=true:=by simp;omega
 rw[hv]at hh;clear hv;have hpi:(p:Int)<(m.bs.length:Int):=eB;have yL:=h.few;have X:m.bs[p]? =μ m.bs[p] :=aw S;have bd:eH w w.drew:=below_drewN (au _ _) 1;have Fd:=h.below bd;have V:=Ri m.bs[p] m.bm k k (ow p) kn w.drew (Fd.om p _ X) Fd.km (Fd.nB.2.2.2 _ (aF _)).2.2 eB;have U:Hid (∀w',SMap w' m.bs[p] (k+k) (over (ow p) kn)->w.drew.grownBy w' (μ m.bs[p])->FB w' B m (k+k) kn (λi=>if i=p then over (ow p) kn else ow i)/\jP w w' m):=λw' Y Z=>⟨Fd.akG X Z Y eB,(jP.jg m bd).trans (jP.UQ Z (.inr (aF _)))⟩
 have c0:=h.c0;have c1:w.cell? ⟨B,1,ν⟩=μ (σ (μ ⟨m.g,0,ν⟩) m.bs.length m.cap):=h.c1;have lB:=h.lt;have cp:=h.port p _ X;have gl:m.g<w.heap.size:=ag w _ cp;generalize m.bs[p] =bp at cp V U;clear X Fd bd
 go_in
 go_wp2_with(fail);refine hh.mono ?_;rintro e w1 ⟨rfl,rfl⟩;clear hh
 go_upto_region 3 with fail
 go_region_with(first|(go_at_call 181;refine V.mono ?_;rintro e w2 ⟨rfl,Y,Z⟩)|fail)
 all_goals
  have T:Hid _:=U.out _ Y Z;clear Y Z
  go_wp2
  go_ret;exact⟨rfl,T.out⟩
structure SR(w:ew)(g C:Nat)(ss:List SV):Prop where
 lt:g<w.heap.size
 cell:∀j s,ss[j]? =μ s->w.cell? ⟨g,j*3,ν⟩=μ (ι κ s.own)/\w.cell? ⟨g,j*3+1,ν⟩=μ (ι κ s.seq)/\w.cell? ⟨g,j*3+2,ν⟩=μ (σ s.a s.n s.cap)
 sp:∀j,j<C*3->(w.cell? ⟨g,j,ν⟩).isSome=true/\w.frozen? ⟨g,j,ν⟩=false
 le:ss.length<=C
 cm:C<=maxLen
theorem SR.fz {ss:List SV} (h:SR w g C ss)(j:Nat)(hj:j<ss.length*3):w.frozen? ⟨g,j,ν⟩=false:=(h.sp j (by have:=h.le;omega)).2
theorem SR.below {ss:List SV} (h:SR w g C ss)(hb:eH w w'):SR w' g C ss:=
 ⟨Nat.lt_of_lt_of_le h.lt hb.size,λj s e=>by
  obtain⟨c0,c1,c2⟩:=h.cell j s e;exact⟨(hb.cell (p:=⟨g,j*3,ν⟩) h.lt).trans c0,(hb.cell (p:=⟨g,j*3+1,ν⟩) h.lt).trans c1,(hb.cell (p:=⟨g,j*3+2,ν⟩) h.lt).trans c2⟩,λj Z=>⟨by rw[hb.cell (p:=⟨g,j,ν⟩) h.lt];exact(h.sp j Z).1,(hb.frozen (p:=⟨g,j,ν⟩) h.lt).trans (h.sp j Z).2⟩,h.le,h.cm⟩
theorem SR.drewN {w:ew} {g C:Nat} {ss:List SV} (h:SR w g C ss)(n:Nat):SR (w.drewN n) g C ss:=h.below (below_drewN (au _ _) n)
def NC(w:ew)(g k:Nat)(s:SV):ew:=((w.setCell ⟨g,k*3,ν⟩ (ι κ s.own)).setCell ⟨g,k*3+1,ν⟩ (ι κ s.seq)).setCell ⟨g,k*3+2,ν⟩ (σ s.a s.n s.cap)
theorem SR.put {ss:List SV} (h:SR w g C ss)(k:Nat)(S:k<ss.length)(s:SV):SR (NC w g k s) g C (ss.set k s):=by
 have X:∀j,j<ss.length*3->(w.cell? ⟨g,j,ν⟩).isSome=true:=by
  intro j Z;have hl:j/3<ss.length:=eB;obtain⟨c0,c1,c2⟩:=h.cell (j/3) ss[j/3] (aw hl);rcases(show j=j/3*3 \/j=j/3*3+1 \/j=j/3*3+2 by omega)with e|e|e
  {rw[e,c0];rfl};{rw[e,c1];rfl};{rw[e,c2];rfl}
 have V:NC w g k s=w.setCells g (k*3) [ι κ s.own,ι κ s.seq,σ s.a s.n s.cap] :=rfl;have Y:=bO g [ι κ s.own,ι κ s.seq,σ s.a s.n s.cap] (k*3) w (λj Z=>X _ (by simp at Z;omega));refine⟨by unfold NC;simpa using h.lt,λj s' e=> ?_,λj Z=> ?_,by simpa using h.le,h.cm⟩;{by_cases T:j=k;{subst T;rw[List.getElem?_set_self S]at e;obtain rfl:=Option.some.inj e;rw[V];exact⟨Y 0 ik,Y 1 ik,Y 2 ik⟩};{rw[List.getElem?_set_ne (λe=>T e.symm)]at e;obtain⟨c0,c1,c2⟩:=h.cell j s' e;have U:∀o,o<3->(w.setCells g (k*3) [ι κ s.own,ι κ s.seq,σ s.a s.n s.cap]).cell? ⟨g,j*3+o,ν⟩=w.cell? ⟨g,j*3+o,ν⟩:=λo ho=>bE g _ _ _ _ (λ_ _=>by show j*3+o<k*3 \/k*3+3<=j*3+o;omega);rw[V];exact⟨(U 0 eF).trans c0,(U 1 eF).trans c1,(U 2 eF).trans c2⟩}};{rw[V,bY];refine⟨?_,(h.sp j Z).2⟩;by_cases hq:k*3<=j/\j<k*3+3;{have:=Y (j-k*3) (by simp;omega);rw[show k*3+(j-k*3)=j by omega]at this;rw[this];rfl};{rw[bE g _ _ _ _ (λ_ _=>by show j<k*3 \/k*3+3<=j;omega)];exact(h.sp j Z).1}}
theorem Hz(w:ew)(g k:Nat)(s:SV):w.grownBy (NC w g k s) (μ g):=by
 unfold NC;exact la (la (la ⟨rfl,rfl,rfl,Nat.le_refl _,λ_ _ _=>rfl⟩ _ _) _ _) _ _
def ND(l:List SV):Prop:=l.Pairwise (λx y=>x.own<y.own)
theorem US(x y:SV)(w:ew):fc fe 203 #[.agg #[ι κ x.own,ι κ x.seq,σ x.a x.n x.cap],.agg #[ι κ y.own,ι κ y.seq,σ y.a y.n y.cap]] w λe w'=>e=ρ (ι κ (mH x.own y.own))/\eH w w':=by
 have Y:eH w ((w.alloc (γ #[ι κ x.own,ι κ x.seq,σ x.a x.n x.cap] 40)).alloc (γ #[ι κ y.own,ι κ y.seq,σ y.a y.n y.cap] 40)):=(gK _ _).alloc ik _;have Z:=tV x.own y.own ((w.alloc (γ #[ι κ x.own,ι κ x.seq,σ x.a x.n x.cap] 40)).alloc (γ #[ι κ y.own,ι κ y.seq,σ y.a y.n y.cap] 40))
 go_in
 go_wp2_with(fail);refine Z.mono ?_;rintro e w1 ⟨rfl,rfl⟩
 go_wp2
 go_ret;exact⟨rfl,Y⟩
structure Down(w wr:ew)(g cap n i:Nat)(ss pre mid post:List SV)(x:SV):Prop where
 sr:SR wr g cap (pre++x::(mid++post))
 perm:(pre++x::(mid++post)).Perm ss
 Rj:ND (pre++mid)
 low:∀y∈mid,x.own<y.own
 len:pre.length+mid.length=i
 grown:w.grownBy wr (μ g)
theorem PA {pre mid:List SV} {x:SV} (h:ND (pre++mid))(X:∀y∈pre,y.own<x.own)(Y:∀y∈mid,x.own<y.own):ND (pre++x::mid):=by
 unfold ND at*;rw[bz]at h⊢;refine⟨h.1,cF.2 ⟨Y,h.2.1⟩,λa Z b hb=> ?_⟩;rcases aP.1 hb with rfl|hb
 {exact X a Z};{exact h.2.2 a Z b hb}
theorem UT {pre:List SV} {y x:SV} (h:ND (pre++ [y]))(hy:y.own<x.own):∀z∈pre++ [y],z.own<x.own:=by
 intro z Z;rcases av.1 Z with Z|Z
 ·have:=(bz.1 h).2.2 z Z y ik;omega
 ·have:z=y:=by simpa using Z
  rw[this];exact hy
theorem tY {b:ew} (h:w.grownBy a (μ g))(k:eH a b):w.grownBy b (μ g):=
 ⟨k.os.trans h.os,k.tape.trans h.tape,k.output.trans h.output,Nat.le_trans h.size k.size,λi hi Z=>(k.block i (Nat.lt_of_lt_of_le hi h.size)).trans (h.block i hi Z)⟩
theorem Cm {b:ew} (h:w.grownBy a (μ g))(k:a.grownBy b (μ g)):w.grownBy b (μ g):=
 ⟨k.os.trans h.os,k.tape.trans h.tape,k.output.trans h.output,Nat.le_trans h.size k.size,λi hi Z=>(k.block i (Nat.lt_of_lt_of_le hi h.size) Z).trans (h.block i hi Z)⟩
theorem af3 {a d e f:Nat} {u0 u1 u2 u3 u4 u5:eA} (k:eH w w')(gl:g<w.heap.size)
 (h:w.cell? ⟨g,a,ν⟩=μ u0/\w.cell? ⟨g,b,ν⟩=μ u1/\w.cell? ⟨g,c,ν⟩=μ u2/\w.cell? ⟨g,d,ν⟩=μ u3/\w.cell? ⟨g,e,ν⟩=μ u4/\w.cell? ⟨g,f,ν⟩=μ u5):
 w'.cell? ⟨g,a,ν⟩=μ u0/\w'.cell? ⟨g,b,ν⟩=μ u1/\w'.cell? ⟨g,c,ν⟩=μ u2/\w'.cell? ⟨g,d,ν⟩=μ u3/\w'.cell? ⟨g,e,ν⟩=μ u4/\w'.cell? ⟨g,f,ν⟩=μ u5:=
 ⟨(k.cell (p:=⟨g,a,ν⟩) gl).trans h.1,(k.cell (p:=⟨g,b,ν⟩) gl).trans h.2.1,(k.cell (p:=⟨g,c,ν⟩) gl).trans h.2.2.1,(k.cell (p:=⟨g,d,ν⟩) gl).trans h.2.2.2.1,(k.cell (p:=⟨g,e,ν⟩) gl).trans h.2.2.2.2.1,(k.cell (p:=⟨g,f,ν⟩) gl).trans h.2.2.2.2.2⟩
theorem NF(g n cap:Nat)(ss:List SV)(w:ew)(h:SR w g cap ss)(hl:ss.length=n)(hn:n<=12)(hd:ss.Pairwise (λx y=>x.own≠y.own)):
 fc fe 232 #[σ (μ ⟨g,0,ν⟩) n cap,ι κ 0,ι κ (n:Int),.func (.func 203) #[] #[]] w λe w'=>e=ρ (τ #[])/\∃ts,SR w' g cap ts/\ts.Perm ss/\ND ts/\w.grownBy w' (μ g):=by
 go_in
 go_wp2
 go_loopw [8] (λi wr=>∃(k:Nat) (ts:List SV),1<=k/\(k<=n \/k=1)/\i=ι κ k/\SR wr g cap ts/\ts.Perm ss/\ND (ts.take k)/\w.grownBy wr (μ g)) (λi _=>n-(fh i).toNat)
 case atStart=>exact⟨1,ss,Nat.le_refl _,.inr rfl,rfl,h,List.Perm.refl _,by unfold ND;cases ss<;>simp,⟨rfl,rfl,rfl,Nat.le_refl _,λ_ _ _=>rfl⟩⟩
 case round=>
  obtain⟨k,ts,Pr,Bh,rfl,hS,U,hR,hG⟩:=hrel;have YO:ts.length=n:=by rw[U.length_eq,hl]
  by_cases kL:k<n
  ·have n9:(k:Int)<(n:Int):=eB;have u:Hid (Down w wr g cap n k ss (ts.take k) [] (ts.drop (k+1)) (ts[k]'(by omega))):=by
    have e:ts.take k++(ts[k]'(by omega))::([] ++ts.drop (k+1))=ts:=by
     rw[bU,<-aR eB,cL]
    refine⟨by rw[e];exact hS,by rw[e];exact U,by rw[aB];exact hR,ik,by simp;omega,hG⟩
   obtain⟨wo,rfl⟩:∃wo,wo=wr:=⟨_,rfl⟩
   clear hS U hR hG
   go_wp2
   go_loopw [9] (λj wr=>∃(pre mid post:List SV) (x:SV),j=ι κ (pre.length:Int)/\Down w wr g cap n k ss pre mid post x) (λj _=>(fh j).toNat)
   case atStart=>exact⟨_,_,_,_,by simp;omega,u.out⟩
   case round=>
    clear u;obtain⟨pre,mid,post,x,rfl,Y⟩:=hrel;have hlen:pre.length+mid.length+post.length+1=n:=by
     have:=Y.perm.length_eq;simp at this;omega
    rcases cM pre with rfl|⟨Z,y,oQ⟩
    ·have D:Hid (∃ts:List SV,SR wr g cap ts/\ts.Perm ss/\ND (ts.take (k+1))/\w.grownBy wr (μ g)):=by
      refine⟨_,Y.sr,Y.perm,?_,Y.grown⟩;have hm:=Y.len;simp only[List.nil_append,eX,Nat.zero_add]at hm⊢;have e:(x::(mid++post)).take (k+1)=x::mid:=by
       rw[List.take_succ_cons,<-hm,List.take_left]
      rw[e];exact PA (pre:=[]) Y.Rj ik Y.low
     clear Y;simp only[eX,Int.natCast_zero]
     go_wp2
     go_quiet(fail)
     go_wp2
     go_roundw
     case rel=>
      obtain⟨us,q1,q2,q3,q4⟩:=D.out;exact⟨k+1,us,eB,.inl eB,by go_num,SR.drewN q1 _,q2,q3,tY q4 (below_drewN (au _ _) _)⟩
     case measure=>simp[fh];omega
    ·rw[cN]at oQ;subst oQ;obtain⟨P,U⟩:=fq (Z.length);have T:(Z++ [y]).length=P+1:=by simp[U]
     have gx:((Z++ [y])++x::(mid++post))[P+1]? =μ x:=by rw[<-T];simp
     have gy:((Z++ [y])++x::(mid++post))[P]? =μ y:=by rw[<-U];simp
     obtain⟨x0,x1,x2⟩:=Y.sr.cell _ _ gx;obtain⟨y0,y1,y2⟩:=Y.sr.cell _ _ gy;have gl:=Y.sr.lt;have hPn:P+1<n:=by
      rw[T]at hlen;omega
     have b0:(0:Int)<=(P:Int):=eB;have b1:(P:Int)<(n:Int):=eB;have b2:(P:Int)+1<(n:Int):=eB;have b3:(0:Int)<=(P:Int)+1:=eB;have b4:(0:Int)<(P:Int)+1:=eB;have b5:κ.wrap ((P:Int)+1-1)=(P:Int):=by rw[show(P:Int)+1-1=(P:Int) by omega];exact aS _ ⟨eB,eB⟩
     have b6:κ.wrap (P:Int)=(P:Int):=aS _ ⟨eB,eB⟩;have A:¬x.own=y.own:=by
      have PB:=(Y.perm.pairwise_iff (λ{a b} (Dz:a.own≠b.own)=>λe=>Dz e.symm)).2 hd;have h3:=(bz.1 PB).2.2 y ik x ik;exact λe=>h3 e.symm
     have eJ:(((Z++ [y]).length:Nat):Int)=(P:Int)+1:=by rw[T];rfl
     rw[eJ];have HD:Hid _:=Y;have HP:Hid _:=U;have HN:Hid _:=A;clear Y U A eJ T gx gy hlen;have H:wr.drew.cell? ⟨g,(P+1)*3,ν⟩=μ (ι κ x.own)/\wr.drew.cell? ⟨g,(P+1)*3+1,ν⟩=μ (ι κ x.seq)/\wr.drew.cell? ⟨g,(P+1)*3+2,ν⟩=μ (σ x.a x.n x.cap)/\wr.drew.cell? ⟨g,P*3,ν⟩=μ (ι κ y.own)/\wr.drew.cell? ⟨g,P*3+1,ν⟩=μ (ι κ y.seq)/\wr.drew.cell? ⟨g,P*3+2,ν⟩=μ (σ y.a y.n y.cap):=⟨x0,x1,x2,y0,y1,y2⟩
     have E:=US x y wr.drew;obtain⟨cx,X⟩:=fq (mH x.own y.own);rw[X]at E;by_cases UU:x.own<y.own
     ·have Q:cx= -1:=by rw[<-X,mH,ai UU]
      subst Q;clear X
      go_wp2
      go_region_held3(λv=>v.cell? ⟨g,(P+1)*3,ν⟩=μ (ι κ x.own)/\v.cell? ⟨g,(P+1)*3+1,ν⟩=μ (ι κ x.seq)/\v.cell? ⟨g,(P+1)*3+2,ν⟩=μ (σ x.a x.n x.cap)/\v.cell? ⟨g,P*3,ν⟩=μ (ι κ y.own)/\v.cell? ⟨g,P*3+1,ν⟩=μ (ι κ y.seq)/\v.cell? ⟨g,P*3+2,ν⟩=μ (σ y.a y.n y.cap))
       (first|assumption|exact H|exact G)
       ((go_at_call 203;refine E.mono ?_;rintro e J ⟨rfl,M⟩;have G:=af3 M gl H))
      have V:eH wr J:=fP (below_drewN (au _ _) 1) M;have S5:=HD.out.sr.below V;obtain⟨z0,z1,z2,z3,z4,z5⟩:=G;have gl5:=S5.lt;have S:∀o,o<(P+2)*3->J.frozen? ⟨g,o,ν⟩=false:=λo ho=>S5.fz o (by have:=HP.out;simp;omega);have f0:=S ((P+1)*3) eB;have f1:=S ((P+1)*3+1) eB;have f2:=S ((P+1)*3+2) eB;have f3:=S (P*3) eB;have f4:=S (P*3+1) eB;have f5:=S (P*3+2) eB;clear S E H x0 x1 x2 y0 y1 y2 M;have hD6:Hid (Down w (NC (NC J g (P+1) y) g P x).drew g cap n k ss Z (y::mid) post x):=by
       have hd:=HD.out;have hp:=HP.out;have NG:((((Z++ [y])++x::(mid++post)).set (P+1) y).set P x)=Z++x::((y::mid)++post):=by
        subst hp;rw[aD,dU _ _ eB,show Z.length+1-Z.length=1 by omega];simp only[List.singleton_append,List.set_cons_succ,List.set_cons_zero];rw[dU _ _ eB,Nat.sub_self];rfl
       have hlen:((Z++ [y])++x::(mid++post)).length=Z.length+mid.length+post.length+2:=by simp;omega
       have s6:=((S5.put (P+1) (by rw[hlen];omega) y).put P (by rw[List.length_set,hlen];omega) x).drewN 1;rw[NG]at s6;refine⟨s6,?_,?_,?_,?_,?_⟩;{refine List.Perm.trans ?_ hd.perm;rw[aD];exact List.Perm.append_left Z (by simpa using List.Perm.swap y x (mid++post))};{have:=hd.Rj;rw[aD]at this;exact this}
       ·intro z hz;rcases aP.1 hz with rfl|hz
        {exact UU};{exact hd.low z hz}
       {have:=hd.len;simp at this⊢;omega};{exact tY (Cm (Cm (tY hd.grown V) (Hz _ g (P+1) y)) (Hz _ g P x)) (below_drewN (au _ _) 1)}
      go_wp2
      go_region
      go_wp2_with(fail);refine⟨⟨Z,y::mid,post,x,?_,?_⟩,?_⟩;{rw[HP.out]};{exact hD6.out};{simp[fh]}
     ·have hhi:y.own<x.own:=by
       have h9:¬x.own=y.own:=HN.out;omega
      have Q:cx=1:=by rw[<-X,mH,af UU,ai hhi]
      subst Q;clear X
      go_wp2
      go_region_held3(λv=>v.cell? ⟨g,(P+1)*3,ν⟩=μ (ι κ x.own)/\v.cell? ⟨g,(P+1)*3+1,ν⟩=μ (ι κ x.seq)/\v.cell? ⟨g,(P+1)*3+2,ν⟩=μ (σ x.a x.n x.cap)/\v.cell? ⟨g,P*3,ν⟩=μ (ι κ y.own)/\v.cell? ⟨g,P*3+1,ν⟩=μ (ι κ y.seq)/\v.cell? ⟨g,P*3+2,ν⟩=μ (σ y.a y.n y.cap))
       (first|assumption|exact H|exact G)
       ((go_at_call 203;refine E.mono ?_;rintro e J ⟨rfl,M⟩;have G:=af3 M gl H))
      have V:eH wr J:=fP (below_drewN (au _ _) 1) M;have D:Hid (∃ts:List SV,SR J g cap ts/\ts.Perm ss/\ND (ts.take (k+1))/\w.grownBy J (μ g)):=by
       have hd:=HD.out;refine⟨_,hd.sr.below V,hd.perm,?_,tY hd.grown V⟩;have hm:=hd.len;have e:((Z++ [y])++x::(mid++post)).take (k+1)=(Z++ [y])++x::mid:=by
        rw[show(Z++ [y])++x::(mid++post)=((Z++ [y])++x::mid)++post by simp];rw[List.take_left' (by simp at hm⊢;omega)]
       rw[e];exact PA hd.Rj (UT (bz.1 hd.Rj).1 hhi) hd.low
      clear E H G x0 x1 x2 y0 y1 y2 M
      go_wp2
      go_roundw
      case rel=>
       obtain⟨us,q1,q2,q3,q4⟩:=D.out;exact⟨k+1,us,eB,.inl eB,by go_num,q1,q2,q3,q4⟩
      case measure=>simp[fh];omega
  ·have D:Hid (∃ts,SR wr g cap ts/\ts.Perm ss/\ND ts/\w.grownBy wr (μ g)):=by
    refine⟨ts,hS,U,?_,hG⟩;have:ts.take k=ts:=aH eB
    rwa [this]at hR
   clear hS U hR hG;have yc:¬(k:Int)<(n:Int):=eB
   go_wp2
   first|go_end0|refine iX rfl rfl ?_
   exact⟨rfl,D.out⟩
theorem PD(n:Nat)(hn:n<=6)(w:ew):fc fe 221 #[.int .u64 (n:Int)] w λe w'=>∃r:Int,e=ρ (ι κ r)/\w=w':=by
 have Z:∀W:ew,fc fe 241 #[.int .u64 (n:Int)] W λe w'=>∃r:Int,e=ρ (ι κ r)/\W=w':=by
  intro W;rcases(show n=0 \/n=1 \/n=2 \/n=3 \/n=4 \/n=5 \/n=6 by omega)with rfl|rfl|rfl|rfl|rfl|rfl|rfl
  all_goals
   go_in
   go_wp2
   go_ret;exact⟨_,rfl,rfl⟩
 go_in
 go_wp2_with(fail);refine(Z _).mono ?_;rintro e w1 ⟨r,rfl,rfl⟩
 go_wp2
 go_ret;exact⟨_,rfl,rfl⟩
theorem YP(g n cap:Nat)(L:Int)(ss:List SV)(w:ew)(h:SR w g cap ss)(hl:ss.length=n)(X:n<=12)(hd:ss.Pairwise (λx y=>x.own≠y.own)):
 fc fe 220 #[σ (μ ⟨g,0,ν⟩) n cap,ι κ 0,ι κ (n:Int),ι κ L,.func (.func 203) #[] #[]] w λe w'=>e=ρ (τ #[])/\∃ts,SR w' g cap ts/\ts.Perm ss/\ND ts/\w.grownBy w' (μ g):=by
 have hc:=NF g n cap ss w h hl X hd;have h12:(n:Int)<=12:=eB
 go_in
 go_wp2_with(fail);refine cr 1 ?_;rw[bT];go_wp2_with(fail);refine hc.mono ?_;rintro e w1 ⟨rfl,Z⟩;have Y:Hid _:=Z;clear Z hc
 go_wp2
 first|go_end0|refine iX rfl rfl ?_
 exact⟨rfl,Y.out⟩
theorem UW(g n cap:Nat)(ss:List SV)(w:ew)(h:SR w g cap ss)(hl:ss.length=n)(V:n<=6)(hd:ss.Pairwise (λx y=>x.own≠y.own)):
 fc fe 202 #[σ (μ ⟨g,0,ν⟩) n cap,.func (.func 203) #[] #[]] w λe w'=>e=ρ (τ #[])/\∃ts,SR w' g cap ts/\ts.Perm ss/\ND ts/\w.grownBy w' (μ g):=by
 have Z:=PD n V w;have h12:(n:Int)<=6:=eB
 go_in
 go_wp2_with(fail);refine Z.mono ?_;rintro e w1 ⟨r,rfl,rfl⟩;go_wp2_with(fail);refine(YP g n cap r ss w h hl eB hd).mono ?_;rintro e w2 ⟨rfl,Y⟩;have X:Hid _:=Y;clear Y Z
 go_wp2
 first|go_end0|refine iX rfl rfl ?_
 exact⟨rfl,X.out⟩
def SV.cells(s:SV):List eA:=[ι κ s.own,ι κ s.seq,σ s.a s.n s.cap]
def K8(ss:List SV):List eA:=ss.flatMap SV.cells
theorem K9(ss:List SV)(s:SV):K8 (ss++ [s])=K8 ss++ [ι κ s.own,ι κ s.seq,σ s.a s.n s.cap] :=by simp[K8,SV.cells]
theorem Jq:∀(ss:List SV) (j:Nat) (s:SV),ss[j]? =μ s->(K8 ss)[j*3]? =μ (ι κ s.own)/\(K8 ss)[j*3+1]? =μ (ι κ s.seq)/\(K8 ss)[j*3+2]? =μ (σ s.a s.n s.cap)
 |[],j,s,h=>by simp at h
 |x::l,0,s,h=>by
  have:x=s:=by simpa using h
  subst this;exact⟨rfl,rfl,rfl⟩
 |x::l,j+1,s,h=>by
  have V:l[j]? =μ s:=by simpa using h
  obtain⟨a,b,c⟩:=Jq l j s V;have e:K8 (x::l)=ι κ x.own::ι κ x.seq::σ x.a x.n x.cap::K8 l:=rfl;have Z:(j+1)*3=j*3+3:=eB;have Y:(j+1)*3+1=j*3+1+3:=eB;have X:(j+1)*3+2=j*3+2+3:=eB;rw[e,Y,X,Z];simp only[List.getElem?_cons_succ];exact⟨a,b,c⟩
theorem Row.sr {ss:List SV} (h:Row w 3 (σ (μ ⟨g,0,ν⟩) ss.length cap) ss.length (K8 ss)):SR w g cap ss:=by
 rcases h.2 with⟨e,_⟩|⟨g',jH,e,_,Z,Y,_,hs⟩
 {cases e};{cases e;refine⟨h.lt g rfl,λj s e=> ?_,hs,Z,Y⟩;obtain⟨a,b,c⟩:=Jq ss j s e;exact⟨Row.cell h _ _ a,Row.cell h _ _ b,Row.cell h _ _ c⟩}
theorem vv:∀(l m:List Int),l.Pairwise (· ≠·)->(∀x∈l,x∈m)->l.length<=m.length
 |[],_,_,_=>Nat.zero_le _
 |x::l,m,hp,hs=>by
  obtain⟨Z,Y⟩:=cF.1 hp;have hx:=hs x ik;have:=vv l (m.erase x) Y (λy hy=>(dg (λe=>Z y hy e.symm)).2 (hs y (cT _ hy)));rw[cZ hx]at this;have hm:0<m.length:=dP hx;simp only[eW];omega
structure acG(w wr:ew)(f:Int->Option SV)(es:Int->List jQ)(v:eA)(s:SV):Prop where
 at_:∃t,f s.own=μ t/\s.seq=t.seq
 inr:sd s.own
 n:s.n=(es s.own).length
 opt:jm wr s.a s.n (es s.own)
 nil:kY s.a s.cap
 new:∀j,eD (σ s.a s.n s.cap)=μ j->w.heap.size<j/\j<wr.heap.size/\v.ownBlock≠μ j
structure UX(w wr:ew)(f:Int->Option SV)(es:Int->List jQ)(left:Lit->Bool)(v:eA)(out:List SV):Prop where
 row:Row wr 3 v out.length (K8 out)
 own:∀g,v.ownBlock=μ g->w.heap.size<g
 el:∀s∈out,acG w wr f es v s/\left (.int .i64 s.own)=false
 df:out.Pairwise (λx y=>x.own≠y.own)
 all:∀k,sd k->(f k).isSome=true->left (.int .i64 k)=false->∃s∈out,s.own=k
 ox:eH w wr
theorem UX.step {f:Int->Option SV} {v:eA} {out:List SV} {s t:SV} (h:UX w wr f es left v out)
 (Y:wr.grownBy w1 (μ w.heap.size)) (G:w1.grownBy w3 v.ownBlock) (A:Row w3 3 v' (out.length+1) (K8 out++ [ι κ s.own,ι κ s.seq,σ s.a s.n s.cap]))
 (hv:∀g,v'.ownBlock=μ g->v.ownBlock=μ g \/wr.heap.size<=g) (hw:w.heap.size<wr.heap.size) (y:∀j,eD (σ s.a s.n s.cap)=μ j->wr.heap.size<=j/\j<w3.heap.size/\v'.ownBlock≠μ j)
 (hx:sd s.own) (S:left (.int .i64 s.own)=true) (T:f s.own=μ t) (Z:s.seq=t.seq) (E:s.n=(es s.own).length) (D:jm w3 s.a s.n (es s.own)) (u:kY s.a s.cap):
 UX w w3 f es (λz=>left z&& !z.sameKey (.int .i64 s.own)) v' (out++ [s]):=by
 have sG:wr.heap.size<=w3.heap.size:=Nat.le_trans Y.size G.size;have Q:∀i,i<wr.heap.size->i≠w.heap.size->v.ownBlock≠μ i->w3.heap[i]? =wr.heap[i]? :=λi hi V U=>
  (G.block i (Nat.lt_of_lt_of_le hi Y.size) (λe=>U e.symm)).trans (Y.block i hi (λe=>V (by simpa using e)))
 refine⟨?_,?_,?_,?_,?_,?_⟩;{rw[K9,aA];exact A}
 ·intro g J;rcases hv g J with e|e
  {exact h.own g e};{omega}
 ·intro q Z;rcases av.1 Z with Z|Z
  ·obtain⟨a,b⟩:=h.el q Z;refine⟨⟨a.at_,a.inr,a.n,a.opt.kept (cap:=q.cap) (λj X=> ?_),a.nil,λj X=> ?_⟩,by simp[b]⟩;{obtain⟨c1,c2,c3⟩:=a.new j X;exact Q j c2 eB c3}
   ·obtain⟨c1,c2,c3⟩:=a.new j X;refine⟨c1,eB,λe=> ?_⟩;rcases hv j e with e|e
    {exact c3 e};{omega}
  ·have:q=s:=by simpa using Z
   subst this;refine⟨⟨⟨t,T,jr⟩,hx,E,D,u,λj X=> ?_⟩,by simp[rO]⟩;obtain⟨c1,c2,c3⟩:=y j X;exact⟨eB,c2,c3⟩
 ·rw[bz];refine⟨h.df,List.pairwise_singleton _ _,λa M b hb=> ?_⟩;have:b=s:=by simpa using hb
  subst this;intro e;have:=(h.el a M).2;rw[e,S]at this;cases this
 ·intro k H hs hl;by_cases e:k=s.own;{exact⟨s,ik,e.symm⟩}
  ·have:left (.int .i64 k)=false:=by simpa[rO,e]using hl
   obtain⟨q,V,U⟩:=h.all k H hs this;exact⟨q,by simp[V],U⟩
 ·refine⟨?_,?_,?_,?_,?_⟩;{exact G.os.trans (Y.os.trans h.ox.os)};{exact G.tape.trans (Y.tape.trans h.ox.tape)};{exact G.output.trans (Y.output.trans h.ox.output)};{exact Nat.le_trans h.ox.size sG};{intro i hi;refine(Q i eB eB (λe=> ?_)).trans (h.ox.block i hi);have:=h.own i e;omega}
theorem UX.few {f:Int->Option SV} {v:eA} {out:List SV} (h:UX w wr f es left v out)(hf:∀k s,sd k->f k=μ s->1<=k/\k<=6):out.length<=6:=by
 have Z:=vv (out.map SV.own) [1,2,3,4,5,6] (by rw[dy];exact h.df) (λx hx=>by
  obtain⟨s,hs,rfl⟩:=bK.1 hx;obtain⟨t,Y,_⟩:=(h.el s hs).1.at_;have:=hf _ t (h.el s hs).1.inr Y;simp;omega)
 simpa using Z
theorem infoState:(fe.info? 40).map (λi=>(i.zero,i.size,i.bytes))=μ (μ (.agg #[ι κ 0,ι κ 0,σ ν 0 0]),3,40):=ga
theorem Cn(w:ew)(x y z:eA)(t:eE)(g:Nat)(Z:w.heap.size=g):∀(j:Nat) (u:eA),[x,y,z][j]? =μ u->(w.alloc (γ #[x,y,z] t)).cell? ((⟨g,0,ν⟩:eh).add j)=μ u:=by
 subst Z;intro j u Y;rw[add_plain,ak];simpa using Y
theorem UY(x y:Int)(a:Option eh)(n c:Nat):∀u∈ [ι .i64 x,ι .i64 y,Value.slice a n c],u.oneCell'=true:=by simp[eG]
structure Et(w w':ew)(f:Int->Option SV)(es:Int->List jQ)(v:eA)(ts:List SV):Prop where
 shape:(v=σ ν 0 0/\ts=[]) \/ ∃g cap,v=σ (μ ⟨g,0,ν⟩) ts.length cap/\SR w' g cap ts/\w.heap.size<g
 el:∀s∈ts,acG w w' f es v s
 Rj:ND ts
 all:∀k,sd k->(f k).isSome=true->∃s∈ts,s.own=k
 ox:eH w w'
theorem UX.acH {f:Int->Option SV} {v:eA} {out:List SV} (h:UX w wr f es left v out)(hl:∀X,left X=false)(hv:v=σ ν 0 0):Et w wr f es v [] /\out=[] :=by
 have Y:out=[] :=by
  rcases h.row.2 with⟨_,e⟩|⟨g,cap,e,_⟩
  {exact aJ e};{rw[hv]at e;cases e}
 subst Y;exact⟨⟨.inl ⟨hv,rfl⟩,λs hs=>by simp at hs,fN,λk Z hs=>h.all k Z hs (hl _),h.ox⟩,rfl⟩
theorem UX.af7 {f:Int->Option SV} {out ts:List SV} (h:UX w wr f es left (σ (μ ⟨g,0,ν⟩) out.length cap) out)(hl:∀H,left H=false)
 (hs:SR w' g cap ts) (X:ts.Perm out) (J:ND ts) (Z:wr.grownBy w' (μ g)):Et w w' f es (σ (μ ⟨g,0,ν⟩) out.length cap) ts:=by
 have V:w.heap.size<g:=h.own g rfl;refine⟨.inr ⟨g,cap,by rw[X.length_eq],hs,V⟩,λs M=> ?_,J,λk Q U=> ?_,?_⟩;{have a:=(h.el s (X.mem_iff.1 M)).1;refine⟨a.at_,a.inr,a.n,a.opt.kept (cap:=s.cap) (λj Y=> ?_),a.nil,λj Y=> ?_⟩;{obtain⟨c1,c2,c3⟩:=a.new j Y;exact Z.block j c2 (λe=>c3 e.symm)};{obtain⟨c1,c2,c3⟩:=a.new j Y;exact⟨c1,Nat.lt_of_lt_of_le c2 Z.size,c3⟩}};{obtain⟨s,T,S⟩:=h.all k Q U (hl _);exact⟨s,X.mem_iff.2 T,S⟩}
 ·refine⟨Z.os.trans h.ox.os,Z.tape.trans h.ox.tape,Z.output.trans h.ox.output,Nat.le_trans h.ox.size Z.size,λi hi=>(Z.block i (Nat.lt_of_lt_of_le hi h.ox.size) (λe=> ?_)).trans (h.ox.block i hi)⟩;have:i=g:=by simpa using e
  omega
theorem UZ(w:ew):fc fe 202 #[σ ν 0 0,.func (.func 203) #[] #[]] w λe w'=>e=ρ (τ #[])/\w=w':=by
 have Z:=PD 0 eF w;have X:fc fe 232 #[σ ν 0 0,ι κ 0,ι κ 0,.func (.func 203) #[] #[]] w λe w'=>e=ρ (τ #[])/\w=w':=by
  go_in
  go_wp2_with(fail);refine cr 1 ?_;rw[bT]
  go_wp2
  first|go_end0|refine iX rfl rfl ?_
  exact⟨rfl,rfl⟩
 have Y:∀L:Int,fc fe 220 #[σ ν 0 0,ι κ 0,ι κ 0,ι κ L,.func (.func 203) #[] #[]] w λe w'=>e=ρ (τ #[])/\w=w':=by
  intro L
  go_in
  go_wp2_with(fail);refine cr 1 ?_;rw[bT];go_wp2_with(fail);refine X.mono ?_;rintro e w1 ⟨rfl,rfl⟩
  go_wp2
  first|go_end0|refine iX rfl rfl ?_
  exact⟨rfl,rfl⟩
 go_in
 go_wp2_with(fail);refine Z.mono ?_;rintro e w1 ⟨r,rfl,rfl⟩;go_wp2_with(fail);refine(Y r).mono ?_;rintro e w2 ⟨rfl,rfl⟩
 go_wp2
 first|go_end0|refine iX rfl rfl ?_
 exact⟨rfl,rfl⟩
theorem NH {w2:ew} {o2:Obj} {row:Option Nat} (k2:Below (w1.alloc o).heap.size (w1.alloc o) w2)(Z:(w2.alloc o2).grownBy w3 row):w1.grownBy w3 row:=by
 have s1:(w1.alloc o).heap.size=w1.heap.size+1:=ik;have s2:(w2.alloc o2).heap.size=w2.heap.size+1:=ik;have hk:=k2.size;have b1:=gK w1 o;have b2:=gK w2 o2;refine⟨Z.os.trans (b2.os.trans (k2.os.trans b1.os)),Z.tape.trans (b2.tape.trans (k2.tape.trans b1.tape)),Z.output.trans (b2.output.trans (k2.output.trans b1.output)),by have:=Z.size;omega,λi hi Y=> ?_⟩;exact(Z.block i eB Y).trans ((b2.block i eB).trans ((k2.block i eB).trans (b1.block i hi)))
theorem Eu(b n:Nat)(f:Int->Option SV)(es:Int->List jQ)(w:ew)(h:SMap w b n f)
 (hf:∀k s,sd k->f k=μ s->(1<=k/\k<=6)/\s.own=k/\jm w s.a s.n (es k)/\kY s.a s.cap/\s.n<=1000000):
 fc fe 160 #[.map (μ b)] w λe w'=>∃v ts,e=ρ v/\Et w w' f es v ts:=by
 obtain⟨i0,hi,oN,nG,mS⟩:=aX infoState;obtain⟨D,jA,NB⟩:=h.own;have yf:=h.lt;have hz:=qo;have H0:Hid (∀k,sd k->f k=ν->∀z,D.atKey (.int .i64 k) z=z):=λk Y e=>by have:=NB k Y;rw[e]at this;exact this
 have H1:Hid (∀k s,sd k->f k=μ s->∀z,D.atKey (.int .i64 k) z=.held s):=λk s Y e=>by have:=NB k Y;rw[e]at this;exact this
 have HF:Hid _:=hf;clear NB h hf
 go_in
 go_wp2_with(first
  |(at_range;refine wpList_range_own _ rfl _ 211 rfl 3 40 vu underlying211 tW b n _ rfl jA ?_;intro w0 UN A TU)
  |fail)
 go_frame
 go_loopw [3] (λv wr=>∃(left:Lit->Bool) (Q:Nat) (out:List SV),wr.ranges fe 3 tW b w.heap.size n D left Q/\w.heap.size<wr.heap.size/\UX w wr f es left v out)
  (λ_ wr=>wr.rangeLeft b w.heap.size)
 case atStart=>
  refine⟨_,_,[],UN,eB,⟨Row.nil _ 3,λg hg=>by simp[eD]at hg,λs hs=>by simp at hs,fN,λk Y S h2=> ?_,⟨A.os,A.tape,A.output,A.size,λi hi=>A.block i hi ik⟩⟩⟩;cases e:f k with
  |none=>rw[e]at S;cases S
  |some s=>
   rw[dO (H1.out k s Y e)]at h2;cases h2
 case round=>
  clear UN A TU jA;obtain⟨left,Q,out,Hy,hww,hC⟩:=hrel;go_wp2_with(first
   |(at_next;refine fL _ rfl _ rfl 3 vu tW (ι .i64) SV.v (λkey kl vX=>by obtain⟨x,rfl,_⟩:=cE underlying3 vX;exact⟨x,rfl⟩) (λv y hv=>by obtain⟨s,rfl,_⟩:=xK hv;exact⟨s,rfl⟩) b w.heap.size n _ _ _ rfl Hy ?_ ?_)
   |fail)
  ·intro si wA;have u:=hC.few (λk s Y e=>(HF.out k s Y e).1);rcases hC.row.2 with⟨hv,U0⟩|⟨g,cap,hv,_⟩
   ·subst hv;have E:Hid _:=(hC.acH wA rfl).1;have YQ:=UZ wr;clear hC Hy wA U0 u;go_wp2_with(fail);refine YQ.mono ?_;rintro e w2 ⟨rfl,rfl⟩;clear YQ
    go_wp2
    go_ret;exact⟨_,_,rfl,E.out⟩
   ·subst hv;have YQ:=UW g out.length cap out wr hC.row.sr rfl u hC.df;have T:Hid _:=hC;have HL:Hid _:=wA;clear hC Hy wA u;go_wp2_with(fail);refine YQ.mono ?_;rintro e w2 ⟨rfl,ts,hS,hp,hr,hg⟩;have E:Hid _:=T.out.af7 HL.out hS hp hr hg;clear YQ hS hp hr hg
    go_wp2
    go_ret;exact⟨_,_,rfl,E.out⟩
  ·intro x c kl yd yp w1 K7 vX hlx hv hat UO GH H A5 AZ;obtain⟨x',ex,rfl,hwx⟩:=cE underlying3 vX;cases ex;have zS:=Bg hwx;obtain⟨Z,cs,ca,V,X⟩:=c;rw[zR]at hv;have hy:yd=.held ⟨Z,cs,ca,V,X⟩:=by have:=Option.some.inj hv;simp only[fC]at this;exact this.1.symm
   have J:f x=μ ⟨Z,cs,ca,V,X⟩:=by
    cases e:f x with
    |none=>
     have S:=H0.out x zS e .nil;rw[hat,hy]at S;cases S
    |some s=>
     have S:=H1.out x s zS e .nil;rw[hat,hy]at S;cases S;rfl
   obtain⟨hx6,hxo,yR,kH,M⟩:=HF.out x _ zS J;simp only at hxo yR kH M;subst hxo;have u:=hC.few (λk s Y e=>(HF.out k s Y e).1);have af1:(fM (π (μ ⟨w.heap.size,0,ν⟩))).run fe w1=.ok (τ #[ι κ Z,.agg #[ι κ Z,ι κ cs,σ ca V X]]) w1:=AZ;have kO:eH w w1:=⟨H.os.trans hC.ox.os,H.tape.trans hC.ox.tape,H.output.trans hC.ox.output,Nat.le_trans hC.ox.size H.size,λi hi=>(H.block i eB (λe=>by simp at e;omega)).trans (hC.ox.block i hi)⟩
   have DE:=Eo Z cs ca V X (es Z) (w1.alloc (γ #[ι κ Z,ι κ cs,σ ca V X] 40)) M kH (yR.below (kO.alloc kO.size _));have T:Hid _:=hC;have HX:Hid (left (.int .i64 Z)=true/\sd Z/\f Z=μ ⟨Z,cs,ca,V,X⟩/\wr.grownBy w1 (μ w.heap.size)/\w1.heap.size=wr.heap.size/\w.heap.size<wr.heap.size/\out.length<=6):=⟨hlx,zS,J,H,A5,hww,u⟩
   have HG:Hid (w1.ranges fe 3 tW b w.heap.size n D (λz=>left z&& !z.sameKey (.int .i64 Z)) K7):=UO;have HM:Hid _:=GH;have HO:Hid (wr.rangeLeft b w.heap.size=Q):=Hy.left_eq;clear hC hlx zS J H A5 hww u UO GH Hy AZ hat hy hv vX hwx hx6 yR kH M kO;go_wp2_with(fail);refine DE.mono ?_;rintro e w2 ⟨⟨va,vc,rfl,vo,vn,vl,GG⟩,k2⟩;clear DE af1;have wE:Row w2 3 u3 out.length (K8 out):=by
    obtain⟨q1,q2,q3,q4,q5,q6,q7⟩:=HX.out;have s1:(w1.alloc (γ #[ι κ Z,ι κ cs,σ ca V X] 40)).heap.size=w1.heap.size+1:=ik;refine T.out.row.keep (by have:=k2.size;omega) (λk Y=> ?_);have Pr:=T.out.row.lt k Y;have sv:=T.out.own k Y;exact(k2.block k eB).trans (((gK w1 _).block k eB).trans (q4.block k Pr (λe=>by simp at e;omega)))
   have h7:out.length<=6:=HX.out.2.2.2.2.2.2;obtain⟨m,hm⟩:=fq (out.length);rw[hm]at wE h7;have HN:Hid _:=hm;clear hm;go_wp2_with(at_builtin;go_must(refine iU _ rfl (.tmp 12) (.tmp 15) 91 rfl 40 i0 (.agg #[ι κ 0,ι κ 0,σ ν 0 0]) 3 40 underlying91 hi oN nG mS rfl eF u3 m (K8 out) rfl (wE.alloc _) _ 1 1 [ι κ Z,ι κ cs,σ va (es Z).length vc] rfl rfl eF (Cn _ _ _ _ _ _ ik) (UY _ _ _ _ _) (by unfold maxLen;omega) eB ?_));intro g' jH w3 tu tr tC;have E:Hid (w3.ranges fe 3 tW b w.heap.size n D (λz=>left z&& !z.sameKey (.int .i64 Z)) K7/\w.heap.size<w3.heap.size/\UX w w3 f es (λz=>left z&& !z.sameKey (.int .i64 Z)) (σ (μ ⟨g',0,ν⟩) (m+1) jH) (out++ [⟨Z,cs,va,(es Z).length,vc⟩])):=by
    obtain⟨q1,q2,q3,q4,q5,q6,q7⟩:=HX.out;have G:=NH k2 tr;have s1:(w1.alloc (γ #[ι κ Z,ι κ cs,σ ca V X] 40)).heap.size=w1.heap.size+1:=ik;have s2:(w2.alloc (γ #[ι κ Z,ι κ cs,σ va (es Z).length vc] 40)).heap.size=w2.heap.size+1:=ik;have k2s:=k2.size;have g3s:=tr.size;have U:∀k,u3.ownBlock=μ k->w.heap.size<k/\k<wr.heap.size:=λk Y=>⟨T.out.own k Y,T.out.row.lt k Y⟩
    refine⟨World.ranges.kept HG.out G (λe=>by have:=U b e.symm;omega) (λe=>by have:=U _ e.symm;omega),eB,?_⟩;refine T.out.step (s:=⟨Z,cs,va,(es Z).length,vc⟩) (t:=⟨Z,cs,ca,V,X⟩) q4 G (by rw[HN.out];exact tu) (λg hg=> ?_) q6 (λj hj=> ?_) q2 q1 q3 rfl rfl (vo.kept (cap:=vc) (λj hj=> ?_)) vn
    ·have QV:g'=g:=by simpa[eD]using hg
     subst QV;rcases tC with e|e
     {exact .inl e};{right;omega}
    ·obtain⟨c1,c2⟩:=GG j hj;refine⟨eB,eB,λe=> ?_⟩;have QV:g'=j:=by simpa[eD]using e
     subst QV;rcases tC with e|e
     {have:=U _ e;omega};{omega}
    ·obtain⟨c1,c2⟩:=GG j hj;exact(tr.block j eB (λe=>by have:=U j e.symm;omega)).trans ((gK w2 _).block j c2)
   have HJ:Hid (w3.rangeLeft b w.heap.size<wr.rangeLeft b w.heap.size):=by
    show _<_;rw[World.ranges.left_eq E.out.1,HO.out];exact HM.out
   clear tu tr tC k2 vo GG wE HO
   go_wp2
   go_roundw
   case rel=>exact⟨_,K7,_,E.out⟩
   case measure=>exact HJ.out
def Fine(w:ew)(f:Int->Option SV)(es:Int->List jQ):Prop:=∀k s,sd k->f k=μ s->(1<=k/\k<=6)/\s.own=k/\jm w s.a s.n (es k)/\kY s.a s.cap/\s.n<=1000000
theorem NI(B:Nat)(m:FM)(k:Nat)(kn:Int->Option SV)(ow:Nat->Int->Option SV)(es:Int->List jQ)(w:ew)(h:FB w B m k kn ow)(hf:Fine w kn es):
 fc fe 110 #[π (μ ⟨B,0,ν⟩)] w λe w'=>∃v ts,e=ρ v/\Et w w' kn es v ts:=by
 have Z:=Eu m.bm k kn es w h.km hf;have c0:=h.c0;have lB:=h.lt;clear h hf
 go_in
 go_wp2_with(fail);refine Z.mono ?_;rintro e w2 ⟨v,ts,rfl,Y⟩;have X:Hid _:=Y;clear Z Y
 go_wp2
 go_ret;exact⟨_,_,rfl,X.out⟩
theorem U1(B:Nat)(m:FM)(k:Nat)(kn:Int->Option SV)(ow:Nat->Int->Option SV)(es:Int->List jQ)(p:Nat)(w:ew)(h:FB w B m k kn ow)(U:p<m.bs.length)(hf:Fine w (ow p) es):
 fc fe 151 #[π (μ ⟨B,0,ν⟩),ι κ (p:Int)] w λe w'=>∃v ts,e=ρ v/\Et w w' (ow p) es v ts:=by
 have hh:=DC B m k kn ow (p:Int) w h;have hv:(decide (0<=(p:Int))&&decide ((p:Int)<(m.bs.length:Int)))=true:=by simp;omega
 rw[hv]at hh;clear hv;have hpi:(p:Int)<(m.bs.length:Int):=eB;have yL:=h.few;have Y:m.bs[p]? =μ m.bs[p] :=aw U;have Z:=Eu m.bs[p] k (ow p) es w (h.om p _ Y) hf;have c1:w.cell? ⟨B,1,ν⟩=μ (σ (μ ⟨m.g,0,ν⟩) m.bs.length m.cap):=h.c1;have lB:=h.lt;have cp:=h.port p _ Y;have gl:m.g<w.heap.size:=ag w _ cp;generalize m.bs[p] =bp at cp Z;clear Y h hf
 go_in
 go_wp2_with(fail);refine hh.mono ?_;rintro e w1 ⟨rfl,rfl⟩;clear hh;go_wp2_with(fail);refine Z.mono ?_;rintro e w2 ⟨v,ts,rfl,X⟩;have V:Hid _:=X;clear Z X
 go_wp2
 go_ret;exact⟨_,_,rfl,V.out⟩
theorem U2:(fe.info? 211).map (λi=>(i.zero,i.size,i.bytes))=μ (μ (.map ν),1,8):=ga
theorem yT(w:ew)(x:eA)(t:eE)(g:Nat)(Z:w.heap.size=g):∀(j:Nat) (u:eA),[x][j]? =μ u->(w.alloc (γ #[x] t)).cell? ((⟨g,0,ν⟩:eh).add j)=μ u:=by
 subst Z;exact rh w x t
theorem YR(b:Option Nat):∀u∈ [fI b],u.oneCell'=true:=by simp[eG]
theorem acI(W:ew):(fO 211 ν).run fe W=.ok (.map (μ W.heap.size)) (W.alloc (.map #[] 0)):=rfl
theorem U3(w:ew):(zeroValue 214).run fe w=.ok (.agg #[.map ν,σ ν 0 0]) w:=ga
structure GK(w wr:ew)(v:eA)(bs:List Nat):Prop where
 oE:wr.heap[w.heap.size+1]? =μ (γ #[.map (μ w.heap.size),v] 214 (0,0))
 row:Row wr 1 v bs.length (bs.map λb=>fI (μ b))
 km:SMap wr w.heap.size 0 (λ_=>ν)
 om:∀b∈bs,SMap wr b 0 (λ_=>ν)
 ge:∀b∈bs,w.heap.size+2<=b
 own:∀g,v.ownBlock=μ g->w.heap.size+2<=g/\g∉bs
 nd:bs.Nodup
 ox:eH w wr
theorem GK.step {v:eA} {g' jH:Nat} (h:GK w wr v bs)(X:((wr.alloc (.map #[] 0)).alloc o).grownBy w3 v.ownBlock)(hv:v'=σ (μ ⟨g',0,ν⟩) (bs.length+1) jH)
 (G:Row w3 1 v' (bs.length+1) ((bs.map λb=>fI (μ b))++ [.map (μ wr.heap.size)])) (H:v.ownBlock=μ g' \/wr.heap.size+2<=g'):GK w (w3.setCell ⟨w.heap.size+1,1,ν⟩ v') v' (bs++ [wr.heap.size]):=by
 have D:w.heap.size+1<wr.heap.size:=(ay.1 h.oE).1;have s2:((wr.alloc (.map #[] 0)).alloc o).heap.size=wr.heap.size+2:=ik;have b2:eH wr ((wr.alloc (.map #[] 0)).alloc o):=(gK _ _).alloc ik _;have hs3:=X.size;have V:∀i,i<wr.heap.size->v.ownBlock≠μ i->w3.heap[i]? =wr.heap[i]? :=λi hi E=>(X.block i eB (λe=>E e.symm)).trans (b2.block i hi);have U:∀i,i≠w.heap.size+1->(w3.setCell ⟨w.heap.size+1,1,ν⟩ v').heap[i]? =w3.heap[i]? :=λi hi=>aq _ _ _ i hi;have S:w3.heap[w.heap.size+1]? =μ (γ #[.map (μ w.heap.size),v] 214 (0,0)):=(V _ D (λe=>by have:=(h.own _ e).1;omega)).trans h.oE;have Z:∀b∈bs,b<wr.heap.size:=λb hb=>(h.om b hb).lt;have T:w.heap.size+2<=g'/\g'∉bs/\g'≠wr.heap.size:=by
  rcases H with e|e
  {have:=h.own g' e;have h2:=h.row.lt g' e;exact⟨this.1,this.2,eB⟩};{exact⟨eB,λY=>by have:=Z g' Y;omega,eB⟩}
 refine⟨?_,?_,?_,?_,?_,?_,?_,?_⟩;{have s:=cG w3 (w.heap.size+1) #[.map (μ w.heap.size),v] (#[.map (μ w.heap.size),v].setIfInBounds 1 v') 214 (0,0) S;rw[<-bP w3 (w.heap.size+1) 1 _ _ (0,0) _ S]at s;exact s}
 ·rw[aA,cW];refine G.keep ik (λk M=>U k ?_);rw[hv]at M;have:g'=k:=by simpa[eD]using M
  omega
 ·refine h.km.keep ((U _ eB).trans (V _ h.km.lt (λe=>by have:=(h.own _ e).1;omega)))
 ·intro b hb;rcases av.1 hb with hb|hb
  ·have h1:=h.ge b hb;exact(h.om b hb).keep ((U b eB).trans (V b (Z b hb) (λe=>(h.own b e).2 hb)))
  ·have:b=wr.heap.size:=by simpa using hb
   subst this;refine(SMap.made wr).keep ((U _ eB).trans ((X.block _ eB (λe=> ?_)).trans ?_));{have:=h.row.lt _ e.symm;omega};{exact aV _ _ _ ik}
 ·intro b hb;rcases av.1 hb with hb|hb
  ·exact h.ge b hb
  ·have:b=wr.heap.size:=by simpa using hb
   omega
 ·intro g Q;rw[hv]at Q;have:g'=g:=by simpa[eD]using Q
  subst this;refine⟨T.1,λY=> ?_⟩;rcases av.1 Y with Y|Y
  {exact T.2.1 Y};{exact T.2.2 (by simpa using Y)}
 ·rw[bG];refine⟨h.nd,ik,λa J b hb=> ?_⟩;have:b=wr.heap.size:=by simpa using hb
  have:=Z a J;omega
 ·have b3:eH w w3:=⟨X.os.trans (b2.os.trans h.ox.os),X.tape.trans (b2.tape.trans h.ox.tape),X.output.trans (b2.output.trans h.ox.output),by have:=h.ox.size;omega,λi hi=>(V i eB (λe=>by have:=(h.own i e).1;omega)).trans (h.ox.block i hi)⟩
  exact b3.setCell (by show _<=w.heap.size+1;omega) _
theorem GK.fb {v:eA} (h:GK w wr v bs)(h1:0<bs.length)(U:bs.length<=3):∃g cap,FB wr (w.heap.size+1) {bm:=w.heap.size,g:=g,cap:=cap,bs:=bs} 0 (λ_=>ν) (λ_ _=>ν):=by
 rcases h.row.2 with⟨_,e⟩|⟨g,cap,e,_⟩
 {omega};{have T:=h.own g (by rw[e];rfl);have hb:=h.oE;have Z:=h.row;rw[e]at hb Z;refine⟨g,cap,hb,Z,h.km,λi b X=>h.om b (bL X),U,⟨by show w.heap.size≠w.heap.size+1;omega,by show g≠w.heap.size+1;omega,by show w.heap.size≠g;omega,λb Y=> ?_⟩,h.nd⟩;have h4:=h.ge b Y;exact⟨eB,λV=>T.2 (by rw[<-show b=g from V];exact Y),by show b≠w.heap.size;omega⟩}
theorem ajc(p:Int)(w:ew)(Y:p<1 \/3<p):
 fc fe 66 #[ι κ p] w λe w'=>e=ρ (τ #[π ν,jB 1])/\w=w':=by
 have Z:Hid (jB 1=.iface 128 (ι κ 1)):=rfl;by_cases h1:p<1
 ·clear Y
  go_in
  go_wp2_with(fail);rw[Z.out]
  go_ret2
  exact⟨rfl,rfl⟩
 ·have h3:3<p:=eB;clear Y
  go_in
  go_wp2_with(fail);rw[Z.out]
  go_ret2
  exact⟨rfl,rfl⟩
theorem acK(p:Nat)(w:ew)(hp:1<=p/\p<=3):
 fc fe 66 #[ι κ (p:Int)] w λe w'=>e=ρ (τ #[π (μ ⟨w.heap.size+1,0,ν⟩),η])/\∃v bs,GK w w' v bs/\bs.length=p:=by
 obtain⟨i0,hi,oN,nG,mS⟩:=aX U2;have h1:¬((p:Int)<1):=eB;have h3:¬(3<(p:Int)):=eB;obtain⟨y,T⟩:=fq ((w.alloc (.map #[] 0)).alloc (γ #[.map (μ w.heap.size),σ ν 0 0] 214));have M:GK w y (σ ν 0 0) [] :=by
  rw[<-T];refine⟨?_,Row.nil _ 1,(SMap.made w).alloc _,λb hb=>by simp at hb,λb hb=>by simp at hb,λg u=>by simp[eD]at u,da,(gK _ _).alloc ik _⟩;have:=aY (w.alloc (.map #[] 0)) (γ #[.map (μ w.heap.size),σ ν 0 0] 214);simpa using this
 have D:Hid _:=T;have hmk:∀W:ew,(fO 211 ν).run fe W=.ok (.map (μ W.heap.size)) (W.alloc (.map #[] 0)):=λW=>acI W;have hzb:=U3;clear T
 go_in
 go_wp2_with(fail);rw[D.out]
 go_loopw [16] (λi wr=>∃(j:Nat) (v:eA) (bs:List Nat),j<=p/\i=ι κ j/\bs.length=j/\GK w wr v bs) (λi _=>p-(fh i).toNat)
 case atStart=>exact⟨0,_,[],Nat.zero_le _,rfl,rfl,M⟩
 case round=>
  clear M;obtain⟨j,v,bs,hj,rfl,hl,Z⟩:=hrel;by_cases kL:j<p
  ·have n9:(j:Int)<(p:Int):=eB;have c1:wr.cell? ⟨w.heap.size+1,1,ν⟩=μ v:=ax wr _ 1 _ _ (0,0) Z.oE;have h:w.heap.size+1<wr.heap.size:=ag wr _ c1;have U:=Z.row;rw[hl]at U;have V:Hid _:=hl;have Y:Hid _:=Z;clear Z hl;go_wp2_with(at_builtin;go_must(refine iU _ rfl (.tmp 22) (.tmp 24) 212 rfl 211 i0 (.map ν) 1 8 underlying212 hi oN nG mS rfl eF v j _ rfl ((U.alloc _).alloc _) _ 1 1 [.map (μ wr.heap.size)] rfl rfl eF (yT _ _ _ _ ik) (YR _) (by unfold maxLen;omega) eB ?_));intro Q J w3 H S G;have X:w3.heap[w.heap.size+1]? =μ (γ #[.map (μ w.heap.size),v] 214 (0,0)):=by
    refine(S.block _ (by simp;omega) (λe=> ?_)).trans ((((gK wr (.map #[] 0)).alloc ik _).block _ h).trans Y.out.oE);have:=(Y.out.own _ e.symm).1;omega
   have c3:w3.cell? ⟨w.heap.size+1,1,ν⟩=μ v:=ax w3 _ 1 _ _ (0,0) X;have f3:=bF w3 (w.heap.size+1) 1 _ _ X;have l3:w.heap.size+1<w3.heap.size:=ag w3 _ c3;have E:Hid (GK w (w3.setCell ⟨w.heap.size+1,1,ν⟩ (σ (μ ⟨Q,0,ν⟩) (j+1) J)) (σ (μ ⟨Q,0,ν⟩) (j+1) J) (bs++ [wr.heap.size])):=by
    refine Y.out.step S (by rw[V.out]) (by rw[V.out];exact H) ?_;rcases G with e|e
    {exact .inl e};{right;simpa using e}
   clear H S G X U
   go_wp2
   go_roundw
   case rel=>exact⟨j+1,_,_,eB,by go_num,by simp[V.out],E.out⟩
   case measure=>simp[fh];omega
  ·have A:j=p:=eB;subst A;have Y:Hid (∃v bs,GK w wr v bs/\bs.length=j):=⟨v,bs,Z,hl⟩
   clear Z hl
   go_wp2
   go_ret2
   exact⟨rfl,Y.out⟩
abbrev PS:=Int×List jQ
structure La(w:ew)(m:FM)(k:Int)(q:PS)(s:SV):Prop where
 own:s.own=k
 seq:s.seq=q.1
 n:s.n=q.2.length
 opt:jm w s.a s.n q.2
 nil:kY s.a s.cap
 ok:oK k q.1 q.2=0
 lt:∀j,eD (σ s.a s.n s.cap)=μ j->j<w.heap.size
 far:∀j,eD (σ s.a s.n s.cap)=μ j->j≠m.bm/\j∉m.bs/\¬m.no j
def Tie(w:ew)(m:FM)(f:Int->Option SV)(F:Int->Option PS):Prop:=∀k,sd k->match F k with
 |none=>f k=none
 |some q=>∃s,f k=some s/\La w m k q s
theorem La.kept {m:FM} {q:PS} {s:SV} (h:La w m k q s)(Y:jP w w' m):La w' m k q s:=⟨h.own,h.seq,h.n,h.opt.UF (cap:=s.cap) Y (λj Z=>⟨(h.far j Z).1,(h.far j Z).2.1⟩),h.nil,h.ok,λj Z=>Nat.lt_of_lt_of_le (h.lt j Z) Y.size,h.far⟩
theorem Tie.kept {w w':ew} {m:FM} {f:Int->Option SV} {F:Int->Option PS} (h:Tie w m f F)(X:jP w w' m):Tie w' m f F:=by
 intro k V;have:=h k V;cases e:F k with
 |none=>rw[e]at this;exact this
 |some q=>rw[e]at this;obtain⟨s,Z,Y⟩:=this;exact⟨s,Z,Y.kept X⟩
theorem Tie.zT {m:FM} {f:Int->Option SV} {F:Int->Option PS} (h:Tie w m f F)(Z:sd k)(e:F k=ν):f k=ν:=by have:=h k Z;rw[e]at this;exact this
theorem Tie.vy {m:FM} {f:Int->Option SV} {F:Int->Option PS} (h:Tie w m f F)(Z:sd k) {q:PS} (e:F k=μ q):∃s,f k=μ s/\La w m k q s:=by have:=h k Z;rw[e]at this;exact this
def wF(F:Int->Option PS)(k:Int)(q:PS):Int->Option PS:=λx=>if x=k then μ q else F x
def yU(F:Int->Option PS)(k:Int):Int->Option PS:=λx=>if x=k then ν else F x
theorem Tie.put {m:FM} {f:Int->Option SV} {F:Int->Option PS} (h:Tie w m f F) {q:PS} {s:SV} (hs:La w m k q s):Tie w m (uu f k s) (wF F k q):=by
 intro x Z;by_cases e:x=k;{subst e;simp only[wF,uu,if_true];exact⟨s,rfl,hs⟩};{have:=h x Z;simp only[wF,uu,if_neg e];exact this}
theorem Tie.out {m:FM} {f:Int->Option SV} {F:Int->Option PS} (h:Tie w m f F)(k:Int):Tie w m (del f k) (yU F k):=by
 intro x Z;by_cases e:x=k;{subst e;simp only[yU,del,if_true]};{have:=h x Z;simp only[yU,del,if_neg e];exact this}
structure BR(w:ew)(B:Nat)(m:FM)(n:Nat)(K:Int->Option PS)(O:Nat->Int->Option PS):Prop where
 ex:∃kn ow,FB w B m n kn ow/\Tie w m kn K/\∀i,i<m.bs.length->Tie w m (ow i) (O i)
 Rl:∀j,m.no j->j<w.heap.size
theorem BR.Jr {m:FM} {K:Int->Option PS} {O:Nat->Int->Option PS} (h:BR w B m n K O)(hs:w.heap.size<=w'.heap.size):∀j,m.no j->j<w'.heap.size:=λj Z=>Nat.lt_of_lt_of_le (h.Rl j Z) hs
def newF(K:Int->Option PS)(own seq:Int)(es:List jQ):Int:=match K own with|none=>1|some q=>mC seq es q.1 q.2
theorem Ev(B:Nat)(m:FM)(k:Nat)(kn:Int->Option SV)(ow:Nat->Int->Option SV)(K:Int->Option PS)(own seq:Int)(a:Option eh)(n cap:Nat)(es:List jQ)(w:ew)(h:FB w B m k kn ow)(X:Tie w m kn K)(Z:sd own)(T:jm w a n es)(U:n<=1000000):
 fc fe 217 #[π (μ ⟨B,0,ν⟩),.agg #[ι κ own,ι κ seq,σ a n cap]] w λe w'=>e=ρ (ι κ (newF K own seq es))/\eH w w':=by
 cases e:K own with
 |none=>
  have hv:newF K own seq es=1:=by rw[newF,e]
  rw[hv];exact Nv B m k kn ow own seq a n cap w h Z (X.zT Z e)
 |some q=>
  obtain⟨s,V,Y⟩:=X.vy Z e;have hv:newF K own seq es=mC seq es s.seq q.2:=by rw[newF,e,Y.seq]
  rw[hv];exact Nw B m k kn ow own seq a n cap es s q.2 w h Z V T U Y.opt
def lQ(K:Int->Option PS)(own seq:Int)(es:List jQ):Int->Option PS:=if 0<newF K own seq es then wF K own (seq,es)else K
def pw(K:Int->Option PS)(O:Nat->Int->Option PS)(p:Nat)(own seq:Int)(es:List jQ):Nat->Int->Option PS:=λi=>
 if 0<newF K own seq es then(if i=p then yU (wF (O p) own (seq,es)) own else wF (O i) own (seq,es))
 else if newF K own seq es<0 then(if i=p then(match K own with|none=>O p|some q=>wF (O p) own q)else O i)
 else(if i=p then yU (O p) own else O i)
theorem Ew(K:Int->Option PS)(own seq:Int)(es:List jQ)(h:∀q:PS,mC seq es q.1 q.2= -1 \/mC seq es q.1 q.2=0 \/mC seq es q.1 q.2=1):newF K own seq es= -1 \/newF K own seq es=0 \/newF K own seq es=1:=by
 unfold newF;cases K own with
 |none=>exact .inr (.inr rfl)
 |some q=>exact h q
theorem Rm(B:Nat)(m:FM)(k:Nat)(K:Int->Option PS)(O:Nat->Int->Option PS)(p:Nat)(own seq:Int)(a:Option eh)(n cap:Nat)(es:List jQ)(w:ew)(h:BR w B m k K O)(Q:sd own)(E:p<m.bs.length)(S:jm w a n es)(kH:kY a cap)(y:k<=1000000)(hf:oK own seq es=0)
 (hS:∀q:PS,mC seq es q.1 q.2= -1 \/mC seq es q.1 q.2=0 \/mC seq es q.1 q.2=1):
 fc fe 190 #[π (μ ⟨B,0,ν⟩),ι κ (p:Int),.agg #[ι κ own,ι κ seq,σ a n cap]] w λe w'=>e=ρ (τ #[ι κ (newF K own seq es),η])/\BR w' B m (k+1+m.bs.length) (lQ K own seq es) (pw K O p own seq es)/\jP w w' m:=by
 obtain⟨kn,ow,hF,U,X⟩:=h.ex;have hn:n<=6:=by have:=(jC hf).2.2.1;rw[S.1]at this;exact this
 have G:n<=maxLen:=by unfold maxLen;omega
 have V:∀W,eH w W->fc fe 217 #[π (μ ⟨B,0,ν⟩),.agg #[ι κ own,ι κ seq,σ a n cap]] W λe w'=>e=ρ (ι κ (newF K own seq es))/\eH W w':=λW hb=>
  Ev B m k kn ow K own seq a n cap es W (hF.below hb) (U.kept (jP.jg m hb)) Q (S.below hb) eB
 rcases Ew K own seq es hS with e|e|e
 ·rw[e]at V⊢;cases J:K own with
  |none=>rw[newF,J]at e;cases e
  |some q=>
   obtain⟨s,A,u⟩:=U.vy Q J;refine(UI B m k kn ow p own seq a n cap es w hF Q E S G hf s A y V).mono ?_;rintro D w1 ⟨rfl,M,Z⟩;refine⟨rfl,⟨⟨_,_,M.mono eB,?_,λi hi=> ?_⟩,h.Jr Z.size⟩,Z⟩;{simp only[lQ,e];exact U.kept Z};{simp only[pw,e,J];by_cases Y:i=p;{subst Y;simp;exact((X i hi).kept Z).put (u.kept Z)};{simp[Y];exact(X i hi).kept Z}}
 ·rw[e]at V⊢;refine(take_zero B m k kn ow p own seq a n cap es w hF Q E S G hf V).mono ?_;rintro D w1 ⟨rfl,M,Z⟩;refine⟨rfl,⟨⟨_,_,M.mono eB,?_,λi hi=> ?_⟩,h.Jr Z.size⟩,Z⟩;{simp only[lQ,e];exact U.kept Z};{simp only[pw,e];by_cases Y:i=p;{subst Y;simp;exact((X i hi).kept Z).out own};{simp[Y];exact(X i hi).kept Z}}
 ·rw[e]at V⊢;refine(UJ B m k kn ow p own seq a n cap es w hF Q E S G kH y hf V).mono ?_;rintro D w1 ⟨rfl,s,T⟩;have hs:La w1 m own (seq,es) s:=⟨T.so,T.ss,T.sn,T.so2,T.nil,hf,λj H=>(T.new j H).2,λj H=>by
   have A:=(T.new j H).1;exact⟨λe=>by have:=hF.mlt m.bm (.inl rfl);omega,λe=>by have:=hF.mlt j (.inr e);omega,λe=>by have:=h.Rl j e;omega⟩⟩
  refine⟨rfl,⟨⟨_,_,T.fb,?_,λi hi=> ?_⟩,h.Jr T.kept.size⟩,T.kept⟩;{simp only[lQ,e];exact(U.kept T.kept).put hs};{simp only[pw,e];by_cases Y:i=p;{subst Y;simp;exact(((X i hi).kept T.kept).put hs).out own};{simp[Y,hi];exact((X i hi).kept T.kept).put hs}}
def qU(F G:Int->Option PS):Int->Option PS:=λk=>if(G k).isSome=true then G k else F k
theorem Tie.over {w:ew} {m:FM} {f g:Int->Option SV} {F G:Int->Option PS} (h:Tie w m f F)(Q:Tie w m g G):Tie w m (Go.Proofs.YtieklnlbljejdaaGreatDoor.over f g) (qU F G):=by
 intro k V;have U:=h k V;have Z:=Q k V;cases e:G k with
 |none=>
  rw[e]at Z;have Y:qU F G k=F k:=by simp[qU,e]
  have X:Go.Proofs.YtieklnlbljejdaaGreatDoor.over f g k=f k:=by simp[Go.Proofs.YtieklnlbljejdaaGreatDoor.over,Z]
  rw[Y,X];exact U
 |some q=>
  rw[e]at Z;obtain⟨s,T,S⟩:=Z;have Y:qU F G k=μ q:=by simp[qU,e]
  have X:Go.Proofs.YtieklnlbljejdaaGreatDoor.over f g k=μ s:=by simp[Go.Proofs.YtieklnlbljejdaaGreatDoor.over,T]
  rw[Y,X];exact⟨s,rfl,S⟩
theorem Rn(B:Nat)(m:FM)(k:Nat)(K:Int->Option PS)(O:Nat->Int->Option PS)(p:Nat)(w:ew)(h:BR w B m k K O)(T:p<m.bs.length):
 fc fe 124 #[π (μ ⟨B,0,ν⟩),ι κ (p:Int)] w λe w'=>e=ρ (τ #[])/\BR w' B m k K (λi=>if i=p then λ_=>ν else O i)/\jP w w' m:=by
 obtain⟨kn,ow,hF,U,V⟩:=h.ex;refine(UL B m k kn ow p w hF T).mono ?_;rintro e w1 ⟨rfl,X,Z⟩;refine⟨rfl,⟨⟨_,_,X,U.kept Z,λi hi=> ?_⟩,h.Jr Z.size⟩,Z⟩;by_cases Y:i=p;{simp only[if_pos Y];exact λ_ _=>rfl};{simp only[if_neg Y];exact(V i hi).kept Z}
theorem Ro(B:Nat)(m:FM)(k:Nat)(K:Int->Option PS)(O:Nat->Int->Option PS)(p:Nat)(w:ew)(h:BR w B m k K O)(S:p<m.bs.length)(T:k<=1000000):
 fc fe 126 #[π (μ ⟨B,0,ν⟩),ι κ (p:Int)] w λe w'=>e=ρ η/\BR w' B m (k+k) K (λi=>if i=p then qU (O p) K else O i)/\jP w w' m:=by
 obtain⟨kn,ow,hF,V,X⟩:=h.ex;refine(UR B m k kn ow p w hF S T).mono ?_;rintro e w1 ⟨rfl,U,Z⟩;refine⟨rfl,⟨⟨_,_,U,V.kept Z,λi hi=> ?_⟩,h.Jr Z.size⟩,Z⟩;by_cases Y:i=p;{subst Y;simp only[if_true];exact((X i hi).kept Z).over (V.kept Z)};{simp only[if_neg Y];exact(X i hi).kept Z}
theorem Lb(B:Nat)(m:FM)(k:Nat)(K:Int->Option PS)(O:Nat->Int->Option PS)(own seq:Int)(a:Option eh)(n cap:Nat)(es:List jQ)(w:ew)(h:BR w B m k K O)(S:sd own)(U:jm w a n es)(Q:kY a cap)(V:k<=1000000)(hf:oK own seq es=0):
 fc fe 67 #[π (μ ⟨B,0,ν⟩),.agg #[ι κ own,ι κ seq,σ a n cap]] w λe w'=>e=ρ η/\BR w' B m (k+1+m.bs.length) (wF K own (seq,es)) (λi=>wF (O i) own (seq,es))/\jP w w' m:=by
 obtain⟨kn,ow,hF,X,Y⟩:=h.ex;refine(acE B m k kn ow own seq a n cap es w hF S U Q V hf).mono ?_;rintro e w1 ⟨rfl,s,T⟩;have hs:La w1 m own (seq,es) s:=⟨T.so,T.ss,T.sn,T.so2,T.nil,hf,λj Z=>(T.new j Z).2,λj Z=>by
  have h1:=(T.new j Z).1;exact⟨λe=>by have:=hF.mlt m.bm (.inl rfl);omega,λe=>by have:=hF.mlt j (.inr e);omega,λe=>by have:=h.Rl j e;omega⟩⟩
 refine⟨rfl,⟨⟨_,_,T.fb,(X.kept T.kept).put hs,λi hi=> ?_⟩,h.Jr T.kept.size⟩,T.kept⟩;simp only[if_pos hi];exact((Y i hi).kept T.kept).put hs
theorem NJ(B:Nat)(m:FM)(k:Nat)(K:Int->Option PS)(O:Nat->Int->Option PS)(p:Nat)(own seq:Int)(a:Option eh)(n cap:Nat)(es:List jQ)(w:ew)(h:BR w B m k K O)(M:sd own)(Q:p<m.bs.length)(V:jm w a n es)(hf:oK own seq es=0)
 (E:∀q:PS,mC seq es q.1 q.2= -1 \/mC seq es q.1 q.2=0 \/mC seq es q.1 q.2=1):
 fc fe 191 #[π (μ ⟨B,0,ν⟩),ι κ (p:Int),.agg #[ι κ own,ι κ seq,σ a n cap]] w λe w'=>e=ρ η/\BR w' B m k K (λi=>if i=p/\0<=newF K own seq es then yU (O p) own else O i)/\jP w w' m:=by
 obtain⟨kn,ow,hF,T,U⟩:=h.ex;have hn:n<=6:=by have:=(jC hf).2.2.1;rw[V.1]at this;exact this
 have S:n<=maxLen:=by unfold maxLen;omega
 have Y:∀W,eH w W->fc fe 217 #[π (μ ⟨B,0,ν⟩),.agg #[ι κ own,ι κ seq,σ a n cap]] W λe w'=>e=ρ (ι κ (newF K own seq es))/\eH W w':=λW hb=>
  Ev B m k kn ow K own seq a n cap es W (hF.below hb) (T.kept (jP.jg m hb)) M (V.below hb) eB
 have key:∀w1,FB w1 B m k kn (λi=>if i=p then del (ow p) own else ow i)->jP w w1 m->0<=newF K own seq es->BR w1 B m k K (λi=>if i=p/\0<=newF K own seq es then yU (O p) own else O i):=by
  intro w1 X Z G;refine⟨⟨_,_,X,T.kept Z,λi hi=> ?_⟩,h.Jr Z.size⟩;by_cases J:i=p;{subst J;simp only[if_true,G,and_self];exact((U i hi).kept Z).out own};{simp only[J,if_false,false_and];exact(U i hi).kept Z}
 rcases Ew K own seq es E with e|e|e
 ·rw[e]at Y;refine(Rh B m k kn ow p own seq a n cap es w hF Q V S hf Y).mono ?_;rintro H w1 ⟨rfl,b1⟩;have Z:=jP.jg m b1;refine⟨rfl,⟨⟨_,_,hF.below b1,T.kept Z,λi hi=> ?_⟩,h.Jr Z.size⟩,Z⟩;have:¬(i=p/\0<=newF K own seq es):=by rw[e];omega
  simp only[if_neg this];exact(U i hi).kept Z
 {rw[e]at Y;refine(Nz B m k kn ow p own seq a n cap es w hF M Q V S hf Y).mono ?_;rintro H w1 ⟨rfl,X,Z⟩;exact⟨rfl,key w1 X Z eB,Z⟩};{rw[e]at Y;refine(Rf B m k kn ow p own seq a n cap es w hF M Q V S hf Y).mono ?_;rintro H w1 ⟨rfl,X,Z⟩;exact⟨rfl,key w1 X Z eB,Z⟩}
theorem U4(p:Nat)(w:ew)(U:1<=p/\p<=3):
 fc fe 66 #[ι κ (p:Int)] w λe w'=>e=ρ (τ #[π (μ ⟨w.heap.size+1,0,ν⟩),η])/\∃m:FM,m.bs.length=p/\BR w' (w.heap.size+1) m 0 (λ_=>ν) (λ_ _=>ν)/\eH w w'/\w.heap.size<=m.bm/\w.heap.size<=m.g/\(∀b∈m.bs,w.heap.size<=b):=by
 refine(acK p w U).mono ?_;rintro e w1 ⟨rfl,v,bs,Z,hl⟩;rcases Z.row.2 with⟨_,e⟩|⟨g,cap,e,_⟩
 ·omega
 ·obtain⟨Y,cap2,hF⟩:=Z.fb eB eB;refine⟨rfl,_,hl,⟨⟨_,_,hF,λ_ _=>rfl,λ_ _ _ _=>rfl⟩,λ_ h=>h.elim⟩,Z.ox,Nat.le_refl _,?_,λb hb=> ?_⟩
  ·have X:=hF.oE;rw[Z.oE]at X;have V:v=FM.sl {bm:=w.heap.size,g:=Y,cap:=cap2,bs:=bs}:=by simpa using X
   have:=Z.own Y (by rw[V];rfl);show w.heap.size<=Y;omega
  ·have:=Z.ge b hb;omega
def nj(F:Int->Option PS):Int->List jQ:=λk=>((F k).map (·.2)).getD []
theorem Tie.fine {m:FM} {f:Int->Option SV} {F:Int->Option PS} (h:Tie w m f F):Fine w f (nj F):=by
 intro k s V hs;cases e:F k with
 |none=>rw[h.zT V e]at hs;cases hs
 |some q=>
  obtain⟨t,Y,Z⟩:=h.vy V e;rw[hs]at Y;obtain rfl:=Option.some.inj Y;have X:=jC Z.ok;have U:nj F k=q.2:=by simp[nj,e]
  rw[U];exact⟨X.1,Z.own,Z.opt,Z.nil,by have:=X.2.2.1;have:=Z.n;omega⟩
structure uv(w:ew)(a:Option eh)(n:Nat)(S:Nat->SV)(E:Nat->List jQ):Prop where
 row:n=0 \/ ∃b off,a=μ ⟨b,off,ν⟩/\∀j,j<n->w.cell? ⟨b,off+j*3,ν⟩=μ (ι κ (S j).own)/\w.cell? ⟨b,off+j*3+1,ν⟩=μ (ι κ (S j).seq)/\w.cell? ⟨b,off+j*3+2,ν⟩=μ (σ (S j).a (S j).n (S j).cap)
 opt:∀j,j<n->jm w (S j).a (S j).n (E j)/\kY (S j).a (S j).cap/\(S j).n<=maxLen
theorem uv.below {w w':ew} {a:Option eh} {n:Nat} {S:Nat->SV} {E:Nat->List jQ} (h:uv w a n S E)(hb:eH w w'):uv w' a n S E:=by
 refine⟨?_,λj Z=>⟨(h.opt j Z).1.below hb,(h.opt j Z).2⟩⟩;rcases h.row with Y|⟨b,off,rfl,Y⟩
 {exact .inl Y};{refine .inr ⟨b,off,rfl,λj Z=> ?_⟩;obtain⟨c1,c2,c3⟩:=Y j Z;have l:=ag w _ c1;exact⟨(hb.cell (p:=⟨b,off+j*3,ν⟩) l).trans c1,(hb.cell (p:=⟨b,off+j*3+1,ν⟩) l).trans c2,(hb.cell (p:=⟨b,off+j*3+2,ν⟩) l).trans c3⟩}
theorem NK {H:Type} {enc:eE×eA->H} {m:Nat} {v:eA} {y:DataW H×List MemPlace}
 (M:DataW.trod enc fe W 0 (λ_=>true) true m 38 [v] =μ y):
 ∃(a:Option eh) (n cap:Nat) (os:List jQ),v=σ a n cap/\jm W a n os/\kY a cap/\n<=maxLen:=by
 rcases dF underlying38 underlying123 ga rfl rfl ga ga M with⟨hcs,_⟩|⟨a,len,cap,m',n',Y,X,D0,D1,P0,P1,hcs,_,hl,hm,S,_,hx⟩
 ·simp at hcs;subst hcs;exact⟨ν,0,0,[],rfl,⟨rfl,.inl rfl⟩,λ_=>rfl,eF⟩
 ·simp at hcs;subst hcs;simp at S;have each:∀i,i<len->W.cell? (a.add (i*2))=μ (ι κ (fh (Y i)))/\W.cell? (a.add (i*2+1))=μ (ι κ (fh (X i))):=by
   intro i hi;obtain⟨q1,q2,G,E⟩:=hx i eB;obtain⟨k,f0,_,_⟩:=bq underlying3 G;obtain⟨n,f1,_,_⟩:=bq underlying3 E;simp at f0 f1;exact⟨by rw[q1,f0];rfl,by rw[q2,f1];rfl⟩
  refine⟨μ a,len,cap,(List.range len).map (λi=>(fh (Y i),fh (X i))),rfl,⟨ik,?_⟩,λh=>by simp at h,eB⟩;by_cases Q:len=0;{exact .inl Q}
  ·obtain⟨b,off,Z⟩:=a;have hc:=(each 0 eB).1;have U:Z=ν:=by simpa[Addr.add]using de hc
   subst U;refine .inr ⟨b,off,rfl,λj J=> ?_⟩;have T:j<len:=by simpa using J
   have V:=each j T;rw[nE,nE]at V;simpa[Nat.add_assoc]using V
structure tD(F:Int->Option PS)(n:Nat)(S:Nat->SV)(E:Nat->List jQ):Prop where
 at_:∀j,j<n->sd (S j).own/\F (S j).own=μ ((S j).seq,E j)
 ok:∀j,j<n->oK (S j).own (S j).seq (E j)=0
 all:∀k,sd k->(F k).isSome=true->∃j,j<n/\(S j).own=k
 Rj:∀i j,i<j->j<n->(S i).own<(S j).own
theorem aaW(ts:List SV)(j:Nat)(h:j<ts.length):ts[j]? =μ (ts.getD j SV.zero):=by
 rw[aG,aw h];rfl
theorem Et.lists {m:FM} {f:Int->Option SV} {F:Int->Option PS} {v:eA} {ts:List SV} (V:Et w w' f (nj F) v ts)(M:Tie w m f F):
 ∃a cap,v=σ a ts.length cap/\uv w' a ts.length (λj=>ts.getD j SV.zero) (λj=>nj F (ts.getD j SV.zero).own)/\tD F ts.length (λj=>ts.getD j SV.zero) (λj=>nj F (ts.getD j SV.zero).own)/\ts.length<=6/\(∀j,eD v=μ j->w.heap.size<j):=by
 have Lc:∀j,j<ts.length->acG w w' f (nj F) v (ts.getD j SV.zero):=λj Z=>V.el _ (bL (aaW ts j Z));have hat:∀j,j<ts.length->∃q,F (ts.getD j SV.zero).own=μ q/\q.1=(ts.getD j SV.zero).seq/\q.2=nj F (ts.getD j SV.zero).own/\oK (ts.getD j SV.zero).own q.1 q.2=0:=by
  intro j Z;have h:=Lc j Z;obtain⟨t,U,hs⟩:=h.at_;cases e:F (ts.getD j SV.zero).own with
  |none=>rw[M.zT h.inr e]at U;cases U
  |some q=>
   obtain⟨t2,Y,X⟩:=M.vy h.inr e;rw[U]at Y;obtain rfl:=Option.some.inj Y;exact⟨q,rfl,by rw[hs,X.seq],by unfold nj;rw[e];rfl,X.ok⟩
 have S:tD F ts.length (λj=>ts.getD j SV.zero) (λj=>nj F (ts.getD j SV.zero).own):=by
  refine⟨λj Z=> ?_,λj Z=> ?_,λk D hs=> ?_,λi j J Z=> ?_⟩;{obtain⟨q,T,Y,X,G⟩:=hat j Z;refine⟨(Lc j Z).inr,?_⟩;rw[T,<-Y,<-X]};{obtain⟨q,T,Y,X,G⟩:=hat j Z;rw[<-Y,<-X];exact G}
  ·cases e:F k with
   |none=>rw[e]at hs;cases hs
   |some q=>
    obtain⟨t,U,_⟩:=M.vy D e;obtain⟨s,hm,A⟩:=V.all k D (by rw[U];rfl);obtain⟨j,Z,H⟩:=dk hm;refine⟨j,Z,?_⟩;have:ts.getD j SV.zero=s:=by rw[aG,aw Z];exact H
    show(ts.getD j SV.zero).own=k;rw[this];exact A
  ·have hp:=V.Rj;have hi:i<ts.length:=eB;have:=dD.1 hp i j hi Z J;have Q:ts.getD i SV.zero=ts[i] :=by rw[aG,aw hi];rfl
   have y:ts.getD j SV.zero=ts[j] :=by rw[aG,aw Z];rfl
   show(ts.getD i SV.zero).own<(ts.getD j SV.zero).own;rw[Q,y];exact this
 have E:ts.length<=6:=by
  have:=vv (ts.map SV.own) [1,2,3,4,5,6] (by rw[dy];exact V.Rj.imp (λh=>eB)) (λx hx=>by
   obtain⟨s,hs,rfl⟩:=bK.1 hx;obtain⟨j,Z,rfl⟩:=dk hs;have:=jC (S.ok j Z);have Q:ts.getD j SV.zero=ts[j] :=by rw[aG,aw Z];rfl
   have T:=this.1;rw[Q]at T;simp;omega)
  simpa using this
 have u:∀j,j<ts.length->jm w' (ts.getD j SV.zero).a (ts.getD j SV.zero).n (nj F (ts.getD j SV.zero).own)/\kY (ts.getD j SV.zero).a (ts.getD j SV.zero).cap/\(ts.getD j SV.zero).n<=maxLen:=by
  intro j Z;have h:=Lc j Z;refine⟨h.opt,h.nil,?_⟩;have:=(jC (S.ok j Z)).2.2.1;rw[h.n];unfold maxLen;omega
 rcases V.shape with⟨rfl,rfl⟩|⟨g,cap,rfl,hS,hg⟩
 ·exact⟨ν,0,rfl,⟨.inl rfl,λj Z=>by simp at Z⟩,S,E,λj Z=>by simp[eD]at Z⟩
 ·refine⟨_,_,rfl,⟨.inr ⟨g,0,rfl,λj Z=> ?_⟩,u⟩,S,E,λj Z=> ?_⟩;{obtain⟨c1,c2,c3⟩:=hS.cell j _ (aaW ts j Z);rw[show 0+j*3=j*3 by omega];exact⟨c1,c2,c3⟩}
  ·have:g=j:=by simpa[eD]using Z
   omega
theorem BR.below {w w':ew} {B:Nat} {m:FM} {k:Nat} {K:Int->Option PS} {O:Nat->Int->Option PS} (h:BR w B m k K O)(hb:eH w w'):BR w' B m k K O:=by
 obtain⟨kn,ow,Z,Y,X⟩:=h.ex;exact⟨⟨kn,ow,Z.below hb,Y.kept (jP.jg m hb),λi hi=>(X i hi).kept (jP.jg m hb)⟩,h.Jr hb.size⟩
def acL(W:ew)(a:Option eh)(n cap:Nat)(S:Nat->SV):Prop:=(∀j,eD (σ a n cap)=μ j->W.heap.size<j)/\∀i,i<n->∀j,eD (σ (S i).a (S i).n (S i).cap)=μ j->W.heap.size<j
theorem Co(B:Nat)(m:FM)(k:Nat)(K:Int->Option PS)(O:Nat->Int->Option PS)(w:ew)(h:BR w B m k K O):
 fc fe 110 #[π (μ ⟨B,0,ν⟩)] w λe w'=>∃a n cap S E,e=ρ (σ a n cap)/\uv w' a n S E/\tD K n S E/\n<=6/\acL w a n cap S/\eH w w':=by
 obtain⟨kn,ow,hF,Y,hO⟩:=h.ex;refine(NI B m k kn ow (nj K) w hF Y.fine).mono ?_;rintro e w1 ⟨v,ts,rfl,Z⟩;obtain⟨a,cap,rfl,X,V,U,T⟩:=Z.lists Y;refine⟨a,ts.length,cap,_,_,rfl,X,V,U,⟨T,λi hi j Q=> ?_⟩,Z.ox⟩;have M:ts.getD i SV.zero∈ts:=by
  have:ts.getD i SV.zero=ts[i] :=by simp[List.getD,hi]
  rw[this];exact aF hi
 exact((Z.el _ M).new j Q).1
def yr(K:Int->Option PS)(i:Int):Int:=match K i with|none=>0|some _=>i
def qV(K:Int->Option PS)(i:Int):Int:=match K i with|none=>0|some q=>q.1
theorem Ld(B:Nat)(m:FM)(k:Nat)(K:Int->Option PS)(O:Nat->Int->Option PS)(i:Int)(w:ew)(h:BR w B m k K O)(X:sd i):
 fc fe 177 #[π (μ ⟨B,0,ν⟩),ι κ i] w λe w'=>∃a cap,e=ρ (τ #[.agg #[ι κ (yr K i),ι κ (qV K i),σ a (nj K i).length cap],.bool (K i).isSome])/\jm w' a (nj K i).length (nj K i)/\kY a cap/\(nj K i).length<=6/\eH w w':=by
 obtain⟨kn,ow,hF,M,hO⟩:=h.ex;cases e:K i with
 |none=>
  have J:=M.zT X e;refine(Pz B m k kn ow i SV.zero false [] w hF X (by rw[J];rfl) (by rw[J];rfl) ⟨rfl,.inl rfl⟩ eF (λ_=>rfl)).mono ?_;rintro Y w1 ⟨a,cap,rfl,T,S,Q⟩;have Y:nj K i=[] :=by simp[nj,e]
  have V:yr K i=0:=by simp[yr,e]
  have U:qV K i=0:=by simp[qV,e]
  rw[Y,V,U];exact⟨a,cap,rfl,T,S,ik,Q⟩
 |some q=>
  obtain⟨s,hs,Z⟩:=M.vy X e;have H:=(jC Z.ok).2.2.1;refine(Pz B m k kn ow i s true q.2 w hF X (by rw[hs];rfl) (by rw[hs];rfl) Z.opt (by rw[Z.n];omega) Z.nil).mono ?_;rintro Y w1 ⟨a,cap,rfl,T,S,Q⟩;have Y:nj K i=q.2:=by simp[nj,e]
  have V:yr K i=s.own:=by simp[yr,e,Z.own]
  have U:qV K i=s.seq:=by simp[qV,e,Z.seq]
  rw[Y,V,U];exact⟨a,cap,rfl,T,S,H,Q⟩
theorem SMap.obj {f:Int->Option SV} (h:SMap w b n f):∃es cl,w.heap[b]? =μ (.map es cl):=by
 obtain⟨D,⟨es,cl,Z,_⟩,_⟩:=h.own;exact⟨es,cl,Z⟩
theorem yt {c:Array eA} {fr:Nat×Nat} (hc:w.heap[g]? =μ (γ c t fr))(Z:∃es cl,w.heap[b]? =μ (.map es cl)):g≠b:=by
 obtain⟨es,cl,Z⟩:=Z;rintro rfl;rw[hc]at Z;cases Z
theorem qD {p:eh} {v:eA} (hc:w.cell? p=μ v)(Z:∃es cl,w.heap[b]? =μ (.map es cl)):p.block≠b:=by
 obtain⟨es,cl,Z⟩:=Z;rintro rfl;unfold World.cell? at hc;rw[Z]at hc;cases hc
theorem BR.maps {m:FM} {k:Nat} {K:Int->Option PS} {O:Nat->Int->Option PS} (h:BR w B m k K O):∀b,(b=m.bm \/b∈m.bs)->∃es cl,w.heap[b]? =μ (.map es cl):=by
 obtain⟨kn,ow,Z,_,_⟩:=h.ex;intro b hb;rcases hb with rfl|hb
 {exact Z.km.obj};{obtain⟨i,hi,rfl⟩:=dk hb;exact(Z.om i _ (aw hi)).obj}
theorem BR.mlt {m:FM} {k:Nat} {K:Int->Option PS} {O:Nat->Int->Option PS} (h:BR w B m k K O):∀b,(b=m.bm \/b∈m.bs)->b<w.heap.size:=by
 intro b hb;obtain⟨es,cl,Z⟩:=h.maps b hb;exact(ay.1 Z).1
theorem jP.cell {w w':ew} {B:Nat} {m:FM} {k:Nat} {K:Int->Option PS} {O:Nat->Int->Option PS} (Z:jP w w' m)(h:BR w B m k K O) {p:eh} {v:eA} (hc:w.cell? p=μ v):w'.cell? p=μ v:=by
 rw[aj (w:=w) (Z.block p.block (ag w _ hc) (qD hc (h.maps _ (.inl rfl))) (λe=>qD hc (h.maps _ (.inr e)) rfl))];exact hc
theorem jm.two {m:FM} {k:Nat} {K:Int->Option PS} {O:Nat->Int->Option PS} {a:Option eh} {es:List jQ} (h:jm w a n es)(X:jP w w' m)(hb:BR w B m k K O):jm w' a n es:=by
 refine⟨h.1,?_⟩;rcases h.2 with Z|⟨b,off,rfl,Z⟩
 {exact .inl Z};{exact .inr ⟨b,off,rfl,λj Y=>⟨X.cell hb (Z j Y).1,X.cell hb (Z j Y).2⟩⟩}
