import Derived.Test.YtieklnlbljejdaaGreatDoorT00
open Go.Value renaming int → ι, slice → σ, tuple → τ, nilIface → η
open Go.IntKind renaming i64 → κ
open Go.Ending renaming returned → ρ
open Go.Obj renaming cells → γ
open Option renaming none → ν, some → μ
open List renaming length_cons → eE
open Prod.mk renaming injEq → eR
open Go.Proofs.Tryz renaming prog → eN
open Go renaming World → dN, Calls → eM, Addr → dM, Value → dO
open Go.Value renaming ownBlock → dQ
open Go.Maps renaming atKey_put_other → eT, atKey_del_other → eV
open Go.Instr renaming lookup → eU
open Go.Builtin renaming clear_ → eW
set_option maxRecDepth 100000
set_option maxHeartbeats 4000000
open Go.Proofs.Tryz
namespace Go.Proofs.YtieklnlbljejdaaGreatDoor
namespace St
variable {a b s1 s2:Int}
abbrev Ed:=Int×Int
def pL(own:Int):Int->List Ed->Nat
 |_,[] =>0
 |ah,e::r=>if e.1<1 \/6<e.1 \/e.2<1 \/20<e.2 then 1 else if e.1=own \/e.1<=ah then 3 else pL own e.1 r
def ox(own seq:Int)(es:List Ed):Nat:=if own<1 \/6<own \/seq<1 \/1000000<seq then 1 else if 6<es.length then 2 else pL own 0 es
theorem jk {own seq:Int} {es:List Ed} (h:ox own seq es=0):(1<=own/\own<=6)/\(1<=seq/\seq<=1000000)/\es.length<=6/\pL own 0 es=0:=by
 unfold ox at h;split at h
 ·simp at h
 ·split at h
  ·simp at h
  ·exact⟨dP,dP,dP,h⟩
theorem qF(own:Int):∀(es:List Ed) (Y:Int),pL own Y es=0->∀e∈es,(1<=e.1/\e.1<=6)/\(1<=e.2/\e.2<=20)
 |[],_,_,e,Z=>by simp at Z
 |x::r,Y,h,e,Z=>by
  unfold pL at h;split at h
  ·simp at h
  ·split at h
   ·simp at h
   ·rcases a7.1 Z with rfl|Z
    ·omega
    ·exact qF own r _ h e Z
def u8(x:Int):UInt8:=UInt8.ofNat x.toNat
theorem oe(x:Int)(h0:0<=x)(h1:x<=255):((u8 x).toNat:Int)=x:=by
 unfold u8;rw[UInt8.toNat_ofNat_of_lt' (by show x.toNat<256;omega)];omega
def I3(es:List Ed):List UInt8:=es.flatMap λo=>[u8 o.1,u8 o.2]
theorem Pu(os:List Ed)(o:Ed):I3 (os++ [o])=I3 os++ [u8 o.1,u8 o.2] :=by simp[I3]
theorem vN(os:List Ed):(I3 os).length=2*os.length:=by
 induction os with
 |nil=>rfl
 |cons o r ih=>simp only[I3,List.flatMap_cons,List.length_append,eE,List.length_nil]at ih⊢;omega
def rM(own seq:Int)(es:List Ed):List UInt8:=u8 own::u8 (seq%256)::u8 (seq/256%256)::u8 (seq/65536)::I3 es
def pairs:List UInt8->List Ed
 |k::n::r=>((k.toNat:Int),(n.toNat:Int))::pairs r
 |_=>[]
theorem wZ:∀l:List UInt8,(pairs l).length=l.length/2
 |[] =>rfl
 |[_] =>by simp[pairs]
 |a::b::r=>by
  have ih:=wZ r;simp only[pairs,eE,ih];omega
theorem Dp:∀(os:List Ed),(∀o∈os,(0<=o.1/\o.1<=255)/\(0<=o.2/\o.2<=255))->pairs (I3 os)=os
 |[],_=>rfl
 |o::r,h=>by
  have X:I3 (o::r)=u8 o.1::u8 o.2::I3 r:=by simp[I3]
  obtain⟨Z,Y⟩:=h o gN;rw[X,pairs,oe o.1 Z.1 Z.2,oe o.2 Y.1 Y.2,Dp r (λx hx=>h x (by simp[hx]))]
def Gh(l:List UInt8):Int:=((l.getD 1 0).toNat:Int)+256*((l.getD 2 0).toNat:Int)+65536*((l.getD 3 0).toNat:Int)
def ik(l:List UInt8):Int×Int×List Ed×Nat:=
 if l.length<4 \/l.length%2=1 then(0,0,[],4)
 else if ox ((l.getD 0 0).toNat:Int) (Gh l) (pairs (l.drop 4))=0 then(((l.getD 0 0).toNat:Int),Gh l,pairs (l.drop 4),0)
 else(0,0,[],4)
theorem Gi(l:List UInt8)(h:16<l.length):ik l=(0,0,[],4):=by
 unfold ik;split
 ·rfl
 ·rename_i h1
  have hl:6<(pairs (l.drop 4)).length:=by rw[wZ];simp;omega
  split
  ·rename_i Z
   have:=(jk Z).2.2.1;omega
  ·rfl
theorem tM(own seq:Int)(es:List Ed)(hf:ox own seq es=0):ik (rM own seq es)=(own,seq,es,0):=by
 obtain⟨p1,p2,p3,V⟩:=jk hf;have X:=qF own es 0 V;have hl:(rM own seq es).length=4+2*es.length:=by
  unfold rM;simp only[eE,vN];omega
 have g0:(rM own seq es).getD 0 0=u8 own:=rfl;have Z:(rM own seq es).drop 4=I3 es:=rfl;have hs:Gh (rM own seq es)=seq:=by
  show((u8 (seq%256)).toNat:Int)+256*((u8 (seq/256%256)).toNat:Int)+65536*((u8 (seq/65536)).toNat:Int)=seq;rw[oe _ dP dP,oe _ dP dP,oe _ dP dP];omega
 unfold ik;rw[g0,Z,hs,oe own dP dP,Dp es (λo Y=>by have:=X o Y;omega),hl,ae dP,ag hf]
def ln(a b:Int):Int:=if a<b then-1 else if b<a then 1 else 0
def vO(a b:Ed):Int:=if ln a.1 b.1≠0 then ln a.1 b.1 else ln a.2 b.2
def kY:List Ed->List Ed->Int
 |[],[] =>0
 |[],_::_=> -1
 |_::_,[] =>1
 |a::r,b::q=>if vO a b≠0 then vO a b else kY r q
def l5(s1:Int)(e1:List Ed)(s2:Int)(e2:List Ed):Int:=if ln s1 s2≠0 then ln s1 s2 else kY e1 e2
theorem MK(a b:Int):ln a b= -ln b a:=by unfold ln;split<;>split<;>(try split)<;>omega
theorem mE:ln a b=0↔a=b:=by unfold ln;constructor<;>intro h<;>(try split at h)<;>(try split at h)<;>(try split)<;>(try split)<;>omega
theorem Jl(a b:Int):ln a b= -1 \/ln a b=0 \/ln a b=1:=by unfold ln;split<;>(try split)<;>simp
theorem rN:0<ln a b↔b<a:=by unfold ln;split<;>(try split)<;>omega
theorem pq(a b:Ed):(vO a b=1/\(b.1<a.1 \/b.1=a.1/\b.2<a.2)) \/(vO a b= -1/\(a.1<b.1 \/a.1=b.1/\a.2<b.2)) \/(vO a b=0/\a=b):=by
 obtain⟨a1,a2⟩:=a;obtain⟨b1,b2⟩:=b;simp only[vO,ln,eR]
 repeat' split
 all_goals omega
theorem ML(a b:Ed):vO a b= -vO b a:=by
 obtain⟨a1,a2⟩:=a;obtain⟨b1,b2⟩:=b;simp only[vO,ln]
 repeat' split
 all_goals omega
theorem AU:∀a b:List Ed,kY a b= -1 \/kY a b=0 \/kY a b=1
 |[],[] =>by simp[kY]
 |[],_::_=>by simp[kY]
 |_::_,[] =>by simp[kY]
 |a::r,b::q=>by
  unfold kY;split
  ·rcases pq a b with h|h|h<;>simp[h.1]
  ·exact AU r q
theorem Dq:∀a b:List Ed,kY a b= -kY b a
 |[],[] =>by simp[kY]
 |[],_::_=>by simp[kY]
 |_::_,[] =>by simp[kY]
 |a::r,b::q=>by
  have h:=ML a b;have ih:=Dq r q;unfold kY;split<;>split<;>omega
theorem Dr:∀ {a b:List Ed},kY a b=0↔a=b
 |[],[] =>by simp[kY]
 |[],_::_=>by simp[kY]
 |_::_,[] =>by simp[kY]
 |a::r,b::q=>by
  have ih:= @Dr r q;unfold kY;rcases pq a b with h|h|h
  ·rw[ag dP,h.1];constructor
   ·intro e;simp at e
   ·intro e;obtain⟨Z,Y⟩:=a;obtain⟨b1,b2⟩:=b;simp at e h;omega
  ·rw[ag dP,h.1];constructor
   ·intro e;simp at e
   ·intro e;obtain⟨Z,Y⟩:=a;obtain⟨b1,b2⟩:=b;simp at e h;omega
  ·rw[ae dP,ih];simp[h.2]
theorem AW:∀ {a b c:List Ed},0<=kY a b->0<=kY b c->0<=kY a c/\(0<kY a b \/0<kY b c->0<kY a c)
 |[],[],[],_,_=>by simp[kY]
 |[],[],_::_,_,h=>by simp[kY]at h
 |[],_::_,_,h,_=>by simp[kY]at h
 |_::_,[],[],_,_=>by simp[kY]
 |_::_,[],_::_,_,h=>by simp[kY]at h
 |_::_,_::_,[],_,_=>by simp[kY]
 |a::r,b::q,c::s,h1,h2=>by
  have ih:= @AW r q s;unfold kY at h1 h2⊢;rcases pq a b with⟨Y,U⟩|⟨Y,U⟩|⟨Y,rfl⟩
  ·rcases pq b c with⟨Z,V⟩|⟨Z,V⟩|⟨Z,rfl⟩
   ·rcases pq a c with⟨X,T⟩|⟨X,T⟩|⟨X,rfl⟩
    ·simp[X]
    ·omega
    ·omega
   ·simp[Z]at h2
   ·simp[Y]
  ·simp[Y]at h1
  ·rcases pq a c with⟨Z,V⟩|⟨Z,V⟩|⟨Z,rfl⟩
   ·simp[Z]
   ·simp[Z]at h2
   ·simp only[Y]at h1 h2⊢;simp at h1 h2⊢;exact ih h1 h2
theorem MN(s1 s2:Int)(Z Y:List Ed):l5 s1 Z s2 Y= -l5 s2 Y s1 Z:=by
 have h:=MK s1 s2;have ih:=Dq Z Y;unfold l5;split<;>split<;>omega
theorem MO {e1 e2:List Ed}:l5 s1 e1 s2 e2=0↔s1=s2/\e1=e2:=by
 unfold l5;split
 ·rename_i h
  constructor
  ·intro e;exact absurd e h
  ·intro⟨e,_⟩;exact absurd (mE.2 e) h
 ·rename_i h
  have:s1=s2:=mE.1 dP;rw[Dr];simp[this]
theorem AX(s1 s2:Int)(Z Y:List Ed):l5 s1 Z s2 Y= -1 \/l5 s1 Z s2 Y=0 \/l5 s1 Z s2 Y=1:=by
 unfold l5;split
 ·rcases Jl s1 s2 with h|h|h<;>simp[h]
 ·exact AU Z Y
theorem AY {s3:Int} {e1 e2 e3:List Ed} (Y:0<=l5 s1 e1 s2 e2)(Z:0<=l5 s2 e2 s3 e3):0<=l5 s1 e1 s3 e3/\(0<l5 s1 e1 s2 e2 \/0<l5 s2 e2 s3 e3->0<l5 s1 e1 s3 e3):=by
 unfold l5 at Y Z⊢;by_cases a:s1=s2
 ·by_cases b:s2=s3
  ·have c:s1=s3:=a.trans b;rw[ae (by simp[mE.2 a])]at Y;rw[ae (by simp[mE.2 b])]at Z;have X:=mE.2 a;have hb:=mE.2 b;have hc:=mE.2 c;rw[ae (show¬ln s1 s2≠0 by omega),ae (show¬ln s2 s3≠0 by omega),ae (show¬ln s1 s3≠0 by omega)];exact AW Y Z
  ·have hb:ln s2 s3≠0:=λe=>b (mE.1 e);rw[ag hb]at Z;have p:s3<s2:=rN.1 dP;have q:0<ln s1 s3:=rN.2 dP;rw[ag (show ln s1 s3≠0 by omega)];exact⟨dP,λ_=>q⟩
 ·have X:ln s1 s2≠0:=λe=>a (mE.1 e);rw[ag X]at Y;have p:s2<s1:=rN.1 dP;have p2:s3<=s2:=by
   by_cases b:ln s2 s3=0
   ·have:=mE.1 b;omega
   ·rw[ag b]at Z;have:=rN.1 (show 0<ln s2 s3 by omega);omega
  have q:0<ln s1 s3:=rN.2 dP;rw[ag (show ln s1 s3≠0 by omega)];exact⟨dP,λ_=>q⟩
end St
open Go.RowKit St
variable {b n:Nat} {k:Int} {w w':World}
theorem AZ:(eN.info? 123).map (λi=>(i.zero,i.size,i.bytes))=μ (μ (.agg #[ι κ 0,ι κ 0]),2,16):=gJ
theorem oy(w:dN):(zeroValue 40).run eN w=.ok (.agg #[ι κ 0,ι κ 0,σ ν 0 0]) w:=gJ
def Pv(n:Int):Bool:=decide (1<=n)&&decide (n<=6)
theorem sG(n:Int)(w:dN):eM eN 167 #[ι κ n] w λe w'=>e=ρ (.bool (Pv n))/\w=w':=by
 by_cases Z:1<=n
 ·by_cases Y:n<=6
  ·have hb:Pv n=true:=by simp[Pv,Z,Y]
   rw[hb];clear hb
   go_in
   go_wp2
   go_ret;exact⟨by first|rfl|(simp;omega),rfl⟩
  ·have hb:Pv n=false:=by simp[Pv,Y]
   rw[hb];clear hb
   go_in
   go_wp2
   go_ret;exact⟨by first|rfl|(simp;omega),rfl⟩
 ·have hb:Pv n=false:=by simp[Pv,Z]
  rw[hb];clear hb
  go_in
  go_wp2
  go_ret;exact⟨by first|rfl|(simp;omega),rfl⟩
theorem A1(n:Int)(h0:¬n<1)(h1:¬6<n):Pv n=true:=by simp[Pv];omega
theorem yh(n:Int)(h:n<1 \/6<n):Pv n=false:=by simp[Pv];omega
theorem A2(own:Int)(a:Option dM)(n cap:Nat)(os:List jv)(w:dN)(hn:n<=1000000)(M:iK w a n os):
 eM eN 168 #[ι κ own,σ a n cap] w λe w'=>e=ρ (iP (pL own 0 os))/\dV w w':=by
 have E:iP 0=η:=rfl;have D:iP 1=.iface 128 (ι κ 1):=rfl;have A:iP 3=.iface 128 (ι κ 3):=rfl;have t:Hid _:=E;have Q:Hid _:=D;have H:Hid _:=A;clear E D A
 go_in
 go_wp2
 go_loopw [5,10] (λah i wr=>∃(k:Nat) (h:Int),k<=n/\ah=ι κ h/\i=ι κ k/\pL own 0 os=pL own h (os.drop k)/\dV w wr) (λ_ i _=>n-(intOf i).toNat)
 case atStart=>exact⟨0,0,Nat.zero_le _,rfl,rfl,rfl,aq _ _⟩
 case round=>
  obtain⟨k,h,hk,rfl,rfl,G,S⟩:=hrel;have T:Hid _:=G;clear G;by_cases kc:k<n
  ·have J:=M.below S;rcases J.2 with h0|⟨b,off,rfl,hc⟩
   ·omega
   have y:k<os.length:=by rw[M.1];exact kc
   obtain⟨c1,c2⟩:=hc k y;have U:Hid (os.drop k=os[k] ::os.drop (k+1)):=aO y;generalize os[k] =o at c1 c2 U;clear hc J;have nh:(k:Int)<(n:Int):=dP;have X:=S.alloc S.size (γ #[ι κ o.1,ι κ o.2] 123);have Y:=sG o.1 (wr.alloc (γ #[ι κ o.1,ι κ o.2] 123));have one:(o.1<1 \/6<o.1 \/o.2<1 \/20<o.2)->Hid (pL own 0 os=1):=λhh=>by
    show _=_;rw[T.out,U.out,pL,ag hh]
   by_cases r1:o.1<1 \/6<o.1
   ·have Z:=one dP;rw[yh o.1 r1]at Y;clear one;go_wp2_with(fail);refine Y.mono ?_;rintro e V ⟨rfl,rfl⟩;go_wp2_with(fail);rw[Z.out,Q.out];go_ret;exact⟨rfl,X⟩
   rw[A1 o.1 dP dP]at Y;by_cases r2:o.2<1
   ·have Z:=one dP;clear one;go_wp2_with(fail);refine Y.mono ?_;rintro e V ⟨rfl,rfl⟩;go_wp2_with(fail);rw[Z.out,Q.out];go_ret;exact⟨rfl,X⟩
   by_cases r3:20<o.2
   ·have Z:=one dP;clear one;go_wp2_with(fail);refine Y.mono ?_;rintro e V ⟨rfl,rfl⟩;go_wp2_with(fail);rw[Z.out,Q.out];go_ret;exact⟨rfl,X⟩
   have three:(o.1=own \/o.1<=h)->Hid (pL own 0 os=3):=λhh=>by
    show _=_;rw[T.out,U.out,pL,ae dP,ag hh]
   clear one;cases u:(o.1==own)
   ·by_cases r5:o.1<=h
    ·have Z:=three (.inr r5);clear three;go_wp2_with(fail);refine Y.mono ?_;rintro e V ⟨rfl,rfl⟩;go_wp2_with(fail);rw[Z.out,H.out];go_ret;exact⟨rfl,X⟩
    ·have j:Hid (pL own 0 os=pL own o.1 (os.drop (k+1))):=by
      show _=_;have r4':¬o.1=own:=by simpa using u
      rw[T.out,U.out,pL,ae dP,ae dP]
     clear three;go_wp2_with(fail);refine Y.mono ?_;rintro e V ⟨rfl,rfl⟩
     go_wp2
     go_roundw
     case rel=>exact⟨k+1,_,dP,rfl,by go_num,j.out,X⟩
     case measure=>simp[intOf];omega
   ·have Z:=three (.inl (by simpa using u));clear three;go_wp2_with(fail);refine Y.mono ?_;rintro e V ⟨rfl,rfl⟩;go_wp2_with(fail);rw[Z.out,H.out];go_ret;exact⟨rfl,X⟩
  ·have Z:Hid (pL own 0 os=0):=by
    show _=_;rw[T.out,aU (by rw[M.1];omega),pL]
   go_wp2_with(fail);rw[Z.out,t.out];go_ret;exact⟨rfl,S⟩
theorem vP(own seq:Int)(a:Option dM)(n cap:Nat)(os:List jv)(w:dN)(Q:n<=1000000)(T:iK w a n os):
 eM eN 117 #[.agg #[ι κ own,ι κ seq,σ a n cap]] w λe w'=>e=ρ (iP (ox own seq os))/\dV w w':=by
 have X:=gM w (γ #[ι κ own,ι κ seq,σ a n cap] 40);have U:Hid (iP 1=.iface 128 (ι κ 1)):=rfl;have S:Hid (iP 2=.iface 128 (ι κ 2)):=rfl;have hl:=T.1;have Y:=sG own (w.alloc (γ #[ι κ own,ι κ seq,σ a n cap] 40));have one:(own<1 \/6<own \/seq<1 \/1000000<seq)->Hid (ox own seq os=1):=λhh=>by show _=_;rw[ox,ag hh]
 by_cases r1:own<1 \/6<own
 ·have Z:=one dP;rw[yh own r1]at Y;clear one
  go_in
  go_wp2_with(fail);refine Y.mono ?_;rintro e V ⟨rfl,rfl⟩;go_wp2_with(fail);rw[Z.out,U.out];go_ret;exact⟨rfl,X⟩
 rw[A1 own dP dP]at Y;by_cases r2:seq<1
 ·have Z:=one dP;clear one
  go_in
  go_wp2_with(fail);refine Y.mono ?_;rintro e V ⟨rfl,rfl⟩;go_wp2_with(fail);rw[Z.out,U.out];go_ret;exact⟨rfl,X⟩
 by_cases r3:1000000<seq
 ·have Z:=one dP;clear one
  go_in
  go_wp2_with(fail);refine Y.mono ?_;rintro e V ⟨rfl,rfl⟩;go_wp2_with(fail);rw[Z.out,U.out];go_ret;exact⟨rfl,X⟩
 clear one;by_cases r4:(6:Int)<(n:Int)
 ·have Z:Hid (ox own seq os=2):=by show _=_;rw[ox,ae dP,ag dP]
  go_in
  go_wp2_with(fail);refine Y.mono ?_;rintro e V ⟨rfl,rfl⟩;go_wp2_with(fail);rw[Z.out,S.out];go_ret;exact⟨rfl,X⟩
 ·have Z:Hid (ox own seq os=pL own 0 os):=by show _=_;rw[ox,ae dP,ae dP]
  have hc:=A2 own a n cap os _ Q (T.below X)
  go_in
  go_wp2_with(fail);refine Y.mono ?_;rintro e V ⟨rfl,rfl⟩;go_wp2_with(fail);refine hc.mono ?_;rintro e w2 ⟨rfl,k2⟩;go_wp2_with(fail);rw[Z.out];go_ret;exact⟨rfl,gD X k2⟩
theorem aeq {w1:dN} {x y z:dO} {t:TypeId} (hb:Below (w.alloc (γ #[x,y,z] t)).heap.size (w.alloc (γ #[x,y,z] t)) w1):
 w1.cell? ⟨w.heap.size,0,ν⟩=μ x/\w1.cell? ⟨w.heap.size,1,ν⟩=μ y/\w1.cell? ⟨w.heap.size,2,ν⟩=μ z/\w.heap.size<w1.heap.size:=by
 have Z:w.heap.size<(w.alloc (γ #[x,y,z] t)).heap.size:=gN;have hA:=λj=>aj w #[x,y,z] t (0,0) j;exact⟨(hb.cell (p:=⟨w.heap.size,0,ν⟩) Z).trans (hA 0),(hb.cell (p:=⟨w.heap.size,1,ν⟩) Z).trans (hA 1),(hb.cell (p:=⟨w.heap.size,2,ν⟩) Z).trans (hA 2),Nat.lt_of_lt_of_le Z hb.size⟩
def ahead(os:List jv)(k:Nat):Int:=if k=0 then 0 else(os.getD (k-1) (0,0)).1
theorem EG(a:Int)(w:dN):eM eN 222 #[ι κ a] w λe w'=>e=ρ (.bool false)/\w=w':=by
 have h:(a !=a)=false:=gN
 go_in
 go_wp2
 go_ret;exact⟨rfl,rfl⟩
theorem qZ(a b:Int)(w:dN):eM eN 204 #[ι κ a,ι κ b] w λe w'=>e=ρ (ι κ (ln a b))/\w=w':=by
 by_cases Z:a<b
 ·have hv:ln a b= -1:=by simp[ln,Z]
  rw[hv];clear hv
  go_in
  go_wp2_with(go_at_call 222;refine(EG _ _).mono ?_;rintro e X ⟨rfl,rfl⟩);go_ret;exact⟨rfl,rfl⟩
 ·by_cases Y:b<a
  ·have hv:ln a b=1:=by simp[ln,Z,Y]
   rw[hv];clear hv
   go_in
   go_wp2_with(go_at_call 222;refine(EG _ _).mono ?_;rintro e X ⟨rfl,rfl⟩);go_ret;exact⟨rfl,rfl⟩
  ·have hv:ln a b=0:=by simp[ln,Z,Y]
   rw[hv];clear hv
   go_in
   go_wp2_with(go_at_call 222;refine(EG _ _).mono ?_;rintro e X ⟨rfl,rfl⟩);go_ret;exact⟨rfl,rfl⟩
theorem WE(g cap:Nat)(x y:Int)(w:dN)(Z:w.cell? ⟨g,0,ν⟩=μ (ι κ x))(h1:w.cell? ⟨g,1,ν⟩=μ (ι κ y)):
 eM eN 215 #[σ (μ ⟨g,0,ν⟩) 2 cap] w λe w'=>e=ρ (ι κ (if x≠0 then x else y))/\w=w':=by
 have hg:g<w.heap.size:=af w _ Z;cases q:(x !=0)
 ·have hx:x=0:=by simpa using q
  cases q2:(y !=0)
  ·have hy:y=0:=by simpa using q2
   have hv:(if x≠0 then x else y)=0:=by simp[hx,hy]
   rw[hv];clear hv hx hy
   go_in
   go_wp2_with(fail);refine bQ 3 ?_;rw[bH];go_wp2_with(fail);rw[bH];go_wp2_with(fail);rw[bH]
   go_wp2
   go_ret;exact⟨rfl,rfl⟩
  ·have hv:(if x≠0 then x else y)=y:=by simp[hx]
   rw[hv];clear hv hx
   go_in
   go_wp2_with(fail);refine bQ 3 ?_;rw[bH];go_wp2_with(fail);rw[bH]
   go_wp2
   go_ret;exact⟨rfl,rfl⟩
 ·have hx:¬x=0:=by simpa using q
  have hv:(if x≠0 then x else y)=x:=by simp[hx]
  rw[hv];clear hv hx
  go_in
  go_wp2_with(fail);refine bQ 3 ?_;rw[bH]
  go_wp2
  go_ret;exact⟨rfl,rfl⟩
theorem Lc(W:dN)(x y:dO)(t:TypeId)(g:Nat)(Z:W.heap.size=g):(W.alloc (γ #[x,y] t)).drew.cell? ⟨g,0,ν⟩=μ x/\(W.alloc (γ #[x,y] t)).drew.cell? ⟨g,1,ν⟩=μ y:=by
 subst Z;exact⟨aj W #[x,y] t (0,0) 0,aj W #[x,y] t (0,0) 1⟩
theorem Pw(a b c d:Int)(w:dN):eM eN 214 #[.agg #[ι κ a,ι κ b],.agg #[ι κ c,ι κ d]] w λe w'=>e=ρ (ι κ (vO (a,b) (c,d)))/\dV w w':=by
 have M:dV w ((w.alloc (γ #[ι κ a,ι κ b] 123)).alloc (γ #[ι κ c,ι κ d] 123)):=(gM _ _).alloc gN _;obtain⟨p,S⟩:=fP (ln a c);obtain⟨q,Q⟩:=fP (ln b d);have hv:vO (a,b) (c,d)=if p≠0 then p else q:=by simp[vO,S,Q]
 have U:=λ(g cap:Nat) (W:dN) y V=>WE g cap p q W y V;rw[hv];generalize (if p≠0 then p else q)=r at U;have A:Hid _:=U;clear U;have V:=λW=>qZ a c W;have H:=λW=>qZ b d W;rw[S]at V;rw[Q]at H;clear hv S Q
 go_in
 go_wp2_with(fail);obtain⟨Z,Y⟩:=fP ((w.alloc (γ #[ι κ a,ι κ b] 123)).alloc (γ #[ι κ c,ι κ d] 123));have hs:Z.heap.size=w.heap.size+1+1:=by rw[<-Y];simp
 have x0:Z.cell? ⟨w.heap.size,0,ν⟩=μ (ι κ a):=by rw[<-Y];exact((gM _ _).cell (p:=⟨w.heap.size,0,ν⟩) gN).trans (aj w #[ι κ a,ι κ b] 123 (0,0) 0)
 have x1:Z.cell? ⟨w.heap.size,1,ν⟩=μ (ι κ b):=by rw[<-Y];exact((gM _ _).cell (p:=⟨w.heap.size,1,ν⟩) gN).trans (aj w #[ι κ a,ι κ b] 123 (0,0) 1)
 have J:Z.cell? ⟨w.heap.size+1,0,ν⟩=μ (ι κ c):=by rw[<-Y];simp
 have E:Z.cell? ⟨w.heap.size+1,1,ν⟩=μ (ι κ d):=by rw[<-Y];simp
 have u:w.heap.size<Z.heap.size:=af Z _ x0;have t:w.heap.size+1<Z.heap.size:=af Z _ J;rw[Y]at M⊢;have HS:Hid _:=hs;clear Y hs;obtain⟨X,T⟩:=fP (w.heap.size);have HX:Hid _:=T;rw[T]at x0 x1 J E u t⊢;clear T;have D:Z.drew.cell? ⟨X,0,ν⟩=μ (ι κ a)/\Z.drew.cell? ⟨X,1,ν⟩=μ (ι κ b)/\Z.drew.cell? ⟨X+1,0,ν⟩=μ (ι κ c)/\Z.drew.cell? ⟨X+1,1,ν⟩=μ (ι κ d):=⟨x0,x1,J,E⟩
 go_region_held3(λx=>x.cell? ⟨X,0,ν⟩=μ (ι κ a)/\x.cell? ⟨X,1,ν⟩=μ (ι κ b)/\x.cell? ⟨X+1,0,ν⟩=μ (ι κ c)/\x.cell? ⟨X+1,1,ν⟩=μ (ι κ d))
  (first|assumption|exact D|go_keep)
  (first
   |(go_at_call_of 204 a;refine(V _).mono ?_;rintro e G ⟨rfl,rfl⟩)
   |(go_at_call_of 204 b;refine(H _).mono ?_;rintro e G ⟨rfl,rfl⟩)
   |(go_at_call 215;refine(A.out _ _ _ (Lc _ _ _ _ _ (by rfl)).1 (Lc _ _ _ _ _ (by rfl)).2).mono ?_;rintro e G ⟨rfl,rfl⟩))
 all_goals
  go_wp2
  go_ret;exact⟨rfl,below_drewN (M.alloc M.size _) 1⟩
theorem zS(a b:Option dM)(n m ca y:Nat)(es fs:List jv)(w:dN)(E:iK w a n es)(hb:iK w b m fs)(hn:n<=1000000):
 eM eN 213 #[σ a n ca,σ b m y,.func (.func 214) #[] #[]] w λe w'=>e=ρ (ι κ (kY es fs))/\dV w w':=by
 have hla:=E.1;have SJ:=hb.1
 go_in
 go_wp2
 go_loopw [13] (λi wr=>∃k:Nat,k<=n/\k<=m/\i=ι κ k/\kY es fs=kY (es.drop k) (fs.drop k)/\dV w wr) (λi _=>n-(intOf i).toNat)
 case atStart=>exact⟨0,Nat.zero_le _,Nat.zero_le _,rfl,rfl,aq _ _⟩
 case round=>
  obtain⟨k,hk,Zh,rfl,H,X⟩:=hrel;have V:Hid _:=H;clear H;by_cases kc:k<n
  ·have nh:(k:Int)<(n:Int):=dP;rcases(E.below X).2 with u|⟨b1,o1,rfl,hA⟩
   ·omega
   obtain⟨c1,c2⟩:=hA k dP;have Y:Hid (es.drop k=es[k]'(by omega)::es.drop (k+1)):=aO dP;generalize es[k]'(by omega)=o at c1 c2 Y;clear hA;have U:=X.alloc X.size (γ #[ι κ o.1,ι κ o.2] 123);by_cases hlm:k<m
   ·have Q:¬(m:Int)<=(k:Int):=dP;have ajt:(k:Int)<(m:Int):=dP;rcases(hb.below U).2 with u|⟨b2,o2,rfl,G⟩
    ·omega
    obtain⟨c3,c4⟩:=G k dP;have J:Hid (fs.drop k=fs[k]'(by omega)::fs.drop (k+1)):=aO dP;generalize fs[k]'(by omega)=q at c3 c4 J;clear G;have A:=U.alloc U.size (γ #[ι κ q.1,ι κ q.2] 123);have hc:=λW=>Pw o.1 o.2 q.1 q.2 W;have Z:Hid (kY es fs=if vO (o.1,o.2) (q.1,q.2)≠0 then vO (o.1,o.2) (q.1,q.2)else kY (es.drop (k+1)) (fs.drop (k+1))):=by
     show _=_;rw[V.out,Y.out,J.out,kY]
    generalize vO (o.1,o.2) (q.1,q.2)=r at hc Z;cases D:(r !=0)
    ·have T:Hid (kY es fs=kY (es.drop (k+1)) (fs.drop (k+1))):=by
      show _=_;have S:r=0:=by simpa using D
      rw[Z.out,S];simp
     go_wp2_with(fail);refine(hc _).mono ?_;rintro e t ⟨rfl,k1⟩;have M:=gD A k1;clear hc
     go_wp2
     go_roundw
     case rel=>exact⟨k+1,dP,dP,by go_num,T.out,M⟩
     case measure=>simp[intOf];omega
    ·have T:Hid (kY es fs=r):=by
      show _=_;have S:¬r=0:=by simpa using D
      rw[Z.out,ag S]
     go_wp2_with(fail);refine(hc _).mono ?_;rintro e t ⟨rfl,k1⟩;have M:=gD A k1;clear hc;go_wp2_with(fail);rw[T.out];go_ret;exact⟨rfl,M⟩
   ·have Q:(m:Int)<=(k:Int):=dP;have Z:Hid (kY es fs=1):=by
     show _=_;rw[V.out,Y.out,aU (show fs.length<=k by omega),kY]
    go_wp2_with(fail);rw[Z.out];go_ret;exact⟨rfl,U⟩
  ·have zN:¬(k:Int)<(n:Int):=dP;have Y:es.drop k=[] :=aU dP;by_cases Ld:(n:Int)<(m:Int)
   ·have Z:Hid (kY es fs= -1):=by
     show _=_;rw[V.out,Y,aO (show k<fs.length by omega),kY]
    clear Y;go_wp2_with(fail);rw[Z.out];go_ret;exact⟨rfl,X⟩
   ·have Z:Hid (kY es fs=0):=by
     show _=_;rw[V.out,Y,aU (show fs.length<=k by omega),kY]
    clear Y;go_wp2_with(fail);rw[Z.out];go_ret;exact⟨rfl,X⟩
theorem Ds(o1 s1 o2 s2:Int)(a b:Option dM)(n m ca X:Nat)(es fs:List jv)(w:dN)(S:iK w a n es)(hb:iK w b m fs)(Q:n<=1000000):
 eM eN 189 #[.agg #[ι κ o1,ι κ s1,σ a n ca],.agg #[ι κ o2,ι κ s2,σ b m X]] w λe w'=>e=ρ (ι κ (l5 s1 es s2 fs))/\dV w w':=by
 have T:dV w ((w.alloc (γ #[ι κ o1,ι κ s1,σ a n ca] 40)).alloc (γ #[ι κ o2,ι κ s2,σ b m X] 40)):=(gM _ _).alloc gN _;have Y:=qZ s1 s2 ((w.alloc (γ #[ι κ o1,ι κ s1,σ a n ca] 40)).alloc (γ #[ι κ o2,ι κ s2,σ b m X] 40));have V:=zS a b n m ca X es fs _ (S.below T) (hb.below T) Q;have hv:l5 s1 es s2 fs=if ln s1 s2≠0 then ln s1 s2 else kY es fs:=rfl
 rw[hv];clear hv;generalize kY es fs=q at V;generalize ln s1 s2=r at Y;cases U:(r !=0)
 ·have Z:(if r≠0 then r else q)=q:=by simp at U;simp[U]
  rw[Z];clear Z
  go_in
  go_wp2_with(fail);refine Y.mono ?_;rintro e M ⟨rfl,rfl⟩;clear Y;go_wp2_with(fail);refine V.mono ?_;rintro e w2 ⟨rfl,k2⟩;clear V
  go_wp2
  go_ret;exact⟨rfl,gD T k2⟩
 ·have Z:(if r≠0 then r else q)=r:=by simp at U;simp[U]
  rw[Z];clear Z V
  go_in
  go_wp2_with(fail);refine Y.mono ?_;rintro e M ⟨rfl,rfl⟩;clear Y
  go_wp2
  go_ret;exact⟨rfl,T⟩
theorem Gj(a:dM)(n cap:Nat)(w:dN):(binOp .eql 38 (σ (μ a) n cap) (σ ν 0 0)).run eN w=.ok (.bool false) w:=gJ
theorem Tt(w:dN):(binOp .eql 38 (σ ν 0 0) (σ ν 0 0)).run eN w=.ok (.bool true) w:=gJ
theorem zc(a:dM)(cap:Nat)(w:dN):
 eM eN 206 #[σ (μ a) 0 cap] w λe w'=>∃(v:dO),e=ρ v/\Made w w' v [] :=by
 have hq:=Gj
 go_in
 go_wp2
 go_ret;exact⟨_,rfl,⟨Row.made w 2 _ #[] (0,0) 0 0 [] rfl rfl (Nat.le_refl _) dS (.inl rfl) gN,λj Z=>j7 (Nat.le_refl _) Z,gM _ _⟩⟩
theorem Jm(w:dN):
 eM eN 206 #[σ ν 0 0] w λe w'=>∃(v:dO),e=ρ v/\Made w w' v [] :=by
 have hq:=Tt
 go_in
 go_wp2
 go_ret;exact⟨_,rfl,⟨Row.nil w 2,λj Z=>mB Z,aq _ _⟩⟩
theorem Gk(b off n cap:Nat)(os:List jv)(w:dN)(hn:n<=1000000)(T:0<n)(Y:iK w (μ ⟨b,off,ν⟩) n os):
 eM eN 206 #[σ (μ ⟨b,off,ν⟩) n cap] w λe w'=>∃(v:dO),e=ρ v/\Made w w' v os:=by
 obtain⟨S,hi,D,H,E⟩:=aT AZ;have hq:=Gj;have U:dV w (w.alloc (γ #[] 123)):=gM _ _;have hl:=Y.1;have Q:Row (w.alloc (γ #[] 123)) 2 (σ (μ ⟨w.heap.size,0,ν⟩) 0 0) 0 [] :=Row.made w 2 _ #[] (0,0) 0 0 [] rfl rfl (Nat.le_refl _) dS (.inl rfl) gN
 go_in
 go_wp2_with(at_builtin;go_must(refine iu _ rfl (.tmp 5) (.tmp 6) 38 rfl 123 S (.agg #[ι κ 0,ι κ 0]) 2 16 underlying38 hi D H E rfl dS (σ (μ ⟨w.heap.size,0,ν⟩) 0 0) 0 [] rfl Q _ n cap (iG os) rfl (by rw[kR];omega) T ((Y.below U).cells T) (FZ _) (by unfold maxLen;omega) dP ?_));intro g1 zQ w1 J X V;have M:=kS U X (λj Z=>j7 (Nat.le_refl _) Z);have G:=mT (B:=w.heap.size) V dP (λj Z=>j7 (Nat.le_refl _) Z);clear X V
 go_wp2
 go_ret;refine⟨_,rfl,⟨?_,λj Z=>j7 G Z,M⟩⟩;rw[hl];exact J
theorem Jn(a:Option dM)(n cap:Nat)(os:List jv)(w:dN)(V:n<=1000000)(U:kd a cap)(Z:iK w a n os):
 eM eN 206 #[σ a n cap] w λe w'=>∃(v:dO),e=ρ v/\Made w w' v os:=by
 rcases Z.2 with X|⟨b,off,rfl,hc⟩
 ·subst X;have Y:os=[] :=aE Z.1;subst Y;cases a with
  |none=>
   obtain rfl:=U rfl;exact Jm w
  |some a=>exact zc a cap w
 ·by_cases T:0<n
  ·exact Gk b off n cap os w V T Z
  ·have X:n=0:=dP;subst X;have Y:os=[] :=aE Z.1;subst Y;exact zc _ cap w
structure Px(w w':dN)(e:Ending)(own seq:Int)(os:List jv):Prop where
 out:∃(a:Option dM) (cap:Nat),e=ρ (.agg #[ι κ own,ι κ seq,σ a os.length cap])/\iK w' a os.length os/\kd a cap/\os.length<=cap/\(∀j,dQ (σ a os.length cap)=μ j->w.heap.size<=j/\j<w'.heap.size)
 below:dV w w'
theorem A4(own seq:Int)(a:Option dM)(n cap:Nat)(os:List jv)(w:dN)(hn:n<=1000000)(jS:kd a cap)(ho:iK w a n os):
 eM eN 169 #[.agg #[ι κ own,ι κ seq,σ a n cap]] w λe w'=>Px w w' e own seq os:=by
 have hz:=oy;have G:dV w ((w.alloc (γ #[ι κ own,ι κ seq,σ a n cap] 40)).alloc (γ #[ι κ 0,ι κ 0,σ ν 0 0] 40)):=(gM _ _).alloc gN _;obtain⟨M,S⟩:=fP ((w.alloc (γ #[ι κ own,ι κ seq,σ a n cap] 40)).alloc (γ #[ι κ 0,ι κ 0,σ ν 0 0] 40));have J:M.heap[w.heap.size]? =μ (γ #[ι κ own,ι κ seq,σ a n cap] 40 (0,0)):=by
  rw[<-S,aQ _ _ _ gN];exact aS w _
 have X:M.heap[w.heap.size+1]? =μ (γ #[ι κ 0,ι κ 0,σ ν 0 0] 40 (0,0)):=by
  have h:=aS (w.alloc (γ #[ι κ own,ι κ seq,σ a n cap] 40)) (γ #[ι κ 0,ι κ 0,σ ν 0 0] 40);rw[S]at h;simpa using h
 rw[S]at G;have t:=Jn a n cap os M hn jS (ho.below G);have HW:Hid _:=S;clear S
 go_in
 go_wp2_with(fail);rw[HW.out];refine t.mono ?_;rintro e Z ⟨v,rfl,V⟩;clear t;obtain⟨Q,vc,rfl,vn,vl⟩:=V.shape;have k1:=V.below;have T:=(k1.block _ (au.1 J).1).trans J;have Y:=(k1.block _ (au.1 X).1).trans X;have x0:Z.cell? ⟨w.heap.size,0,ν⟩=μ (ι κ own):=ar Z _ 0 _ _ (0,0) T;have x1:Z.cell? ⟨w.heap.size,1,ν⟩=μ (ι κ seq):=ar Z _ 1 _ _ (0,0) T;have x2:Z.cell? ⟨w.heap.size,2,ν⟩=μ (σ a n cap):=ar Z _ 2 _ _ (0,0) T;have y0:Z.cell? ⟨w.heap.size+1,0,ν⟩=μ (ι κ 0):=ar Z _ 0 _ _ (0,0) Y;have y1:Z.cell? ⟨w.heap.size+1,1,ν⟩=μ (ι κ 0):=ar Z _ 1 _ _ (0,0) Y;have y2:Z.cell? ⟨w.heap.size+1,2,ν⟩=μ (σ ν 0 0):=ar Z _ 2 _ _ (0,0) Y;have fx:=λj=>bh Z w.heap.size j _ _ T;have fy:=λj=>bh Z (w.heap.size+1) j _ _ Y;have lx:w.heap.size<Z.heap.size:=af Z _ x0;have ly:w.heap.size+1<Z.heap.size:=af Z _ y0;have D:=gD G k1;have H:∀j,dQ (σ Q os.length vc)=μ j->w.heap.size+2<=j:=λj U=>by
  have h1:=V.new j U;have h2:w.heap.size+1<M.heap.size:=(au.1 X).1;omega
 have A:∀j,dQ (σ Q os.length vc)=μ j->j<Z.heap.size:=V.row.lt;have vQ:=V.opts.2;have HC:Hid (∀u v x y:dO,Px w ((((Z.setCell ⟨w.heap.size,2,ν⟩ u).setCell ⟨w.heap.size+1,0,ν⟩ v).setCell ⟨w.heap.size+1,1,ν⟩ x).setCell ⟨w.heap.size+1,2,ν⟩ y) (ρ (.agg #[ι κ own,ι κ seq,σ Q os.length vc])) own seq os):=by
  intro u v x y;refine⟨⟨Q,vc,rfl,?_,vn,vl,λj U=>⟨by have:=H j U;omega,by simpa using A j U⟩⟩,(((D.setCell (Nat.le_refl _) _).setCell (by show _<=w.heap.size+1;omega) _).setCell (by show _<=w.heap.size+1;omega) _).setCell (by show _<=w.heap.size+1;omega) _⟩;refine⟨rfl,?_⟩;rcases vQ.2 with h0|⟨b,off,rfl,hc⟩
  ·exact .inl h0
  ·refine .inr ⟨b,off,rfl,λj U=> ?_⟩;have hb:w.heap.size+2<=b:=H b rfl;have E:∀o,((((Z.setCell ⟨w.heap.size,2,ν⟩ u).setCell ⟨w.heap.size+1,0,ν⟩ v).setCell ⟨w.heap.size+1,1,ν⟩ x).setCell ⟨w.heap.size+1,2,ν⟩ y).cell? ⟨b,o,ν⟩=Z.cell? ⟨b,o,ν⟩:=λo=>by
    apply ai;rw[ak _ _ _ _ (by show b≠w.heap.size+1;omega),ak _ _ _ _ (by show b≠w.heap.size+1;omega),ak _ _ _ _ (by show b≠w.heap.size+1;omega),ak _ _ _ _ (by show b≠w.heap.size;omega)]
   rw[E,E];exact hc j U
 clear V k1 T Y H A vQ D J X;go_wp2_with(fail);refine aA (v:=.agg #[ι κ own,ι κ seq,σ Q os.length vc]) (by simp[results,results169,go_sem,y0,y1,y2]) rfl ?_;exact HC.out _ _ _ _
open Go.Maps (Keyed)
open Go.ChangeMaps Go.MapKept
open Go.WideElems (Fit)
structure SV where
 own:Int
 seq:Int
 a:Option dM
 n:Nat
 cap:Nat
def SV.v(s:SV):dO:=.agg #[ι κ s.own,ι κ s.seq,σ s.a s.n s.cap]
def SV.zero:SV:=⟨0,0,ν,0,0⟩
def WH:dO->Option SV
 | .agg cs=>(match cs.toList with
   |[.int .i64 o,.int .i64 q,.slice a n c] =>some ⟨o,q,a,n,c⟩
   |_=>none)
 |_=>none
theorem Py {v:dO} {s:SV} (h:WH v=μ s):v=s.v:=by
 unfold WH at h;split at h
 ·rename_i cs
  split at h
  ·rename_i o q a n c e
   obtain rfl:=Option.some.inj h;have:cs= #[ι κ o,ι κ q,σ a n c] :=by
    apply dr.1;simpa using e
   rw[this];rfl
  ·cases h
 ·cases h
def rb(v:dO):Option (DataW SV×List MemPlace):=(WH v).map λs=>(.held s,[])
theorem w7(s:SV):rb s.v=μ (.held s,[]):=rfl
theorem uQ {v:dO} {y:DataW SV×List MemPlace} (h:rb v=μ y):∃s,v=s.v/\y=(.held s,[]):=by
 unfold rb at h;obtain⟨s,hs,rfl⟩:=Option.map_eq_some_iff.1 h;exact⟨s,Py hs,rfl⟩
theorem sH:Keyed eN 3:=Go.Maps.int_keyed underlying3
theorem Gl(w:dN):(zeroValue 40).run eN w=.ok SV.zero.v w:=gJ
def qS(k:Int):Prop:= -9223372036854775808<=k/\k<=9223372036854775807
theorem A5(h:qS k):keyOf eN 3 (.int .i64 k)=μ (.int .i64 k):=by
 refine Go.Maps.keyOf_int_mk underlying3 ?_;exact WalkArith.wf_i64 (by obtain⟨h1,h2⟩:=h;omega)
structure SMap(w:dN)(b n:Nat)(f:Int->Option SV):Prop where
 own:∃D:DataW SV,w.ownsMap eN 3 rb b n D/\∀k,qS k->match f k with
  |none=>∀z,D.atKey (.int .i64 k) z=z
  |some s=>∀z,D.atKey (.int .i64 k) z=.held s
theorem SMap.made(w:dN):SMap (w.alloc (.map #[] 0)) w.heap.size 0 (λ_=>ν):=
 ⟨⟨.map [],World.ownsMap_made w _ _ _,λ_ _ _=>rfl⟩⟩
theorem SMap.lt {w:dN} {b n:Nat} {f:Int->Option SV} (h:SMap w b n f):b<w.heap.size:=by obtain⟨D,Z,_⟩:=h.own;exact Z.lt
theorem SMap.mono {w:dN} {b n m:Nat} {f:Int->Option SV} (h:SMap w b n f)(X:n<=m):SMap w b m f:=by obtain⟨D,Z,Y⟩:=h.own;exact⟨⟨D,Z.mono X,Y⟩⟩
theorem SMap.kept {w w':dN} {b n:Nat} {f:Int->Option SV} {row:Option Nat} (h:SMap w b n f)(X:w.grownBy w' row)(V:μ b≠row):SMap w' b n f:=by obtain⟨D,Z,Y⟩:=h.own;exact⟨⟨D,Z.kept X V,Y⟩⟩
theorem SMap.keep {f:Int->Option SV} (h:SMap w b n f)(hb:w'.heap[b]? =w.heap[b]?):SMap w' b n f:=by
 obtain⟨D,⟨es,clock,Z,X⟩,Y⟩:=h.own;exact⟨⟨D,⟨es,clock,hb.trans Z,X⟩,Y⟩⟩
theorem SMap.below {f:Int->Option SV} (h:SMap w b n f)(hb:dV w w'):SMap w' b n f:=h.keep (hb.block b h.lt)
theorem SMap.drew {w:dN} {b n:Nat} {f:Int->Option SV} (h:SMap w b n f):SMap w.drew b n f:=h.keep rfl
theorem SMap.alloc {w:dN} {b n:Nat} {f:Int->Option SV} (h:SMap w b n f)(o:Obj):SMap (w.alloc o) b n f:=h.below (gM _ _)
theorem EH {x:Int} (h:x≠k):(Lit.int .i64 x)≠ .int .i64 k:=λe=>h (by simpa using e)
theorem Tv(k:Int)(h:qS k):WideAt.IsKeyLit (.int .i64 k):=sH.key (A5 h)
theorem SMap.store {w:dN} {b n:Nat} {f:Int->Option SV} (h:SMap w b n f)(U:n<maxLen)(k:Int)(Y:qS k)(s:SV):
 ∃w',(Instr.mapUpdate 211 (.map (μ b)) (ι κ k) s.v).run eN w=.ok () w'/\SMap w' b (n+1) (λx=>if x=k then μ s else f x)/\w.mapTurned w' b:=by
 obtain⟨D,Z,X⟩:=h.own;obtain⟨w',S,T,Q⟩:=Z.store sH underlying211 U (A5 Y) (w7 s);refine⟨w',S,⟨⟨_,T,λx hx=> ?_⟩⟩,Q⟩;have V:=Z.isMap;by_cases e:x=k
 ·subst e;simp only[if_true];exact λz=>Maps.atKey_put_same V (Tv x Y) _ z
 ·rw[ae e];have:=X x hx;cases hf:f x with
  |none=>rw[hf]at this;exact λz=>(eT (EH e) _ z).trans (this z)
  |some s'=>rw[hf]at this;exact λz=>(eT (EH e) _ z).trans (this z)
theorem SMap.look {f:Int->Option SV} (h:SMap w b n f)(k:Int)(Z:qS k):
 (eU 211 (.map (μ b)) (ι κ k) false).run eN w=.ok ((f k).getD SV.zero).v w:=by
 obtain⟨D,Y,X⟩:=h.own;obtain⟨v,ps,V,hv⟩:=Y.lookup sH underlying211 (Gl w) (w7 SV.zero) (A5 Z);rw[V];obtain⟨s,rfl,e⟩:=uQ hv;have hx:=X k Z;simp only[eR]at e;cases hf:f k with
 |none=>
  rw[hf]at hx;rw[hx]at e;have:SV.zero=s:=by simpa using e.1
  rw[<-this];rfl
 |some s'=>
  rw[hf]at hx;rw[hx]at e;have:s'=s:=by simpa using e.1
  rw[this];rfl
theorem SMap.look_ok {w:dN} {b n:Nat} {f:Int->Option SV} (h:SMap w b n f)(k:Int)(Z:qS k):
 (eU 211 (.map (μ b)) (ι κ k) true).run eN w=.ok (τ #[((f k).getD SV.zero).v,.bool (f k).isSome]) w:=by
 obtain⟨D,Y,X⟩:=h.own;obtain⟨v,ps,V,hv⟩:=Y.look_ok sH underlying211 (Gl w) (w7 SV.zero) (A5 Z);rw[V];obtain⟨s,rfl,e⟩:=uQ hv;have hx:=X k Z;simp only[eR]at e;cases hf:f k with
 |none=>
  rw[hf]at hx;rw[hx]at e;have:SV.zero=s:=by simpa using e.1
  rw[<-this,dy hx];rfl
 |some s'=>
  rw[hf]at hx;rw[hx]at e;have:s'=s:=by simpa using e.1
  rw[this,dC hx];rfl
theorem SMap.drop {w:dN} {b n:Nat} {f:Int->Option SV} (h:SMap w b n f)(k:Int)(X:qS k)(ty:TypeId):
 ∃w',(Builtin.delete_ #[211,3] ty #[.map (μ b),ι κ k]).run eN w=.ok (τ #[]) w'/\SMap w' b n (λx=>if x=k then ν else f x)/\w.mapTurned w' b:=by
 obtain⟨D,Z,Y⟩:=h.own;obtain⟨w',U,V,T⟩:=Z.drop sH underlying211 (A5 X) ty;refine⟨w',U,⟨⟨_,V,λx hx=> ?_⟩⟩,T⟩;by_cases e:x=k
 ·subst e;simp only[if_true];exact λz=>Maps.atKey_del_same z
 ·rw[ae e];have:=Y x hx;cases hf:f x with
  |none=>rw[hf]at this;exact λz=>(eV (EH e) z).trans (this z)
  |some s'=>rw[hf]at this;exact λz=>(eV (EH e) z).trans (this z)
theorem SMap.clear {f:Int->Option SV} (h:SMap w b n f)(ty:TypeId):
 ∃w',(eW #[211] ty #[.map (μ b)]).run eN w=.ok (τ #[]) w'/\SMap w' b n (λ_=>ν)/\w.mapTurned w' b:=by
 obtain⟨D,⟨es,clock,hb,F,hs,hD⟩,h2⟩:=h.own;refine⟨setBlock w b (.map #[] clock),?_,⟨⟨.map [],⟨#[],clock,heap_setBlock_same hb _,⟨gN,?_,gN⟩,gN,rfl⟩,λ_ _ _=>rfl⟩⟩,⟨es,clock,#[],clock,hb,rfl⟩⟩
 ·simp[eW,run_underlying underlying211,MapKept.run_getObj_map hb,MapKept.run_setObj_map _ hb,Result.andThen,setBlock]
 ·exact stamped_empty clock
