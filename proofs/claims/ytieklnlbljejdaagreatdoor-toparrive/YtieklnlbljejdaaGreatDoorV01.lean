import Derived.Test.YtieklnlbljejdaaGreatDoorV00
open Go.Value renaming int → ι, slice → σ, pointer → π, tuple → τ, nilIface → η, ownBlock → fD, map → gQ, oneCell' → fG, cells → gG
open Go.IntKind renaming i64 → κ
open Go.Ending renaming returned → ρ
open Go.Obj renaming cells → γ
open Option renaming none → ν, some → μ
open List renaming length_cons → fU, length_nil → fV, getElem?_inj → gS, getElem?_of_mem → gT
open Prod.mk renaming injEq → gH
open Go.Proofs.Tryz renaming prog → gg
open Go renaming World → fA, Calls → gb, Addr → fq, Value → fB, TypeId → fE, DataW → fX, MemPlace → gJ, wpList_next_ranges → gU
open Go.RowKit renaming intOf → gj
open Go.Instr renaming mapUpdate → gK, lookup → gM, entry → gW, makeMap → gY
open Go.Maps renaming atKey_put_other → gL, atKey_del_other → gN
open Go.Builtin renaming clear_ → gO
open List.Pairwise renaming nil → gX
open ByteArray renaming empty → ia
set_option maxRecDepth 100000
set_option maxHeartbeats 8000000
set_option linter.defProp false
open Go.Proofs.Tryz
namespace Go.Proofs.YtieklnlbljejdaaGreatDoor
namespace St
variable {a b s1 s2:Int}
abbrev Ed:=Int×Int
def sj(own:Int):Int->List Ed->Nat
 |_,[] =>0
 |ah,e::r=>if e.1<1 \/6<e.1 \/e.2<1 \/20<e.2 then 1 else if e.1=own \/e.1<=ah then 3 else sj own e.1 r
def qq(own seq:Int)(es:List Ed):Nat:=if own<1 \/6<own \/seq<1 \/1000000<seq then 1 else if 6<es.length then 2 else sj own 0 es
def kD {own seq:Int} {es:List Ed} (h:qq own seq es=0):(1<=own/\own<=6)/\(1<=seq/\seq<=1000000)/\es.length<=6/\sj own 0 es=0:=by
 unfold qq at h;split at h;{simp at h};split at h;{simp at h};exact⟨fC,fC,fC,h⟩
def rR(own:Int):∀(es:List Ed) (Y:Int),sj own Y es=0->∀e∈es,(1<=e.1/\e.1<=6)/\(1<=e.2/\e.2<=20)
 |[],_,_,e,Z=>by simp at Z
 |x::r,Y,h,e,Z=>by
  unfold sj at h;split at h;{simp at h};{split at h;{simp at h};{obtain rfl|Z:=aS.1 Z;{omega};{exact rR own r _ h e Z}}}
def u8(x:Int):UInt8:=UInt8.ofNat x.toNat
def ru(x:Int)(h0:0<=x)(h1:x<=255):((u8 x).toNat:Int)=x:=by
 unfold u8;rw[cJ (by show x.toNat<256;omega)];omega
def N2(es:List Ed):List UInt8:=es.flatMap λo=>[u8 o.1,u8 o.2]
def VY(os:List Ed)(o:Ed):N2 (os++ [o])=N2 os++ [u8 o.1,u8 o.2] :=by simp[N2]
def zY(os:List Ed):(N2 os).length=2*os.length:=by
 induction os with|nil=>rfl|cons o r ih=>simp only[N2,List.flatMap_cons,List.length_append,fU,fV]at ih⊢;omega
def tI(own seq:Int)(es:List Ed):List UInt8:=u8 own::u8 (seq%256)::u8 (seq/256%256)::u8 (seq/65536)::N2 es
def pairs:List UInt8->List Ed
 |k::n::r=>((k.toNat:Int),(n.toNat:Int))::pairs r
 |_=>[]
def A3:∀l:List UInt8,(pairs l).length=l.length/2
 |[] =>rfl
 |[_] =>by simp[pairs]
 |a::b::r=>by
  have ih:=A3 r;simp only[pairs,fU,ih];omega
def I2:∀(os:List Ed),(∀o∈os,(0<=o.1/\o.1<=255)/\(0<=o.2/\o.2<=255))->pairs (N2 os)=os
 |[],_=>rfl
 |o::r,h=>by
  have X:N2 (o::r)=u8 o.1::u8 o.2::N2 r:=by simp[N2]
  obtain⟨Z,Y⟩:=h o gZ;rw[X,pairs,ru o.1 Z.1 Z.2,ru o.2 Y.1 Y.2,I2 r (λx hx=>h x (by simp[hx]))]
def Mb(l:List UInt8):Int:=((l.getD 1 0).toNat:Int)+256*((l.getD 2 0).toNat:Int)+65536*((l.getD 3 0).toNat:Int)
def ig(l:List UInt8):Int×Int×List Ed×Nat:=
 if l.length<4 \/l.length%2=1 then(0,0,[],4)
 else if qq ((l.getD 0 0).toNat:Int) (Mb l) (pairs (l.drop 4))=0 then(((l.getD 0 0).toNat:Int),Mb l,pairs (l.drop 4),0)
 else(0,0,[],4)
def Mc(l:List UInt8)(h:16<l.length):ig l=(0,0,[],4):=by
 unfold ig;split;{rfl};rename_i h1;have hl:6<(pairs (l.drop 4)).length:=by rw[A3];simp;omega
 split;{rename_i Z;have:=(kD Z).2.2.1;omega};rfl
def pC(own seq:Int)(es:List Ed)(hf:qq own seq es=0):ig (tI own seq es)=(own,seq,es,0):=by
 obtain⟨p1,p2,p3,X⟩:=kD hf;have V:=rR own es 0 X
 have hl:(tI own seq es).length=4+2*es.length:=by
  unfold tI;simp only[fU,zY];omega
 have g0:(tI own seq es).getD 0 0=u8 own:=rfl;have Z:(tI own seq es).drop 4=N2 es:=rfl
 have hs:Mb (tI own seq es)=seq:=by
  show((u8 (seq%256)).toNat:Int)+256*((u8 (seq/256%256)).toNat:Int)+65536*((u8 (seq/65536)).toNat:Int)=seq;rw[ru _ fC fC,ru _ fC fC,ru _ fC fC];omega
 unfold ig;rw[g0,Z,hs,ru own fC fC,I2 es (λo Y=>by have:=V o Y;omega),hl,af fC,ag hf]
def nQ(a b:Int):Int:=if a<b then-1 else if b<a then 1 else 0
def zZ(a b:Ed):Int:=if nQ a.1 b.1≠0 then nQ a.1 b.1 else nQ a.2 b.2
def nS:List Ed->List Ed->Int
 |[],[] =>0
 |[],_::_=> -1
 |_::_,[] =>1
 |a::r,b::q=>if zZ a b≠0 then zZ a b else nS r q
def nI(s1:Int)(e1:List Ed)(s2:Int)(e2:List Ed):Int:=if nQ s1 s2≠0 then nQ s1 s2 else nS e1 e2
def SN(a b:Int):nQ a b= -nQ b a:=by unfold nQ;split<;>split<;>(try split)<;>omega
def pg:nQ a b=0↔a=b:=by unfold nQ;constructor<;>intro h<;>(try split at h)<;>(try split at h)<;>(try split)<;>(try split)<;>omega
def Oy(a b:Int):nQ a b= -1 \/nQ a b=0 \/nQ a b=1:=by unfold nQ;split<;>(try split)<;>simp
def wk:0<nQ a b↔b<a:=by unfold nQ;split<;>(try split)<;>omega
def sP(a b:Ed):(zZ a b=1/\(b.1<a.1 \/b.1=a.1/\b.2<a.2)) \/(zZ a b= -1/\(a.1<b.1 \/a.1=b.1/\a.2<b.2)) \/(zZ a b=0/\a=b):=by
 obtain⟨a1,a2⟩:=a;obtain⟨b1,b2⟩:=b;simp only[zZ,nQ,gH];repeat' split
 all_goals omega
def SP(a b:Ed):zZ a b= -zZ b a:=by
 obtain⟨a1,a2⟩:=a;obtain⟨b1,b2⟩:=b;simp only[zZ,nQ];repeat' split
 all_goals omega
def Fk:∀a b:List Ed,nS a b= -1 \/nS a b=0 \/nS a b=1
 |[],[] =>by simp[nS]
 |[],_::_=>by simp[nS]
 |_::_,[] =>by simp[nS]
 |a::r,b::q=>by
  unfold nS;split;{obtain h|h|h:=sP a b<;>simp[h.1]};{exact Fk r q}
def I3:∀a b:List Ed,nS a b= -nS b a
 |[],[] =>by simp[nS]
 |[],_::_=>by simp[nS]
 |_::_,[] =>by simp[nS]
 |a::r,b::q=>by
  have h:=SP a b;have ih:=I3 r q;unfold nS;split<;>split<;>omega
def I4:∀ {a b:List Ed},nS a b=0↔a=b
 |[],[] =>by simp[nS]
 |[],_::_=>by simp[nS]
 |_::_,[] =>by simp[nS]
 |a::r,b::q=>by
  have ih:= @I4 r q;unfold nS;obtain h|h|h:=sP a b;{rw[ag fC,h.1];constructor;{intro e;simp at e};{intro e;obtain⟨Z,Y⟩:=a;obtain⟨b1,b2⟩:=b;simp at e h;omega}};{rw[ag fC,h.1];constructor;{intro e;simp at e};{intro e;obtain⟨Z,Y⟩:=a;obtain⟨b1,b2⟩:=b;simp at e h;omega}};{rw[af fC,ih];simp[h.2]}
def Fm:∀ {a b c:List Ed},0<=nS a b->0<=nS b c->0<=nS a c/\(0<nS a b \/0<nS b c->0<nS a c)
 |[],[],[],_,_=>by simp[nS]
 |[],[],_::_,_,h=>by simp[nS]at h
 |[],_::_,_,h,_=>by simp[nS]at h
 |_::_,[],[],_,_=>by simp[nS]
 |_::_,[],_::_,_,h=>by simp[nS]at h
 |_::_,_::_,[],_,_=>by simp[nS]
 |a::r,b::q,c::s,h1,h2=>by
  have ih:= @Fm r q s;unfold nS at h1 h2⊢;obtain⟨Y,U⟩|⟨Y,U⟩|⟨Y,rfl⟩:=sP a b
  ·obtain⟨Z,V⟩|⟨Z,V⟩|⟨Z,rfl⟩:=sP b c;{obtain⟨X,T⟩|⟨X,T⟩|⟨X,rfl⟩:=sP a c;{simp[X]};{omega};{omega}}
   {simp[Z]at h2};{simp[Y]}
  {simp[Y]at h1};{obtain⟨Z,V⟩|⟨Z,V⟩|⟨Z,rfl⟩:=sP a c;{simp[Z]};{simp[Z]at h2};{simp only[Y]at h1 h2⊢;simp at h1 h2⊢;exact ih h1 h2}}
def wm(s1 s2:Int)(Z Y:List Ed):nI s1 Z s2 Y= -nI s2 Y s1 Z:=by
 have h:=SN s1 s2;have ih:=I3 Z Y;unfold nI;split<;>split<;>omega
def Cf {e1 e2:List Ed}:nI s1 e1 s2 e2=0↔s1=s2/\e1=e2:=by
 unfold nI;split;{rename_i h;constructor;{intro e;exact absurd e h};intro⟨e,_⟩;exact absurd (pg.2 e) h};rename_i h;have:s1=s2:=pg.1 fC;rw[I4];simp[this]
def Fp(s1 s2:Int)(Z Y:List Ed):nI s1 Z s2 Y= -1 \/nI s1 Z s2 Y=0 \/nI s1 Z s2 Y=1:=by
 unfold nI;split;{obtain h|h|h:=Oy s1 s2<;>simp[h]};exact Fk Z Y
def z8 {s3:Int} {e1 e2 e3:List Ed} (Y:0<=nI s1 e1 s2 e2)(Z:0<=nI s2 e2 s3 e3):0<=nI s1 e1 s3 e3/\(0<nI s1 e1 s2 e2 \/0<nI s2 e2 s3 e3->0<nI s1 e1 s3 e3):=by
 unfold nI at Y Z⊢;by_cases a:s1=s2;{by_cases b:s2=s3;{have c:s1=s3:=a.trans b;rw[af (by simp[pg.2 a])]at Y;rw[af (by simp[pg.2 b])]at Z;have X:=pg.2 a;have V:=pg.2 b;have hc:=pg.2 c;rw[af (show¬nQ s1 s2≠0 by omega),af (show¬nQ s2 s3≠0 by omega),af (show¬nQ s1 s3≠0 by omega)];exact Fm Y Z};have V:nQ s2 s3≠0:=λe=>b (pg.1 e);rw[ag V]at Z;have p:s3<s2:=wk.1 fC;have q:0<nQ s1 s3:=wk.2 fC;rw[ag (show nQ s1 s3≠0 by omega)];exact⟨fC,λ_=>q⟩};have X:nQ s1 s2≠0:=λe=>a (pg.1 e);rw[ag X]at Y;have p:s2<s1:=wk.1 fC
 have p2:s3<=s2:=by
  by_cases b:nQ s2 s3=0;{have:=pg.1 b;omega};rw[ag b]at Z;have:=wk.1 (show 0<nQ s2 s3 by omega);omega
 have q:0<nQ s1 s3:=wk.2 fC;rw[ag (show nQ s1 s3≠0 by omega)];exact⟨fC,λ_=>q⟩
end St
open Go.RowKit St
variable {B C b c cap g i m n n':Nat} {H:Type} {W a w w' w1 w3 wr:World} {bs:List Nat} {es:Int->List kS} {k x:Int} {left:Lit->Bool} {o:Obj} {t:TypeId} {v':Value}
def A4:(gg.info? 123).map (λi=>(i.zero,i.size,i.bytes))=μ (μ (.agg #[ι κ 0,ι κ 0]),2,16):=iV
def rH(w:fA):(zeroValue 40).run gg w=.ok (.agg #[ι κ 0,ι κ 0,σ ν 0 0]) w:=iV
def VZ(n:Int):Bool:=decide (1<=n)&&decide (n<=6)
def wQ(n:Int)(w:fA):gb gg 167 #[ι κ n] w λe w'=>e=ρ (.bool (VZ n))/\w=w':=by
 by_cases Y:1<=n
 ·by_cases X:n<=6
  ·have Z:VZ n=true:=by simp[VZ,Y,X]
   rw[Z];clear Z;go_in;go_wp2;go_ret;exact⟨by first|rfl|(simp;omega),rfl⟩
  have Z:VZ n=false:=by simp[VZ,X]
  rw[Z];clear Z;go_in;go_wp2;go_ret;exact⟨by first|rfl|(simp;omega),rfl⟩
 have Z:VZ n=false:=by simp[VZ,Y]
 rw[Z];clear Z;go_in;go_wp2;go_ret;exact⟨by first|rfl|(simp;omega),rfl⟩
def Fq(n:Int)(h0:¬n<1)(h1:¬6<n):VZ n=true:=by simp[VZ];omega
def Cg(n:Int)(h:n<1 \/6<n):VZ n=false:=by simp[VZ];omega
def Ft(own:Int)(a:Option fq)(n cap:Nat)(os:List kS)(w:fA)(hn:n<=1000000)(Q:kc w a n os):
 gb gg 168 #[ι κ own,σ a n cap] w λe w'=>e=ρ (kr (sj own 0 os))/\fP w w':=by
  have E:kr 0=η:=rfl;have D:kr 1=.iface 128 (ι κ 1):=rfl;have A:kr 3=.iface 128 (ι κ 3):=rfl;have j:Hid _:=E;have S:Hid _:=D;have J:Hid _:=A;clear E D A;go_in;go_wp2;go_loopw [5,10] (λah i wr=>∃(k:Nat) (h:Int),k<=n/\ah=ι κ h/\i=ι κ k/\sj own 0 os=sj own h (os.drop k)/\fP w wr) (λ_ i _=>n-(gj i).toNat);(case atStart=>exact⟨0,0,aw _,rfl,rfl,rfl,aC _ _⟩)
  case round=>
   obtain⟨k,h,hk,rfl,rfl,G,T⟩:=hrel;have U:Hid _:=G;clear G;by_cases lZ:k<n
   ·have M:=Q.below T;obtain h0|⟨b,off,rfl,hc⟩:=M.2;{omega};have u:k<os.length:=by rw[Q.1];exact lZ
    obtain⟨c1,c2⟩:=hc k u;have V:Hid (os.drop k=os[k] ::os.drop (k+1)):=a9 u;generalize os[k] =o at c1 c2 V;clear hc M;have pE:(k:Int)<(n:Int):=fC;have X:=T.alloc T.size (γ #[ι κ o.1,ι κ o.2] 123);have Y:=wQ o.1 (wr.alloc (γ #[ι κ o.1,ι κ o.2] 123))
    have one:(o.1<1 \/6<o.1 \/o.2<1 \/20<o.2)->Hid (sj own 0 os=1):=λhh=>by
     show _=_;rw[U.out,V.out,sj,ag hh]
    by_cases r1:o.1<1 \/6<o.1;{have Z:=one fC;rw[Cg o.1 r1]at Y;clear one;go_wp2_with fail;refine Y.mono ?_;rintro e w1 ⟨rfl,rfl⟩;go_wp2_with fail;rw[Z.out,S.out];go_ret;exact⟨rfl,X⟩};rw[Fq o.1 fC fC]at Y;by_cases r2:o.2<1;{have Z:=one fC;clear one;go_wp2_with fail;refine Y.mono ?_;rintro e w1 ⟨rfl,rfl⟩;go_wp2_with fail;rw[Z.out,S.out];go_ret;exact⟨rfl,X⟩};by_cases r3:20<o.2;{have Z:=one fC;clear one;go_wp2_with fail;refine Y.mono ?_;rintro e w1 ⟨rfl,rfl⟩;go_wp2_with fail;rw[Z.out,S.out];go_ret;exact⟨rfl,X⟩}
    have three:(o.1=own \/o.1<=h)->Hid (sj own 0 os=3):=λhh=>by
     show _=_;rw[U.out,V.out,sj,af fC,ag hh]
    clear one;cases y:(o.1==own)
    ·by_cases r5:o.1<=h;{have Z:=three (.inr r5);clear three;go_wp2_with fail;refine Y.mono ?_;rintro e w1 ⟨rfl,rfl⟩;go_wp2_with fail;rw[Z.out,J.out];go_ret;exact⟨rfl,X⟩}
     have HN:Hid (sj own 0 os=sj own o.1 (os.drop (k+1))):=by
      show _=_;have r4':¬o.1=own:=by simpa using y
      rw[U.out,V.out,sj,af fC,af fC]
     clear three;go_wp2_with fail;refine Y.mono ?_;rintro e w1 ⟨rfl,rfl⟩;go_wp2;go_roundw;(case rel=>exact⟨k+1,_,fC,rfl,by go_num,HN.out,X⟩);case measure=>simp[gj];omega
    have Z:=three (.inl (by simpa using y));clear three;go_wp2_with fail;refine Y.mono ?_;rintro e w1 ⟨rfl,rfl⟩;go_wp2_with fail;rw[Z.out,J.out];go_ret;exact⟨rfl,X⟩
   have Z:Hid (sj own 0 os=0):=by
    show _=_;rw[U.out,bB (by rw[Q.1];omega),sj]
   go_wp2_with fail;rw[Z.out,j.out];go_ret;exact⟨rfl,T⟩
def z9(own seq:Int)(a:Option fq)(n cap:Nat)(os:List kS)(w:fA)(S:n<=1000000)(U:kc w a n os):
 gb gg 117 #[.agg #[ι κ own,ι κ seq,σ a n cap]] w λe w'=>e=ρ (kr (qq own seq os))/\fP w w':=by
  have X:=gu w (γ #[ι κ own,ι κ seq,σ a n cap] 40);have V:Hid (kr 1=.iface 128 (ι κ 1)):=rfl;have T:Hid (kr 2=.iface 128 (ι κ 2)):=rfl;have hl:=U.1;have Y:=wQ own (w.alloc (γ #[ι κ own,ι κ seq,σ a n cap] 40));have one:(own<1 \/6<own \/seq<1 \/1000000<seq)->Hid (qq own seq os=1):=λhh=>by show _=_;rw[qq,ag hh]
  by_cases r1:own<1 \/6<own;{have Z:=one fC;rw[Cg own r1]at Y;clear one;go_in;go_wp2_with fail;refine Y.mono ?_;rintro e w1 ⟨rfl,rfl⟩;go_wp2_with fail;rw[Z.out,V.out];go_ret;exact⟨rfl,X⟩};rw[Fq own fC fC]at Y;by_cases r2:seq<1;{have Z:=one fC;clear one;go_in;go_wp2_with fail;refine Y.mono ?_;rintro e w1 ⟨rfl,rfl⟩;go_wp2_with fail;rw[Z.out,V.out];go_ret;exact⟨rfl,X⟩};by_cases r3:1000000<seq;{have Z:=one fC;clear one;go_in;go_wp2_with fail;refine Y.mono ?_;rintro e w1 ⟨rfl,rfl⟩;go_wp2_with fail;rw[Z.out,V.out];go_ret;exact⟨rfl,X⟩};clear one;by_cases r4:(6:Int)<(n:Int)
  ·have Z:Hid (qq own seq os=2):=by show _=_;rw[qq,af fC,ag fC]
   go_in;go_wp2_with fail;refine Y.mono ?_;rintro e w1 ⟨rfl,rfl⟩;go_wp2_with fail;rw[Z.out,T.out];go_ret;exact⟨rfl,X⟩
  have Z:Hid (qq own seq os=sj own 0 os):=by show _=_;rw[qq,af fC,af fC]
  have hc:=Ft own a n cap os _ S (U.below X);go_in;go_wp2_with fail;refine Y.mono ?_;rintro e w1 ⟨rfl,rfl⟩;go_wp2_with fail;refine hc.mono ?_;rintro e w2 ⟨rfl,k2⟩;go_wp2_with fail;rw[Z.out];go_ret;exact⟨rfl,fQ X k2⟩
def alL {x y z:fB} (Z:Below (w.alloc (γ #[x,y,z] t)).heap.size (w.alloc (γ #[x,y,z] t)) w1):
 w1.cell? ⟨w.heap.size,0,ν⟩=μ x/\w1.cell? ⟨w.heap.size,1,ν⟩=μ y/\w1.cell? ⟨w.heap.size,2,ν⟩=μ z/\w.heap.size<w1.heap.size:=by
  have Y:w.heap.size<(w.alloc (γ #[x,y,z] t)).heap.size:=gZ;have hA:=λj=>ay w #[x,y,z] t (0,0) j;exact⟨(Z.cell (p:=⟨w.heap.size,0,ν⟩) Y).trans (hA 0),(Z.cell (p:=⟨w.heap.size,1,ν⟩) Y).trans (hA 1),(Z.cell (p:=⟨w.heap.size,2,ν⟩) Y).trans (hA 2),aq Y Z.size⟩
def ahead(os:List kS)(k:Nat):Int:=if k=0 then 0 else(os.getD (k-1) (0,0)).1
def Kp(a:Int)(w:fA):gb gg 222 #[ι κ a] w λe w'=>e=ρ (.bool false)/\w=w':=by
 have h:(a !=a)=false:=gZ;go_in;go_wp2;go_ret;exact⟨rfl,rfl⟩
def vv(a b:Int)(w:fA):gb gg 204 #[ι κ a,ι κ b] w λe w'=>e=ρ (ι κ (nQ a b))/\w=w':=by
 by_cases Z:a<b
 ·have hv:nQ a b= -1:=by simp[nQ,Z]
  rw[hv];clear hv;go_in;go_wp2_with(go_at_call 222;refine(Kp _ _).mono ?_;rintro e w1 ⟨rfl,rfl⟩);go_ret;exact⟨rfl,rfl⟩
 by_cases Y:b<a
 ·have hv:nQ a b=1:=by simp[nQ,Z,Y]
  rw[hv];clear hv;go_in;go_wp2_with(go_at_call 222;refine(Kp _ _).mono ?_;rintro e w1 ⟨rfl,rfl⟩);go_ret;exact⟨rfl,rfl⟩
 have hv:nQ a b=0:=by simp[nQ,Z,Y]
 rw[hv];clear hv;go_in;go_wp2_with(go_at_call 222;refine(Kp _ _).mono ?_;rintro e w1 ⟨rfl,rfl⟩);go_ret;exact⟨rfl,rfl⟩
def adW(g cap:Nat)(x y:Int)(w:fA)(Z:w.cell? ⟨g,0,ν⟩=μ (ι κ x))(h1:w.cell? ⟨g,1,ν⟩=μ (ι κ y)):
 gb gg 215 #[σ (μ ⟨g,0,ν⟩) 2 cap] w λe w'=>e=ρ (ι κ (if x≠0 then x else y))/\w=w':=by
  have hg:g<w.heap.size:=ai w _ Z;cases q:(x !=0)
  ·have hx:x=0:=by simpa using q
   cases q2:(y !=0)
   ·have hy:y=0:=by simpa using q2
    have hv:(if x≠0 then x else y)=0:=by simp[hx,hy]
    rw[hv];clear hv hx hy;go_in;go_wp2_with fail;refine cH 3 ?_;rw[cy];go_wp2_with fail;rw[cy];go_wp2_with fail;rw[cy];go_wp2;go_ret;exact⟨rfl,rfl⟩
   have hv:(if x≠0 then x else y)=y:=by simp[hx]
   rw[hv];clear hv hx;go_in;go_wp2_with fail;refine cH 3 ?_;rw[cy];go_wp2_with fail;rw[cy];go_wp2;go_ret;exact⟨rfl,rfl⟩
  have hx:¬x=0:=by simpa using q
  have hv:(if x≠0 then x else y)=x:=by simp[hx]
  rw[hv];clear hv hx;go_in;go_wp2_with fail;refine cH 3 ?_;rw[cy];go_wp2;go_ret;exact⟨rfl,rfl⟩
def QT(W:fA)(x y:fB)(t:fE)(g:Nat)(Z:W.heap.size=g):(W.alloc (γ #[x,y] t)).drew.cell? ⟨g,0,ν⟩=μ x/\(W.alloc (γ #[x,y] t)).drew.cell? ⟨g,1,ν⟩=μ y:=by
 subst Z;exact⟨ay W #[x,y] t (0,0) 0,ay W #[x,y] t (0,0) 1⟩
def V5(a b c d:Int)(w:fA):gb gg 214 #[.agg #[ι κ a,ι κ b],.agg #[ι κ c,ι κ d]] w λe w'=>e=ρ (ι κ (zZ (a,b) (c,d)))/\fP w w':=by
 have M:fP w ((w.alloc (γ #[ι κ a,ι κ b] 123)).alloc (γ #[ι κ c,ι κ d] 123)):=(gu _ _).alloc gZ _;obtain⟨p,S⟩:=fH (nQ a c);obtain⟨q,Q⟩:=fH (nQ b d);have hv:zZ (a,b) (c,d)=if p≠0 then p else q:=by simp[zZ,S,Q]
 have U:=λ(g cap:Nat) (W:fA) y V=>adW g cap p q W y V;rw[hv];generalize (if p≠0 then p else q)=r at U;have A:Hid _:=U;clear U;have V:=λW=>vv a c W;have G:=λW=>vv b d W;rw[S]at V;rw[Q]at G;clear hv S Q;go_in;go_wp2_with fail;obtain⟨Z,Y⟩:=fH ((w.alloc (γ #[ι κ a,ι κ b] 123)).alloc (γ #[ι κ c,ι κ d] 123));have hs:Z.heap.size=w.heap.size+1+1:=by rw[<-Y];simp
 have x0:Z.cell? ⟨w.heap.size,0,ν⟩=μ (ι κ a):=by rw[<-Y];exact((gu _ _).cell (p:=⟨w.heap.size,0,ν⟩) gZ).trans (ay w #[ι κ a,ι κ b] 123 (0,0) 0)
 have x1:Z.cell? ⟨w.heap.size,1,ν⟩=μ (ι κ b):=by rw[<-Y];exact((gu _ _).cell (p:=⟨w.heap.size,1,ν⟩) gZ).trans (ay w #[ι κ a,ι κ b] 123 (0,0) 1)
 have J:Z.cell? ⟨w.heap.size+1,0,ν⟩=μ (ι κ c):=by rw[<-Y];simp
 have E:Z.cell? ⟨w.heap.size+1,1,ν⟩=μ (ι κ d):=by rw[<-Y];simp
 have u:w.heap.size<Z.heap.size:=ai Z _ x0;have j:w.heap.size+1<Z.heap.size:=ai Z _ J;rw[Y]at M⊢;have HS:Hid _:=hs;clear Y hs;obtain⟨X,T⟩:=fH (w.heap.size);have HX:Hid _:=T;rw[T]at x0 x1 J E u j⊢;clear T;have D:Z.drew.cell? ⟨X,0,ν⟩=μ (ι κ a)/\Z.drew.cell? ⟨X,1,ν⟩=μ (ι κ b)/\Z.drew.cell? ⟨X+1,0,ν⟩=μ (ι κ c)/\Z.drew.cell? ⟨X+1,1,ν⟩=μ (ι κ d):=⟨x0,x1,J,E⟩
 go_region_held3(λx=>x.cell? ⟨X,0,ν⟩=μ (ι κ a)/\x.cell? ⟨X,1,ν⟩=μ (ι κ b)/\x.cell? ⟨X+1,0,ν⟩=μ (ι κ c)/\x.cell? ⟨X+1,1,ν⟩=μ (ι κ d))
  (first|assumption|exact D|go_keep)
  (first
   |(go_at_call_of 204 a;refine(V _).mono ?_;rintro e w1 ⟨rfl,rfl⟩)
   |(go_at_call_of 204 b;refine(G _).mono ?_;rintro e w1 ⟨rfl,rfl⟩)
   |(go_at_call 215;refine(A.out _ _ _ (QT _ _ _ _ _ (by rfl)).1 (QT _ _ _ _ _ (by rfl)).2).mono ?_;rintro e w1 ⟨rfl,rfl⟩))
 all_goals(go_wp2;go_ret;exact⟨rfl,below_drewN (M.alloc M.size _) 1⟩)
def Ea(a b:Option fq)(n m ca j:Nat)(es fs:List kS)(w:fA)(D:kc w a n es)(A:kc w b m fs)(hn:n<=1000000):
 gb gg 213 #[σ a n ca,σ b m j,.func (.func 214) #[] #[]] w λe w'=>e=ρ (ι κ (nS es fs))/\fP w w':=by
  have hla:=D.1;have SQ:=A.1;go_in;go_wp2;go_loopw [13] (λi wr=>∃k:Nat,k<=n/\k<=m/\i=ι κ k/\nS es fs=nS (es.drop k) (fs.drop k)/\fP w wr) (λi _=>n-(gj i).toNat);(case atStart=>exact⟨0,aw _,aw _,rfl,rfl,aC _ _⟩)
  case round=>
   obtain⟨k,hk,hkm,rfl,G,V⟩:=hrel;have U:Hid _:=G;clear G;by_cases lZ:k<n
   ·have pE:(k:Int)<(n:Int):=fC;obtain h|⟨b1,o1,rfl,hA⟩:=(D.below V).2;{omega};obtain⟨c1,c2⟩:=hA k fC;have Y:Hid (es.drop k=es[k]'(by omega)::es.drop (k+1)):=a9 fC;generalize es[k]'(by omega)=o at c1 c2 Y;clear hA;have T:=V.alloc V.size (γ #[ι κ o.1,ι κ o.2] 123);by_cases hlm:k<m
    ·have Q:¬(m:Int)<=(k:Int):=fC;have arz:(k:Int)<(m:Int):=fC;obtain h|⟨b2,o2,rfl,E⟩:=(A.below T).2;{omega};obtain⟨c3,c4⟩:=E k fC;have J:Hid (fs.drop k=fs[k]'(by omega)::fs.drop (k+1)):=a9 fC;generalize fs[k]'(by omega)=q at c3 c4 J;clear E;have u:=T.alloc T.size (γ #[ι κ q.1,ι κ q.2] 123);have hc:=λW=>V5 o.1 o.2 q.1 q.2 W
     have Z:Hid (nS es fs=if zZ (o.1,o.2) (q.1,q.2)≠0 then zZ (o.1,o.2) (q.1,q.2)else nS (es.drop (k+1)) (fs.drop (k+1))):=by
      show _=_;rw[U.out,Y.out,J.out,nS]
     generalize zZ (o.1,o.2) (q.1,q.2)=r at hc Z;cases y:(r !=0)
     ·have S:Hid (nS es fs=nS (es.drop (k+1)) (fs.drop (k+1))):=by
       show _=_;have X:r=0:=by simpa using y
       rw[Z.out,X];simp
      go_wp2_with fail;refine(hc _).mono ?_;rintro e w1 ⟨rfl,k1⟩;have M:=fQ u k1;clear hc;go_wp2;go_roundw;(case rel=>exact⟨k+1,fC,fC,by go_num,S.out,M⟩);case measure=>simp[gj];omega
     have S:Hid (nS es fs=r):=by
      show _=_;have X:¬r=0:=by simpa using y
      rw[Z.out,ag X]
     go_wp2_with fail;refine(hc _).mono ?_;rintro e w1 ⟨rfl,k1⟩;have M:=fQ u k1;clear hc;go_wp2_with fail;rw[S.out];go_ret;exact⟨rfl,M⟩
    have Q:(m:Int)<=(k:Int):=fC
    have Z:Hid (nS es fs=1):=by
     show _=_;rw[U.out,Y.out,bB (show fs.length<=k by omega),nS]
    go_wp2_with fail;rw[Z.out];go_ret;exact⟨rfl,T⟩
   have zD:¬(k:Int)<(n:Int):=fC;have Y:es.drop k=[] :=bB fC;by_cases QP:(n:Int)<(m:Int)
   ·have Z:Hid (nS es fs= -1):=by
     show _=_;rw[U.out,Y,a9 (show k<fs.length by omega),nS]
    clear Y;go_wp2_with fail;rw[Z.out];go_ret;exact⟨rfl,V⟩
   have Z:Hid (nS es fs=0):=by
    show _=_;rw[U.out,Y,bB (show fs.length<=k by omega),nS]
   clear Y;go_wp2_with fail;rw[Z.out];go_ret;exact⟨rfl,V⟩
def I5(o1 s1 o2 s2:Int)(a b:Option fq)(n m ca X:Nat)(es fs:List kS)(w:fA)(S:kc w a n es)(Q:kc w b m fs)(M:n<=1000000):
 gb gg 189 #[.agg #[ι κ o1,ι κ s1,σ a n ca],.agg #[ι κ o2,ι κ s2,σ b m X]] w λe w'=>e=ρ (ι κ (nI s1 es s2 fs))/\fP w w':=by
  have T:fP w ((w.alloc (γ #[ι κ o1,ι κ s1,σ a n ca] 40)).alloc (γ #[ι κ o2,ι κ s2,σ b m X] 40)):=(gu _ _).alloc gZ _;have Y:=vv s1 s2 ((w.alloc (γ #[ι κ o1,ι κ s1,σ a n ca] 40)).alloc (γ #[ι κ o2,ι κ s2,σ b m X] 40));have V:=Ea a b n m ca X es fs _ (S.below T) (Q.below T) M;have hv:nI s1 es s2 fs=if nQ s1 s2≠0 then nQ s1 s2 else nS es fs:=rfl
  rw[hv];clear hv;generalize nS es fs=q at V;generalize nQ s1 s2=r at Y;cases U:(r !=0)
  ·have Z:(if r≠0 then r else q)=q:=by simp at U;simp[U]
   rw[Z];clear Z;go_in;go_wp2_with fail;refine Y.mono ?_;rintro e w1 ⟨rfl,rfl⟩;clear Y;go_wp2_with fail;refine V.mono ?_;rintro e w2 ⟨rfl,k2⟩;clear V;go_wp2;go_ret;exact⟨rfl,fQ T k2⟩
  have Z:(if r≠0 then r else q)=r:=by simp at U;simp[U]
  rw[Z];clear Z V;go_in;go_wp2_with fail;refine Y.mono ?_;rintro e w1 ⟨rfl,rfl⟩;clear Y;go_wp2;go_ret;exact⟨rfl,T⟩
def Md(a:fq)(n cap:Nat)(w:fA):(binOp .eql 38 (σ (μ a) n cap) (σ ν 0 0)).run gg w=.ok (.bool false) w:=iV
def aam(w:fA):(binOp .eql 38 (σ ν 0 0) (σ ν 0 0)).run gg w=.ok (.bool true) w:=iV
def Dg(a:fq)(cap:Nat)(w:fA):
 gb gg 206 #[σ (μ a) 0 cap] w λe w'=>∃(v:fB),e=ρ v/\Made w w' v [] :=by
  have hq:=Md;go_in;go_wp2;go_ret;exact⟨_,rfl,⟨Row.made w 2 _ #[] (0,0) 0 0 [] rfl rfl (aj _) fF (.inl rfl) gZ,λj Z=>mc (aj _) Z,gu _ _⟩⟩
def Oz(w:fA):
 gb gg 206 #[σ ν 0 0] w λe w'=>∃(v:fB),e=ρ v/\Made w w' v [] :=by
  have hq:=aam;go_in;go_wp2;go_ret;exact⟨_,rfl,⟨Row.nil w 2,λj Z=>oL Z,aC _ _⟩⟩
def Me(b off n cap:Nat)(os:List kS)(w:fA)(hn:n<=1000000)(U:0<n)(Y:kc w (μ ⟨b,off,ν⟩) n os):
 gb gg 206 #[σ (μ ⟨b,off,ν⟩) n cap] w λe w'=>∃(v:fB),e=ρ v/\Made w w' v os:=by
  obtain⟨i0,hi,D,G,E⟩:=bu A4;have hq:=Md;have T:fP w (w.alloc (γ #[] 123)):=gu _ _;have hl:=Y.1;have S:Row (w.alloc (γ #[] 123)) 2 (σ (μ ⟨w.heap.size,0,ν⟩) 0 0) 0 [] :=Row.made w 2 _ #[] (0,0) 0 0 [] rfl rfl (aj _) fF (.inl rfl) gZ;go_in;go_wp2_with(at_builtin;go_must(refine jN _ rfl (.tmp 5) (.tmp 6) 38 rfl 123 i0 (.agg #[ι κ 0,ι κ 0]) 2 16 underlying38 hi D G E rfl fF (σ (μ ⟨w.heap.size,0,ν⟩) 0 0) 0 [] rfl S _ n cap (jX os) rfl (by rw[m9];omega) U ((Y.below T).cells U) (LK _) (by unfold maxLen;omega) fC ?_));intro g1 D7 w1 M V X;have Q:=nO T V (λj Z=>mc (aj _) Z);have J:=pL (B:=w.heap.size) X fC (λj Z=>mc (aj _) Z);clear V X;go_wp2;go_ret;refine⟨_,rfl,⟨?_,λj Z=>mc J Z,Q⟩⟩;rw[hl];exact M
def OA(a:Option fq)(n cap:Nat)(os:List kS)(w:fA)(V:n<=1000000)(U:mG a cap)(Z:kc w a n os):
 gb gg 206 #[σ a n cap] w λe w'=>∃(v:fB),e=ρ v/\Made w w' v os:=by
  obtain X|⟨b,off,rfl,hc⟩:=Z.2;{subst X;have Y:os=[] :=aQ Z.1;subst Y;cases a with|none=>obtain rfl:=U rfl;exact Oz w|some a=>exact Dg a cap w};by_cases T:0<n;{exact Me b off n cap os w V T Z};have X:n=0:=fC;subst X;have Y:os=[] :=aQ Z.1;subst Y;exact Dg _ cap w
structure V6(w w':fA)(e:Ending)(own seq:Int)(os:List kS):Prop where
 out:∃(a:Option fq) (cap:Nat),e=ρ (.agg #[ι κ own,ι κ seq,σ a os.length cap])/\kc w' a os.length os/\mG a cap/\os.length<=cap/\(∀j,fD (σ a os.length cap)=μ j->w.heap.size<=j/\j<w'.heap.size)
 below:fP w w'
def Fu(own seq:Int)(a:Option fq)(n cap:Nat)(os:List kS)(w:fA)(hn:n<=1000000)(lR:mG a cap)(ho:kc w a n os):
 gb gg 169 #[.agg #[ι κ own,ι κ seq,σ a n cap]] w λe w'=>V6 w w' e own seq os:=by
  have hz:=rH;have G:fP w ((w.alloc (γ #[ι κ own,ι κ seq,σ a n cap] 40)).alloc (γ #[ι κ 0,ι κ 0,σ ν 0 0] 40)):=(gu _ _).alloc gZ _;obtain⟨M,S⟩:=fH ((w.alloc (γ #[ι κ own,ι κ seq,σ a n cap] 40)).alloc (γ #[ι κ 0,ι κ 0,σ ν 0 0] 40))
  have X:M.heap[w.heap.size]? =μ (γ #[ι κ own,ι κ seq,σ a n cap] 40 (0,0)):=by
   rw[<-S,bk _ _ _ gZ];exact bw w _
  have Y:M.heap[w.heap.size+1]? =μ (γ #[ι κ 0,ι κ 0,σ ν 0 0] 40 (0,0)):=by
   have h:=bw (w.alloc (γ #[ι κ own,ι κ seq,σ a n cap] 40)) (γ #[ι κ 0,ι κ 0,σ ν 0 0] 40);rw[S]at h;simpa using h
  rw[S]at G;have tr:=OA a n cap os M hn lR (ho.below G);have HW:Hid _:=S;clear S;go_in;go_wp2_with fail;rw[HW.out];refine tr.mono ?_;rintro e w1 ⟨v,rfl,V⟩;clear tr;obtain⟨Q,vc,rfl,vn,vl⟩:=V.shape;have k1:=V.below;have T:=(k1.block _ (aE.1 X).1).trans X;have Z:=(k1.block _ (aE.1 Y).1).trans Y;have x0:w1.cell? ⟨w.heap.size,0,ν⟩=μ (ι κ own):=aD w1 _ 0 _ _ (0,0) T;have x1:w1.cell? ⟨w.heap.size,1,ν⟩=μ (ι κ seq):=aD w1 _ 1 _ _ (0,0) T;have x2:w1.cell? ⟨w.heap.size,2,ν⟩=μ (σ a n cap):=aD w1 _ 2 _ _ (0,0) T;have y0:w1.cell? ⟨w.heap.size+1,0,ν⟩=μ (ι κ 0):=aD w1 _ 0 _ _ (0,0) Z;have y1:w1.cell? ⟨w.heap.size+1,1,ν⟩=μ (ι κ 0):=aD w1 _ 1 _ _ (0,0) Z;have y2:w1.cell? ⟨w.heap.size+1,2,ν⟩=μ (σ ν 0 0):=aD w1 _ 2 _ _ (0,0) Z;have fx:=λj=>bR w1 w.heap.size j _ _ T;have fy:=λj=>bR w1 (w.heap.size+1) j _ _ Z;have lx:w.heap.size<w1.heap.size:=ai w1 _ x0;have ly:w.heap.size+1<w1.heap.size:=ai w1 _ y0;have A:=fQ G k1
  have J:∀j,fD (σ Q os.length vc)=μ j->w.heap.size+2<=j:=λj U=>by
   have h1:=V.new j U;have h2:w.heap.size+1<M.heap.size:=(aE.1 Y).1;omega
  have lZ:∀j,fD (σ Q os.length vc)=μ j->j<w1.heap.size:=V.row.lt;have E:=V.opts.2
  have HC:Hid (∀u v x y:fB,V6 w ((((w1.setCell ⟨w.heap.size,2,ν⟩ u).setCell ⟨w.heap.size+1,0,ν⟩ v).setCell ⟨w.heap.size+1,1,ν⟩ x).setCell ⟨w.heap.size+1,2,ν⟩ y) (ρ (.agg #[ι κ own,ι κ seq,σ Q os.length vc])) own seq os):=by
   intro u v x y;refine⟨⟨Q,vc,rfl,?_,vn,vl,λj U=>⟨by have:=J j U;omega,by simpa using lZ j U⟩⟩,(((A.setCell (aj _) _).setCell (by show _<=w.heap.size+1;omega) _).setCell (by show _<=w.heap.size+1;omega) _).setCell (by show _<=w.heap.size+1;omega) _⟩;refine⟨rfl,?_⟩;obtain h0|⟨b,off,rfl,hc⟩:=E.2;{exact .inl h0};refine .inr ⟨b,off,rfl,λj U=> ?_⟩;have hb:w.heap.size+2<=b:=J b rfl
   have D:∀o,((((w1.setCell ⟨w.heap.size,2,ν⟩ u).setCell ⟨w.heap.size+1,0,ν⟩ v).setCell ⟨w.heap.size+1,1,ν⟩ x).setCell ⟨w.heap.size+1,2,ν⟩ y).cell? ⟨b,o,ν⟩=w1.cell? ⟨b,o,ν⟩:=λo=>by
    apply ak;rw[ax _ _ _ _ (by show b≠w.heap.size+1;omega),ax _ _ _ _ (by show b≠w.heap.size+1;omega),ax _ _ _ _ (by show b≠w.heap.size+1;omega),ax _ _ _ _ (by show b≠w.heap.size;omega)]
   rw[D,D];exact hc j U
  clear V k1 T Z J lZ E A X Y;go_wp2_with fail;refine aN (v:=.agg #[ι κ own,ι κ seq,σ Q os.length vc]) (by simp[results,results169,go_sem,y0,y1,y2]) rfl ?_;exact HC.out _ _ _ _
open Go.Maps (Keyed)
open Go.ChangeMaps Go.MapKept
open Go.WideElems (Fit)
structure SV where
 own:Int
 seq:Int
 a:Option fq
 n:Nat
 cap:Nat
def SV.v(s:SV):fB:=.agg #[ι κ s.own,ι κ s.seq,σ s.a s.n s.cap]
def SV.zero:SV:=⟨0,0,ν,0,0⟩
def adY:fB->Option SV
 | .agg cs=>(match cs.toList with
   |[.int .i64 o,.int .i64 q,.slice a n c] =>some ⟨o,q,a,n,c⟩
   |_=>none)
 |_=>none
def V7 {v:fB} {s:SV} (h:adY v=μ s):v=s.v:=by
 unfold adY at h;split at h
 ·rename_i cs;split at h
  ·rename_i o q a n c e;obtain rfl:=aL h
   have:cs= #[ι κ o,ι κ q,σ a n c] :=by
    apply eD.1;simpa using e
   rw[this];rfl
  cases h
 cases h
def vy(v:fB):Option (fX SV×List gJ):=(adY v).map λs=>(.held s,[])
def A6(s:SV):vy s.v=μ (.held s,[]):=rfl
def yS {v:fB} {y:fX SV×List gJ} (h:vy v=μ y):∃s,v=s.v/\y=(.held s,[]):=by
 unfold vy at h;obtain⟨s,hs,rfl⟩:=dF.1 h;exact⟨s,V7 hs,rfl⟩
def wR:Keyed gg 3:=Go.Maps.int_keyed underlying3
def Mf(w:fA):(zeroValue 40).run gg w=.ok SV.zero.v w:=iV
def vm(k:Int):Prop:= -9223372036854775808<=k/\k<=9223372036854775807
def Fv(h:vm k):keyOf gg 3 (.int .i64 k)=μ (.int .i64 k):=by
 refine Go.Maps.keyOf_int_mk underlying3 ?_;exact WalkArith.wf_i64 (by obtain⟨h1,h2⟩:=h;omega)
structure SMap(w:fA)(b n:Nat)(f:Int->Option SV):Prop where
 own:∃D:fX SV,w.ownsMap gg 3 vy b n D/\∀k,vm k->match f k with
  |none=>∀z,D.atKey (.int .i64 k) z=z
  |some s=>∀z,D.atKey (.int .i64 k) z=.held s
def SMap.made(w:fA):SMap (w.alloc (.map #[] 0)) w.heap.size 0 (λ_=>ν):=
 ⟨⟨.map [],World.ownsMap_made w _ _ _,λ_ _ _=>rfl⟩⟩
def SMap.lt {w:fA} {b n:Nat} {f:Int->Option SV} (h:SMap w b n f):b<w.heap.size:=by obtain⟨D,Z,_⟩:=h.own;exact Z.lt
def SMap.mono {w:fA} {b n m:Nat} {f:Int->Option SV} (h:SMap w b n f)(X:n<=m):SMap w b m f:=by obtain⟨D,Z,Y⟩:=h.own;exact⟨⟨D,Z.mono X,Y⟩⟩
def SMap.kept {w w':fA} {b n:Nat} {f:Int->Option SV} {row:Option Nat} (h:SMap w b n f)(X:w.grownBy w' row)(V:μ b≠row):SMap w' b n f:=by obtain⟨D,Z,Y⟩:=h.own;exact⟨⟨D,Z.kept X V,Y⟩⟩
def SMap.keep {f:Int->Option SV} (h:SMap w b n f)(V:w'.heap[b]? =w.heap[b]?):SMap w' b n f:=by
 obtain⟨D,⟨es,clock,Z,X⟩,Y⟩:=h.own;exact⟨⟨D,⟨es,clock,V.trans Z,X⟩,Y⟩⟩
def SMap.below {f:Int->Option SV} (h:SMap w b n f)(Z:fP w w'):SMap w' b n f:=h.keep (Z.block b h.lt)
def SMap.drew {w:fA} {b n:Nat} {f:Int->Option SV} (h:SMap w b n f):SMap w.drew b n f:=h.keep rfl
def SMap.alloc {w:fA} {b n:Nat} {f:Int->Option SV} (h:SMap w b n f)(o:Obj):SMap (w.alloc o) b n f:=h.below (gu _ _)
def Kq(h:x≠k):(Lit.int .i64 x)≠ .int .i64 k:=λe=>h (by simpa using e)
def aan(k:Int)(h:vm k):WideAt.IsKeyLit (.int .i64 k):=wR.key (Fv h)
def SMap.store {w:fA} {b n:Nat} {f:Int->Option SV} (h:SMap w b n f)(U:n<maxLen)(k:Int)(Y:vm k)(s:SV):
 ∃w',(gK 211 (.map (μ b)) (ι κ k) s.v).run gg w=.ok () w'/\SMap w' b (n+1) (λx=>if x=k then μ s else f x)/\w.mapTurned w' b:=by
  obtain⟨D,Z,X⟩:=h.own;obtain⟨w',S,T,Q⟩:=Z.store wR underlying211 U (Fv Y) (A6 s);refine⟨w',S,⟨⟨_,T,λx hx=> ?_⟩⟩,Q⟩;have V:=Z.isMap;by_cases e:x=k;{subst e;simp only[if_true];exact λz=>Maps.atKey_put_same V (aan x Y) _ z};rw[af e];have:=X x hx;cases hf:f x with|none=>rw[hf]at this;exact λz=>(gL (Kq e) _ z).trans (this z)|some s'=>rw[hf]at this;exact λz=>(gL (Kq e) _ z).trans (this z)
def SMap.look {f:Int->Option SV} (h:SMap w b n f)(k:Int)(Z:vm k):
 (gM 211 (.map (μ b)) (ι κ k) false).run gg w=.ok ((f k).getD SV.zero).v w:=by
  obtain⟨D,Y,X⟩:=h.own;obtain⟨v,ps,V,hv⟩:=Y.lookup wR underlying211 (Mf w) (A6 SV.zero) (Fv Z);rw[V];obtain⟨s,rfl,e⟩:=yS hv;have hx:=X k Z;simp only[gH]at e;cases hf:f k with
  |none=>
   rw[hf]at hx;rw[hx]at e;have:SV.zero=s:=by simpa using e.1
   rw[<-this];rfl
  |some s'=>
   rw[hf]at hx;rw[hx]at e;have:s'=s:=by simpa using e.1
   rw[this];rfl
def SMap.look_ok {w:fA} {b n:Nat} {f:Int->Option SV} (h:SMap w b n f)(k:Int)(Z:vm k):
 (gM 211 (.map (μ b)) (ι κ k) true).run gg w=.ok (τ #[((f k).getD SV.zero).v,.bool (f k).isSome]) w:=by
  obtain⟨D,Y,X⟩:=h.own;obtain⟨v,ps,V,hv⟩:=Y.look_ok wR underlying211 (Mf w) (A6 SV.zero) (Fv Z);rw[V];obtain⟨s,rfl,e⟩:=yS hv;have hx:=X k Z;simp only[gH]at e;cases hf:f k with
  |none=>
   rw[hf]at hx;rw[hx]at e;have:SV.zero=s:=by simpa using e.1
   rw[<-this,eO hx];rfl
  |some s'=>
   rw[hf]at hx;rw[hx]at e;have:s'=s:=by simpa using e.1
   rw[this,eT hx];rfl
def SMap.drop {w:fA} {b n:Nat} {f:Int->Option SV} (h:SMap w b n f)(k:Int)(X:vm k)(ty:fE):
 ∃w',(Builtin.delete_ #[211,3] ty #[.map (μ b),ι κ k]).run gg w=.ok (τ #[]) w'/\SMap w' b n (λx=>if x=k then ν else f x)/\w.mapTurned w' b:=by
  obtain⟨D,Z,Y⟩:=h.own;obtain⟨w',U,V,T⟩:=Z.drop wR underlying211 (Fv X) ty;refine⟨w',U,⟨⟨_,V,λx hx=> ?_⟩⟩,T⟩;by_cases e:x=k;{subst e;simp only[if_true];exact λz=>Maps.atKey_del_same z};rw[af e];have:=Y x hx;cases hf:f x with|none=>rw[hf]at this;exact λz=>(gN (Kq e) z).trans (this z)|some s'=>rw[hf]at this;exact λz=>(gN (Kq e) z).trans (this z)
def SMap.clear {f:Int->Option SV} (h:SMap w b n f)(ty:fE):
 ∃w',(gO #[211] ty #[.map (μ b)]).run gg w=.ok (τ #[]) w'/\SMap w' b n (λ_=>ν)/\w.mapTurned w' b:=by
  obtain⟨D,⟨es,clock,Z,F,hs,hD⟩,h2⟩:=h.own;refine⟨setBlock w b (.map #[] clock),?_,⟨⟨.map [],⟨#[],clock,heap_setBlock_same Z _,⟨gZ,?_,gZ⟩,gZ,rfl⟩,λ_ _ _=>rfl⟩⟩,⟨es,clock,#[],clock,Z,rfl⟩⟩;{simp[gO,run_underlying underlying211,MapKept.run_getObj_map Z,MapKept.run_setObj_map _ Z,Result.andThen,setBlock]};exact stamped_empty clock
open Go.ChangeShapes Go.WideShapes Go.ChangeAt
def Ch(own seq:Int)(a:Option fq)(n cap:Nat)(os:List kS)(w:fA)(S:n<=maxLen)(U:kc w a n os):
 gb gg 117 #[.agg #[ι κ own,ι κ seq,σ a n cap]] w λe w'=>e=ρ (kr (qq own seq os))/\fP w w':=by
  by_cases h6:n<=6;{exact z9 own seq a n cap os w fC U};unfold maxLen at S;have X:=gu w (γ #[ι κ own,ι κ seq,σ a n cap] 40);have V:Hid (kr 1=.iface 128 (ι κ 1)):=rfl;have T:Hid (kr 2=.iface 128 (ι κ 2)):=rfl;have hl:=U.1;have Y:=wQ own (w.alloc (γ #[ι κ own,ι κ seq,σ a n cap] 40));have one:(own<1 \/6<own \/seq<1 \/1000000<seq)->Hid (qq own seq os=1):=λhh=>by show _=_;rw[qq,ag hh]
  by_cases r1:own<1 \/6<own;{have Z:=one fC;rw[Cg own r1]at Y;clear one;go_in;go_wp2_with fail;refine Y.mono ?_;rintro e w1 ⟨rfl,rfl⟩;go_wp2_with fail;rw[Z.out,V.out];go_ret;exact⟨rfl,X⟩};rw[Fq own fC fC]at Y;by_cases r2:seq<1;{have Z:=one fC;clear one;go_in;go_wp2_with fail;refine Y.mono ?_;rintro e w1 ⟨rfl,rfl⟩;go_wp2_with fail;rw[Z.out,V.out];go_ret;exact⟨rfl,X⟩};by_cases r3:1000000<seq;{have Z:=one fC;clear one;go_in;go_wp2_with fail;refine Y.mono ?_;rintro e w1 ⟨rfl,rfl⟩;go_wp2_with fail;rw[Z.out,V.out];go_ret;exact⟨rfl,X⟩};clear one;have r4:(6:Int)<(n:Int):=fC;have Z:Hid (qq own seq os=2):=by show _=_;rw[qq,af fC,ag fC]
  go_in;go_wp2_with fail;refine Y.mono ?_;rintro e w1 ⟨rfl,rfl⟩;go_wp2_with fail;rw[Z.out,T.out];go_ret;exact⟨rfl,X⟩
structure FM where
 bm:Nat
 g:Nat
 cap:Nat
 bs:List Nat
 no:Nat->Prop:=λ_=>False
def FM.sl(m:FM):fB:=σ (μ ⟨m.g,0,ν⟩) m.bs.length m.cap
def FM.row(m:FM):List fB:=m.bs.map λb=>gQ (μ b)
structure FB(w:fA)(B:Nat)(m:FM)(n:Nat)(kn:Int->Option SV)(ow:Nat->Int->Option SV):Prop where
 pT:w.heap[B]? =μ (γ #[.map (μ m.bm),m.sl] 214 (0,0))
 row:Row w 1 m.sl m.bs.length m.row
 km:SMap w m.bm n kn
 om:∀i b,m.bs[i]? =μ b->SMap w b n (ow i)
 few:m.bs.length<=3
 nB:m.bm≠B/\m.g≠B/\m.bm≠m.g/\(∀b∈m.bs,b≠B/\b≠m.g/\b≠m.bm)
 nd:m.bs.Nodup
def FB.lt {m:FM} {kn:Int->Option SV} {ow:Nat->Int->Option SV} (h:FB w B m n kn ow):B<w.heap.size:=(aE.1 h.pT).1
def FB.c0 {m:FM} {kn:Int->Option SV} {ow:Nat->Int->Option SV} (h:FB w B m n kn ow):w.cell? ⟨B,0,ν⟩=μ (.map (μ m.bm)):=aD w B 0 _ _ (0,0) h.pT
def FB.c1 {m:FM} {kn:Int->Option SV} {ow:Nat->Int->Option SV} (h:FB w B m n kn ow):w.cell? ⟨B,1,ν⟩=μ m.sl:=aD w B 1 _ _ (0,0) h.pT
def FB.below {w w':fA} {B:Nat} {m:FM} {n:Nat} {kn:Int->Option SV} {ow:Nat->Int->Option SV} (h:FB w B m n kn ow)(Z:fP w w'):FB w' B m n kn ow:=
 ⟨(Z.block B h.lt).trans h.pT,h.row.below Z,h.km.below Z,λi b e=>(h.om i b e).below Z,h.few,h.nB,h.nd⟩
def FB.port {m:FM} {kn:Int->Option SV} {ow:Nat->Int->Option SV} (h:FB w B m n kn ow)(i:Nat)(b:Nat)(e:m.bs[i]? =μ b):w.cell? ⟨m.g,i,ν⟩=μ (.map (μ b)):=by
 refine Row.cell h.row i _ ?_;unfold FM.row;rw[cY,e];rfl
def EC(B:Nat)(m:FM)(n:Nat)(kn:Int->Option SV)(ow:Nat->Int->Option SV)(port:Int)(w:fA)(h:FB w B m n kn ow):
 gb gg 176 #[π (μ ⟨B,0,ν⟩),ι κ port] w λe w'=>e=ρ (.bool (decide (0<=port)&&decide (port<(m.bs.length:Int))))/\w=w':=by
  have hl:=h.lt;have c1:w.cell? ⟨B,1,ν⟩=μ (σ (μ ⟨m.g,0,ν⟩) m.bs.length m.cap):=h.c1;have hf:=h.few;by_cases Z:0<=port
  ·by_cases Y:port<(m.bs.length:Int)
   ·have hv:(decide (0<=port)&&decide (port<(m.bs.length:Int)))=true:=by simp[Z,Y]
    rw[hv];clear hv h;go_in;go_wp2;go_ret;exact⟨by first|rfl|(simp;omega),rfl⟩
   have hv:(decide (0<=port)&&decide (port<(m.bs.length:Int)))=false:=by simp[Y]
   rw[hv];clear hv h;go_in;go_wp2;go_ret;exact⟨by first|rfl|(simp;omega),rfl⟩
  have hv:(decide (0<=port)&&decide (port<(m.bs.length:Int)))=false:=by simp[Z]
  rw[hv];clear hv h;go_in;go_wp2;go_ret;exact⟨by first|rfl|(simp;omega),rfl⟩
def xV(ag2:Nat)(port own seq:Int)(es:List kS):Nat:=if 0<=port/\port<(ag2:Int)then qq own seq es else 1
def sQ(B:Nat)(m:FM)(k:Nat)(kn:Int->Option SV)(ow:Nat->Int->Option SV)(port own seq:Int)(a:Option fq)(n cap:Nat)(es:List kS)(w:fA)(h:FB w B m k kn ow)(V:n<=maxLen)(U:kc w a n es):
 gb gg 216 #[π (μ ⟨B,0,ν⟩),ι κ port,.agg #[ι κ own,ι κ seq,σ a n cap]] w λe w'=>e=ρ (kr (xV m.bs.length port own seq es))/\fP w w':=by
  have Z:=gu w (γ #[ι κ own,ι κ seq,σ a n cap] 40);have hh:=EC B m k kn ow port _ (h.below Z);have hc:=Ch own seq a n cap es _ V (U.below Z);have X:Hid (kr 1=.iface 128 (ι κ 1)):=rfl;by_cases Y:0<=port/\port<(m.bs.length:Int)
  ·have hv:(decide (0<=port)&&decide (port<(m.bs.length:Int)))=true:=by simp[Y.1,Y.2]
   have hf:xV m.bs.length port own seq es=qq own seq es:=by rw[xV,ag Y]
   rw[hv]at hh;rw[hf];clear hv hf h;go_in;go_wp2_with fail;refine hh.mono ?_;rintro e w1 ⟨rfl,rfl⟩;go_wp2_with fail;refine hc.mono ?_;rintro e w2 ⟨rfl,k2⟩;go_wp2;go_ret;exact⟨rfl,fQ Z k2⟩
  have hv:(decide (0<=port)&&decide (port<(m.bs.length:Int)))=false:=by
   simp only[Bool.and_eq_false_iff,decide_eq_false_iff_not];omega
  have hf:Hid (xV m.bs.length port own seq es=1):=by show _=_;rw[xV,af Y]
  rw[hv]at hh;clear hv h;go_in;go_wp2_with fail;refine hh.mono ?_;rintro e w1 ⟨rfl,rfl⟩;go_wp2_with fail;rw[hf.out,X.out];go_ret;exact⟨rfl,Z⟩
def OB(B:Nat)(m:FM)(k:Nat)(kn:Int->Option SV)(ow:Nat->Int->Option SV)(own seq:Int)(a:Option fq)(n cap:Nat)(w:fA)(h:FB w B m k kn ow)(T:vm own)(U:kn own=ν):
 gb gg 217 #[π (μ ⟨B,0,ν⟩),.agg #[ι κ own,ι κ seq,σ a n cap]] w λe w'=>e=ρ (ι κ 1)/\fP w w':=by
  have hz:=rH;have X:=gu w (γ #[ι κ own,ι κ seq,σ a n cap] 40);have Y:=h.below X;obtain⟨Z,V⟩:=fH (w.alloc (γ #[ι κ own,ι κ seq,σ a n cap] 40));have x0:Z.cell? ⟨w.heap.size,0,ν⟩=μ (ι κ own):=by rw[<-V];exact ay w #[ι κ own,ι κ seq,σ a n cap] 40 (0,0) 0
  rw[V]at X Y;have S:Hid _:=V;clear V
  have qV:(gM 211 (.map (μ m.bm)) (ι κ own) true).run gg Z.drew=.ok (τ #[.agg #[ι κ 0,ι κ 0,σ ν 0 0],.bool false]) Z.drew:=by
   have:=Y.km.drew.look_ok own T;rw[U]at this;exact this
  have alN:(gM 211 (.map (μ m.bm)) (ι κ own) true).run gg (Z.alloc (γ #[ι κ 0,ι κ 0,σ ν 0 0] 40)).drew=.ok (τ #[.agg #[ι κ 0,ι κ 0,σ ν 0 0],.bool false]) (Z.alloc (γ #[ι κ 0,ι κ 0,σ ν 0 0] 40)).drew:=by
   have:=(Y.km.alloc (γ #[ι κ 0,ι κ 0,σ ν 0 0] 40)).drew.look_ok own T;rw[U]at this;exact this
  have c0:=Y.c0;have hl:=Y.lt;have hx:w.heap.size<Z.heap.size:=ai Z _ x0;clear h Y U;go_in;go_wp2_with fail;rw[S.out];go_region;all_goals(go_wp2;go_ret;exact⟨rfl,below_drewN (X.alloc X.size _) 1⟩)
def OC(B:Nat)(m:FM)(k:Nat)(kn:Int->Option SV)(ow:Nat->Int->Option SV)(own seq:Int)(a:Option fq)(n cap:Nat)(es:List kS)(t:SV)(fs:List kS)(w:fA)(h:FB w B m k kn ow)(G:vm own)(S:kn own=μ t)(J:kc w a n es)(D:n<=1000000)(Q:kc w t.a t.n fs):
 gb gg 217 #[π (μ ⟨B,0,ν⟩),.agg #[ι κ own,ι κ seq,σ a n cap]] w λe w'=>e=ρ (ι κ (nI seq es t.seq fs))/\fP w w':=by
  obtain⟨T,ts,ta,tn,tc⟩:=t;simp only at Q;have hz:=rH;have X:=gu w (γ #[ι κ own,ι κ seq,σ a n cap] 40);have Y:=h.below X;obtain⟨Z,V⟩:=fH (w.alloc (γ #[ι κ own,ι κ seq,σ a n cap] 40));have U:Z.heap[w.heap.size]? =μ (γ #[ι κ own,ι κ seq,σ a n cap] 40 (0,0)):=by rw[<-V];exact bw w _
  rw[V]at X Y;have E:Hid _:=V;clear V;have x0:Z.cell? ⟨w.heap.size,0,ν⟩=μ (ι κ own):=aD Z _ 0 _ _ (0,0) U
  have qV:(gM 211 (.map (μ m.bm)) (ι κ own) true).run gg Z.drew=.ok (τ #[.agg #[ι κ T,ι κ ts,σ ta tn tc],.bool true]) Z.drew:=by
   have:=Y.km.drew.look_ok own G;rw[S]at this;exact this
  have alN:(gM 211 (.map (μ m.bm)) (ι κ own) true).run gg (Z.alloc (γ #[ι κ 0,ι κ 0,σ ν 0 0] 40)).drew=.ok (τ #[.agg #[ι κ T,ι κ ts,σ ta tn tc],.bool true]) (Z.alloc (γ #[ι κ 0,ι κ 0,σ ν 0 0] 40)).drew:=by
   have:=(Y.km.alloc (γ #[ι κ 0,ι κ 0,σ ν 0 0] 40)).drew.look_ok own G;rw[S]at this;exact this
  have c0:=Y.c0;have hl:=Y.lt;have hx:w.heap.size<Z.heap.size:=ai Z _ x0;have M:fP w ((Z.alloc (γ #[ι κ T,ι κ ts,σ ta tn tc] 40)).drew):=below_drewN (X.alloc X.size _) 1;have A:=I5 own seq T ts a ta n tn cap tc es fs _ (J.below M) (Q.below M) D;have x1:Z.cell? ⟨w.heap.size,1,ν⟩=μ (ι κ seq):=aD Z _ 1 _ _ (0,0) U;have x2:Z.cell? ⟨w.heap.size,2,ν⟩=μ (σ a n cap):=aD Z _ 2 _ _ (0,0) U;clear h Y S Q J U;go_in;go_wp2_with fail;rw[E.out];go_region;all_goals(go_wp2_with fail;refine A.mono ?_;rintro e w2 ⟨rfl,k2⟩;go_wp2;go_ret;exact⟨rfl,fQ M k2⟩)
structure kM(w w':fA)(m:FM):Prop where
 os:w'.os=w.os
 tape:w'.tape=w.tape
 output:w'.output=w.output
 size:w.heap.size<=w'.heap.size
 block:∀i<w.heap.size,i≠m.bm->i∉m.bs->w'.heap[i]? =w.heap[i]?
def kM.jY(m:FM)(h:fP w w'):kM w w' m:=⟨h.os,h.tape,h.output,h.size,λi hi _ _=>h.block i hi⟩
def kM.trans {a b c:fA} {m:FM} (h:kM a b m)(k:kM b c m):kM a c m:=
 ⟨k.os.trans h.os,k.tape.trans h.tape,k.output.trans h.output,au h.size k.size,λi hi Z Y=>(k.block i (aq hi h.size) Z Y).trans (h.block i hi Z Y)⟩
def kM.rI {m:FM} (h:w.mapTurned w' b)(Z:b=m.bm \/b∈m.bs):kM w w' m:=by
 have g:=h.grown;refine⟨g.os,g.tape,g.output,g.size,λi hi Y X=>g.block i hi (λe=> ?_)⟩;have:i=b:=by simpa using e
 subst this;obtain Z|Z:=Z;{exact Y Z};exact X Z
def kM.below {b:fA} {m:FM} (h:fP w a)(k:kM a b m)(h1:w.heap.size<=m.bm)(Z:∀x∈m.bs,w.heap.size<=x):fP w b:=
 ⟨k.os.trans h.os,k.tape.trans h.tape,k.output.trans h.output,au h.size k.size,λi hi=>by
  rw[k.block i (aq hi h.size) fC (λe=>by have:=Z i e;omega)];exact h.block i hi⟩
def pG {x:Nat} (h:w.mapTurned w' b)(hx:x<w.heap.size)(Z:x≠b):w'.heap[x]? =w.heap[x]? :=h.grown.block x hx (λe=>Z (by simpa using e))
def FB.alO {m:FM} {kn kn':Int->Option SV} {ow:Nat->Int->Option SV} (h:FB w B m n kn ow)(Z:w.mapTurned w' m.bm)(U:SMap w' m.bm n' kn')(T:n<=n'):FB w' B m n' kn' ow:=by
 refine⟨(pG Z h.lt (λe=>h.nB.1 e.symm)).trans h.pT,h.row.keep Z.grown.size (λk Y=> ?_),U,λi b e=> ?_,h.few,h.nB,h.nd⟩
 ·have V:m.g=k:=by simpa[FM.sl,fD]using Y
  subst V;exact pG Z (h.row.lt _ Y) (λe=>h.nB.2.2.1 e.symm)
 have X:=h.nB.2.2.2 b (bY e);exact((h.om i b e).keep (pG Z (h.om i b e).lt X.2.2)).mono T
def FB.OD {m:FM} {kn:Int->Option SV} {ow:Nat->Int->Option SV} {f:Int->Option SV} (h:FB w B m n kn ow)(hi:m.bs[i]? =μ b)(Z:w.mapTurned w' b)(Q:SMap w' b n' f)(V:n<=n'):FB w' B m n' kn (λj=>if j=i then f else ow j):=by
 have Y:=h.nB.2.2.2 b (bY hi);refine⟨(pG Z h.lt (λe=>Y.1 e.symm)).trans h.pT,h.row.keep Z.grown.size (λk U=> ?_),(h.km.keep (pG Z h.km.lt (λe=>Y.2.2 e.symm))).mono V,λj c e=> ?_,h.few,h.nB,h.nd⟩
 ·have S:m.g=k:=by simpa[FM.sl,fD]using U
  subst S;exact pG Z (h.row.lt _ U) (λe=>Y.2.1 e.symm)
 by_cases X:j=i;{subst X;rw[hi]at e;obtain rfl:=aL e;simp only[if_true];exact Q};rw[af X]
 have M:c≠b:=λT=>by
  subst T;exact X ((gS (aT.1 e).1 h.nd).1 (e.trans hi.symm))
 exact((h.om j c e).keep (pG Z (h.om j c e).lt M)).mono V
def vN(f:Int->Option SV)(k:Int)(s:SV):Int->Option SV:=λx=>if x=k then μ s else f x
structure Kr(w w':fA)(B:Nat)(m:FM)(n:Nat)(kn:Int->Option SV)(ow:Nat->Int->Option SV)(own seq:Int)(es:List kS)(s:SV):Prop where
 so:s.own=own
 ss:s.seq=seq
 sn:s.n=es.length
 so2:kc w' s.a s.n es
 nil:mG s.a s.cap
 new:∀j,fD (σ s.a s.n s.cap)=μ j->w.heap.size<=j/\j<w'.heap.size
 fb:FB w' B m (n+1+m.bs.length) (vN kn own s) (λi=>if i<m.bs.length then vN (ow i) own s else ow i)
 kept:kM w w' m
def kc.V8 {a:Option fq} {os:List kS} {m:FM} (h:kc w a n os)(X:kM w w' m)(hf:∀j,fD (σ a n cap)=μ j->j≠m.bm/\j∉m.bs):kc w' a n os:=by
 refine⟨h.1,?_⟩;obtain Z|⟨b,off,rfl,Z⟩:=h.2;{exact .inl Z};refine .inr ⟨b,off,rfl,λj Y=> ?_⟩;obtain⟨c1,c2⟩:=Z j Y;obtain⟨f1,f2⟩:=hf b rfl;have e:=X.block b (ai w _ c1) f1 f2;exact⟨(ak (a:=⟨b,off+j*2,ν⟩) e).trans c1,(ak (a:=⟨b,off+j*2+1,ν⟩) e).trans c2⟩
def I6(B:Nat)(m:FM)(k:Nat)(kn:Int->Option SV)(ow:Nat->Int->Option SV)(own seq:Int)(a:Option fq)(n cap:Nat)(es:List kS)(w:fA)(h:FB w B m k kn ow)(hr:vm own)(ho:kc w a n es)(lR:mG a cap)(hn:n<=1000000)(hk:k<=1000000):
 gb gg 118 #[π (μ ⟨B,0,ν⟩),.agg #[ι κ own,ι κ seq,σ a n cap]] w λe w'=>e=ρ (τ #[])/\∃s,Kr w w' B m k kn ow own seq es s:=by
  have hb:=gu w (γ #[ι κ own,ι κ seq,σ a n cap] 40);have J:=h.below hb;obtain⟨W1,lK⟩:=fH (w.alloc (γ #[ι κ own,ι κ seq,σ a n cap] 40));have rS:W1.heap[w.heap.size]? =μ (γ #[ι κ own,ι κ seq,σ a n cap] 40 (0,0)):=by rw[<-lK];exact bw w _
  rw[lK]at hb J;have HW:Hid _:=lK;clear lK;have ED:=Fu own seq a n cap es W1 hn lR (ho.below hb);go_in;go_wp2_with fail;rw[HW.out];refine ED.mono ?_;rintro e X ⟨⟨Y,vc,rfl,vo,vn,vl,Ig⟩,k2⟩;clear ED;have E:=(k2.block _ (aE.1 rS).1).trans rS;have x0:X.cell? ⟨w.heap.size,0,ν⟩=μ (ι κ own):=aD X _ 0 _ _ (0,0) E;have x1:X.cell? ⟨w.heap.size,1,ν⟩=μ (ι κ seq):=aD X _ 1 _ _ (0,0) E;have x2:X.cell? ⟨w.heap.size,2,ν⟩=μ (σ a n cap):=aD X _ 2 _ _ (0,0) E;have fx:=λj=>bR X w.heap.size j _ _ E;have xl:w.heap.size<X.heap.size:=ai X _ x0
  go_upto_region 2 with fail
  obtain⟨Z,D⟩:=fH (((X.setCell ⟨w.heap.size,0,ν⟩ (ι κ own)).setCell ⟨w.heap.size,1,ν⟩ (ι κ seq)).setCell ⟨w.heap.size,2,ν⟩ (σ Y es.length vc));have tU:=fQ hb k2;have b3:fP w Z:=by rw[<-D];exact((tU.setCell (aj _) _).setCell (aj _) _).setCell (aj _) _
  have A:Z.heap[w.heap.size]? =μ (γ #[ι κ own,ι κ seq,σ Y es.length vc] 40 (0,0)):=by
   rw[<-D];have s1:=cW X w.heap.size #[ι κ own,ι κ seq,σ a n cap] (#[ι κ own,ι κ seq,σ a n cap].setIfInBounds 0 (ι κ own)) 40 (0,0) E;rw[<-cg X w.heap.size 0 _ _ (0,0) _ E]at s1;have s2:=cW _ w.heap.size _ ((#[ι κ own,ι κ seq,σ a n cap].setIfInBounds 0 (ι κ own)).setIfInBounds 1 (ι κ seq)) 40 (0,0) s1;rw[<-cg _ w.heap.size 1 _ _ (0,0) _ s1]at s2;have s3:=cW _ w.heap.size _ (((#[ι κ own,ι κ seq,σ a n cap].setIfInBounds 0 (ι κ own)).setIfInBounds 1 (ι κ seq)).setIfInBounds 2 (σ Y es.length vc)) 40 (0,0) s2;rw[<-cg _ w.heap.size 2 _ _ (0,0) _ s2]at s3;exact s3
  have ag4:W1.heap.size=w.heap.size+1:=by have:=HW.out;rw[<-this];simp
  have vo3:kc Z Y es.length es:=by
   refine vo.kept (cap:=vc) (λj hj=> ?_);have:=(Ig j hj).1;rw[<-D,ax _ _ _ _ (by show j≠w.heap.size;omega),ax _ _ _ _ (by show j≠w.heap.size;omega),ax _ _ _ _ (by show j≠w.heap.size;omega)]
  have hs3:X.heap.size=Z.heap.size:=by rw[<-D];simp
  rw[D];have S:=h.below b3;have QV:fP w Z.drew:=below_drewN b3 1;have M:=h.below QV;obtain⟨W4,hr4,S4,T4⟩:=M.km.store (by unfold maxLen;omega) own hr ⟨own,seq,Y,es.length,vc⟩;have alR:(gK 211 (.map (μ m.bm)) (ι κ own) (.agg #[ι κ own,ι κ seq,σ Y es.length vc])).run gg Z.drew=.ok () W4:=hr4;have U:=M.alO T4 S4 (bK _);have c0:=S.c0;have lB:=S.lt;have y0:Z.cell? ⟨w.heap.size,0,ν⟩=μ (ι κ own):=aD Z _ 0 _ _ (0,0) A;have y1:Z.cell? ⟨w.heap.size,1,ν⟩=μ (ι κ seq):=aD Z _ 1 _ _ (0,0) A;have y2:Z.cell? ⟨w.heap.size,2,ν⟩=μ (σ Y es.length vc):=aD Z _ 2 _ _ (0,0) A;have yl:w.heap.size<Z.heap.size:=ai Z _ y0;clear x0 x1 x2 fx xl D hr4 S4;go_region;have u:kM Z.drew W4 m:=kM.rI T4 (.inl rfl)
  have SS:∀x,x=m.bm \/x∈m.bs->x<w.heap.size:=by
   intro x hx;obtain rfl|hx:=hx;{exact h.km.lt};obtain⟨i,hi⟩:=gT hx;exact(h.om i x hi).lt
  have aco:∀V:fA,kM Z.drew V m->V.heap[w.heap.size]? =μ (γ #[ι κ own,ι κ seq,σ Y es.length vc] 40 (0,0)):=λV hV=>
   (hV.block w.heap.size yl (λe=>by have:=SS m.bm (.inl rfl);omega) (λe=>by have:=SS _ (.inr e);omega)).trans A
  obtain⟨s,hs⟩:∃s:SV,(⟨own,seq,Y,es.length,vc⟩:SV)=s:=⟨_,rfl⟩
  have ag6:FB W4 B m (k+1+0) (vN kn own s) (λi=>if i<0 then vN (ow i) own s else ow i):=by
   rw[<-hs];have e0:(λi=>if i<0 then vN (ow i) own ⟨own,seq,Y,es.length,vc⟩else ow i)=ow:=by funext i;simp
   rw[e0];exact U
  have xT:=h.few;have c1:W4.cell? ⟨B,1,ν⟩=μ (σ (μ ⟨m.g,0,ν⟩) m.bs.length m.cap):=U.c1;have lB4:=U.lt;have Q:Hid _:=hs;have HX:Hid _:=aco;have H3:Hid (kc Z Y es.length es/\fP w Z/\X.heap.size=Z.heap.size/\W1.heap.size=w.heap.size+1):=⟨vo3,b3,hs3,ag4⟩
  have y:Hid _:=SS;clear hs aco c0 lB y0 y1 y2 yl S M U alR T4 J E rS A b3 QV hb k2 tU SS vo3 hs3 ag4 vo;go_wp2;go_loopw [20] (λi wr=>∃j:Nat,j<=m.bs.length/\i=ι κ j/\FB wr B m (k+1+j) (vN kn own s) (λi=>if i<j then vN (ow i) own s else ow i)/\kM Z.drew wr m) (λi _=>m.bs.length-(gj i).toNat);(case atStart=>exact⟨0,aw _,rfl,ag6,u⟩)
  case round=>
   clear ag6 u c1 lB4;obtain⟨j,hj,rfl,hF,G⟩:=hrel;by_cases lZ:j<m.bs.length
   ·have pE:(j:Int)<(m.bs.length:Int):=fC;have hX:=HX.out wr G;have z0:wr.cell? ⟨w.heap.size,0,ν⟩=μ (ι κ own):=aD wr _ 0 _ _ (0,0) hX;have z1:wr.cell? ⟨w.heap.size,1,ν⟩=μ (ι κ seq):=aD wr _ 1 _ _ (0,0) hX;have z2:wr.cell? ⟨w.heap.size,2,ν⟩=μ (σ Y es.length vc):=aD wr _ 2 _ _ (0,0) hX;have zl:w.heap.size<wr.heap.size:=ai wr _ z0;have T:m.bs[j]? =μ m.bs[j] :=aB lZ;have cp:=hF.port j _ T;have gl:m.g<wr.heap.size:=ai wr _ cp;obtain⟨W5,Mg,S5,T5⟩:=(hF.om j _ T).store (by unfold maxLen;omega) own hr s;have F5:=hF.OD T T5 S5 (bK _);have M5:kM Z.drew W5 m:=G.trans (kM.rI T5 (.inr (aO _)))
    have F5':FB W5 B m (k+1+(j+1)) (vN kn own s) (λi=>if i<j+1 then vN (ow i) own s else ow i):=by
     have e:(λi=>if i<j+1 then vN (ow i) own s else ow i)=(λi=>if i=j then(λx=>if x=own then μ s else(if j<j then vN (ow j) own s else ow j) x)else(if i<j then vN (ow i) own s else ow i)):=by
      funext i;by_cases J:i=j;{rw[J,ag (eE j),ag rfl,af (fh j)];rfl};by_cases h2:i<j;{rw[ag fC,af J,ag h2]};rw[af fC,af J,af h2]
     rw[e];exact F5
    have alS:(gK 211 (.map (μ m.bs[j])) (ι κ own) (.agg #[ι κ own,ι κ seq,σ Y es.length vc])).run gg wr=.ok () W5:=by
     have:=Mg;rw[<-Q.out]at this;exact this
    generalize m.bs[j] =bj at cp alS;clear Mg S5 T5 F5 hF G T hX;go_wp2;go_roundw;(case rel=>exact⟨j+1,fC,by go_num,F5',M5⟩);case measure=>simp[gj];omega
   have Ke:j=m.bs.length:=fC;subst Ke
   have HF:Hid (∃s,Kr w wr B m k kn ow own seq es s):=by
    obtain⟨q1,q2,q3,q4⟩:=H3.out
    have wO:∀x,fD (σ Y es.length vc)=μ x->x≠m.bm/\x∉m.bs:=λx hx=>by
     have J:=(Ig x hx).1;exact⟨λe=>by have:=y.out m.bm (.inl rfl);omega,λe=>by have:=y.out x (.inr e);omega⟩
    have o1:=(q1.drewN 1).V8 (cap:=vc) G wO;have ud:=G.size;have arC:Z.heap.size<=wr.heap.size:=ud;refine⟨s,?_,?_,?_,?_,?_,?_,hF,(kM.jY m (below_drewN q2 1)).trans G⟩;{rw[<-Q.out]};{rw[<-Q.out]};{rw[<-Q.out]};{rw[<-Q.out];exact o1};{rw[<-Q.out];exact vn};rw[<-Q.out];intro x hx;have:=Ig x hx;omega
   clear hF G;go_wp2_with fail;go_end0;exact⟨rfl,HF.out⟩
def del(f:Int->Option SV)(k:Int):Int->Option SV:=λx=>if x=k then ν else f x
def FB.mlt {m:FM} {kn:Int->Option SV} {ow:Nat->Int->Option SV} (h:FB w B m n kn ow):∀x,x=m.bm \/x∈m.bs->x<w.heap.size:=by
 intro x hx;obtain rfl|hx:=hx;{exact h.km.lt};obtain⟨i,hi⟩:=gT hx;exact(h.om i x hi).lt
def FB.mono {w:fA} {B:Nat} {m:FM} {n n':Nat} {kn:Int->Option SV} {ow:Nat->Int->Option SV} (h:FB w B m n kn ow)(Z:n<=n'):FB w B m n' kn ow:=⟨h.pT,h.row,h.km.mono Z,λi b e=>(h.om i b e).mono Z,h.few,h.nB,h.nd⟩
def V9 {V:fA} {m:FM} {kn:Int->Option SV} {ow:Nat->Int->Option SV} {C:Array fB} (h:FB w B m n kn ow)(Z:W.heap[w.heap.size]? =μ (γ C 40 (0,0)))(Y:kM W V m):V.heap[w.heap.size]? =μ (γ C 40 (0,0)):=
 (Y.block w.heap.size (aE.1 Z).1 (λe=>by have:=h.mlt m.bm (.inl rfl);omega) (λe=>by have:=h.mlt _ (.inr e);omega)).trans Z
def take_zero(B:Nat)(m:FM)(k:Nat)(kn:Int->Option SV)(ow:Nat->Int->Option SV)(p:Nat)(own seq:Int)(a:Option fq)(n cap:Nat)(es:List kS)(w:fA)(h:FB w B m k kn ow)(hr:vm own)(hp:p<m.bs.length)(ho:kc w a n es)(hn:n<=maxLen)(hf:qq own seq es=0)
 (j:∀W,fP w W->gb gg 217 #[π (μ ⟨B,0,ν⟩),.agg #[ι κ own,ι κ seq,σ a n cap]] W λe w'=>e=ρ (ι κ 0)/\fP W w'):
 gb gg 190 #[π (μ ⟨B,0,ν⟩),ι κ (p:Int),.agg #[ι κ own,ι κ seq,σ a n cap]] w λe w'=>e=ρ (τ #[ι κ 0,η])/\FB w' B m k kn (λi=>if i=p then del (ow p) own else ow i)/\kM w w' m:=by
  have Y:=gu w (γ #[ι κ own,ι κ seq,σ a n cap] 40);obtain⟨y,U⟩:=fH (w.alloc (γ #[ι κ own,ι κ seq,σ a n cap] 40));have M:y.heap[w.heap.size]? =μ (γ #[ι κ own,ι κ seq,σ a n cap] 40 (0,0)):=by rw[<-U];exact bw w _
  rw[U]at Y;have HW:Hid _:=U;have J:=sQ B m k kn ow (p:Int) own seq a n cap es y (h.below Y) hn (ho.below Y);have u:xV m.bs.length (p:Int) own seq es=0:=by rw[xV,ag fC,hf]
  have E:kr 0=η:=rfl;rw[u,E]at J;have Wa:Hid _:=j;have hpi:(p:Int)<(m.bs.length:Int):=fC;have xT:=h.few;clear U u E j hf;go_in;go_wp2_with fail;rw[HW.out];refine J.mono ?_;rintro e Z ⟨rfl,k2⟩;have b2:=fQ Y k2;have X:=(k2.block _ (aE.1 M).1).trans M;have x0:Z.cell? ⟨w.heap.size,0,ν⟩=μ (ι κ own):=aD Z _ 0 _ _ (0,0) X;have x1:Z.cell? ⟨w.heap.size,1,ν⟩=μ (ι κ seq):=aD Z _ 1 _ _ (0,0) X;have x2:Z.cell? ⟨w.heap.size,2,ν⟩=μ (σ a n cap):=aD Z _ 2 _ _ (0,0) X;have G:w.heap.size<Z.heap.size:=ai Z _ x0;clear J M Y k2;go_wp2_with fail;refine(Wa.out Z b2).mono ?_;rintro e w3 ⟨rfl,k3⟩;have b3:=fQ b2 k3;have Aa:=(k3.block _ G).trans X;clear x0 x1 x2 G X;have x0:w3.cell? ⟨w.heap.size,0,ν⟩=μ (ι κ own):=aD w3 _ 0 _ _ (0,0) Aa;have G:w.heap.size<w3.heap.size:=ai w3 _ x0;have V:=h.below b3;have D:fP w w3.drew:=below_drewN b3 1;have S:=h.below D;have T:m.bs[p]? =μ m.bs[p] :=aB hp;obtain⟨W5,Mg,A,Q⟩:=(S.om p _ T).drop own hr 0;have F5:=S.OD T Q A (aj _);have M5:kM w W5 m:=(kM.jY m D).trans (kM.rI Q (.inr (aO _)));have c1:w3.cell? ⟨B,1,ν⟩=μ (σ (μ ⟨m.g,0,ν⟩) m.bs.length m.cap):=V.c1;have lB:=V.lt;have cp:=V.port p _ T;have gl:m.g<w3.heap.size:=ai w3 _ cp;generalize m.bs[p] =bp at cp Mg;clear V S A Q T k3;go_wp2;go_region;all_goals(go_wp2;go_ret2;exact⟨rfl,F5,M5⟩)
def Wc(B:Nat)(m:FM)(k:Nat)(kn:Int->Option SV)(ow:Nat->Int->Option SV)(p:Nat)(own seq:Int)(a:Option fq)(n cap:Nat)(es:List kS)(w:fA)(h:FB w B m k kn ow)(j:vm own)(hp:p<m.bs.length)(ho:kc w a n es)(hn:n<=maxLen)(hf:qq own seq es=0)(t:SV)(ht:kn own=μ t)(hk:k<=1000000)
 (vh:∀W,fP w W->gb gg 217 #[π (μ ⟨B,0,ν⟩),.agg #[ι κ own,ι κ seq,σ a n cap]] W λe w'=>e=ρ (ι κ (-1))/\fP W w'):
 gb gg 190 #[π (μ ⟨B,0,ν⟩),ι κ (p:Int),.agg #[ι κ own,ι κ seq,σ a n cap]] w λe w'=>e=ρ (τ #[ι κ (-1),η])/\FB w' B m (k+1) kn (λi=>if i=p then vN (ow p) own t else ow i)/\kM w w' m:=by
  have X:=gu w (γ #[ι κ own,ι κ seq,σ a n cap] 40);obtain⟨u,T⟩:=fH (w.alloc (γ #[ι κ own,ι κ seq,σ a n cap] 40));have M:u.heap[w.heap.size]? =μ (γ #[ι κ own,ι κ seq,σ a n cap] 40 (0,0)):=by rw[<-T];exact bw w _
  rw[T]at X;have HW:Hid _:=T;have J:=sQ B m k kn ow (p:Int) own seq a n cap es u (h.below X) hn (ho.below X);have sy:xV m.bs.length (p:Int) own seq es=0:=by rw[xV,ag fC,hf]
  have E:kr 0=η:=rfl;rw[sy,E]at J;have Wa:Hid _:=vh;have hpi:(p:Int)<(m.bs.length:Int):=fC;have xT:=h.few;clear T sy E vh hf;go_in;go_wp2_with fail;rw[HW.out];refine J.mono ?_;rintro e Z ⟨rfl,k2⟩;have b2:=fQ X k2;have V:=(k2.block _ (aE.1 M).1).trans M;have x0:Z.cell? ⟨w.heap.size,0,ν⟩=μ (ι κ own):=aD Z _ 0 _ _ (0,0) V;have x1:Z.cell? ⟨w.heap.size,1,ν⟩=μ (ι κ seq):=aD Z _ 1 _ _ (0,0) V;have x2:Z.cell? ⟨w.heap.size,2,ν⟩=μ (σ a n cap):=aD Z _ 2 _ _ (0,0) V;have G:w.heap.size<Z.heap.size:=ai Z _ x0;clear J M X k2;go_wp2_with fail;refine(Wa.out Z b2).mono ?_;rintro e w3 ⟨rfl,k3⟩;have b3:=fQ b2 k3;have Aa:=(k3.block _ G).trans V;clear x0 x1 x2 G V;have x0:w3.cell? ⟨w.heap.size,0,ν⟩=μ (ι κ own):=aD w3 _ 0 _ _ (0,0) Aa;have G:w.heap.size<w3.heap.size:=ai w3 _ x0;have Y:=h.below b3;have A:fP w w3.drew:=below_drewN b3 1;have U:=h.below A;have S:m.bs[p]? =μ m.bs[p] :=aB hp
  have qV:(gM 211 (.map (μ m.bm)) (ι κ own) false).run gg w3.drew=.ok t.v w3.drew:=by
   have:=U.km.look own j;rw[ht]at this;exact this
  obtain⟨W5,D,y,Q⟩:=(U.om p _ S).store (by unfold maxLen;omega) own j t;have F5:=U.OD S Q y (bK _);have M5:kM w W5 m:=(kM.jY m A).trans (kM.rI Q (.inr (aO _)));have c0:=Y.c0;have c1:w3.cell? ⟨B,1,ν⟩=μ (σ (μ ⟨m.g,0,ν⟩) m.bs.length m.cap):=Y.c1;have lB:=Y.lt;have cp:=Y.port p _ S;have gl:m.g<w3.heap.size:=ai w3 _ cp;generalize m.bs[p] =bp at cp D;generalize t.v=tv at qV D;clear Y U y Q S k3 ht;go_wp2;go_region;all_goals(go_wp2;go_ret2;exact⟨rfl,F5,M5⟩)
structure ag7(w w':fA)(B:Nat)(m:FM)(n:Nat)(kn:Int->Option SV)(ow:Nat->Int->Option SV)(p:Nat)(own seq:Int)(es:List kS)(s:SV):Prop where
 so:s.own=own
 ss:s.seq=seq
 sn:s.n=es.length
 so2:kc w' s.a s.n es
 nil:mG s.a s.cap
 new:∀j,fD (σ s.a s.n s.cap)=μ j->w.heap.size<=j/\j<w'.heap.size
 fb:FB w' B m (n+1+m.bs.length) (vN kn own s) (λi=>if i=p then del (vN (ow p) own s) own else if i<m.bs.length then vN (ow i) own s else ow i)
 kept:kM w w' m
def Wd(B:Nat)(m:FM)(k:Nat)(kn:Int->Option SV)(ow:Nat->Int->Option SV)(p:Nat)(own seq:Int)(a:Option fq)(n cap:Nat)(es:List kS)(w:fA)(h:FB w B m k kn ow)(hr:vm own)(hp:p<m.bs.length)(ho:kc w a n es)(hn:n<=maxLen)(lR:mG a cap)(hk:k<=1000000)(hf:qq own seq es=0)
 (vh:∀W,fP w W->gb gg 217 #[π (μ ⟨B,0,ν⟩),.agg #[ι κ own,ι κ seq,σ a n cap]] W λe w'=>e=ρ (ι κ 1)/\fP W w'):
 gb gg 190 #[π (μ ⟨B,0,ν⟩),ι κ (p:Int),.agg #[ι κ own,ι κ seq,σ a n cap]] w λe w'=>e=ρ (τ #[ι κ 1,η])/\∃s,ag7 w w' B m k kn ow p own seq es s:=by
  have Q:=gu w (γ #[ι κ own,ι κ seq,σ a n cap] 40);obtain⟨W1,D⟩:=fH (w.alloc (γ #[ι κ own,ι κ seq,σ a n cap] 40));have rS:W1.heap[w.heap.size]? =μ (γ #[ι κ own,ι κ seq,σ a n cap] 40 (0,0)):=by rw[<-D];exact bw w _
  rw[D]at Q;have HW:Hid _:=D;have uI:=sQ B m k kn ow (p:Int) own seq a n cap es W1 (h.below Q) hn (ho.below Q);have sy:xV m.bs.length (p:Int) own seq es=0:=by rw[xV,ag fC,hf]
  have E0:kr 0=η:=rfl;rw[sy,E0]at uI;have Wa:Hid _:=vh;have HN:Hid (n<=6):=by show n<=6;have:=(kD hf).2.2.1;rw[ho.1]at this;exact this
  have hpi:(p:Int)<(m.bs.length:Int):=fC;have xT:=h.few;clear D sy E0 vh hf;go_in;go_wp2_with fail;rw[HW.out];refine uI.mono ?_;rintro e V ⟨rfl,k2⟩;have b2:=fQ Q k2;have J:=(k2.block _ (aE.1 rS).1).trans rS;have x0:V.cell? ⟨w.heap.size,0,ν⟩=μ (ι κ own):=aD V _ 0 _ _ (0,0) J;have x1:V.cell? ⟨w.heap.size,1,ν⟩=μ (ι κ seq):=aD V _ 1 _ _ (0,0) J;have x2:V.cell? ⟨w.heap.size,2,ν⟩=μ (σ a n cap):=aD V _ 2 _ _ (0,0) J;have G:w.heap.size<V.heap.size:=ai V _ x0;clear uI rS Q k2;go_wp2_with fail;refine(Wa.out V b2).mono ?_;rintro e w3 ⟨rfl,k3⟩;have b3:=fQ b2 k3;have E:=(k3.block _ G).trans J;clear x0 x1 x2 G J;have x0:w3.cell? ⟨w.heap.size,0,ν⟩=μ (ι κ own):=aD w3 _ 0 _ _ (0,0) E;have G:w.heap.size<w3.heap.size:=ai w3 _ x0;have x1:w3.cell? ⟨w.heap.size,1,ν⟩=μ (ι κ seq):=aD w3 _ 1 _ _ (0,0) E;have x2:w3.cell? ⟨w.heap.size,2,ν⟩=μ (σ a n cap):=aD w3 _ 2 _ _ (0,0) E;have F3:=h.below b3;have hn6:n<=1000000:=by have:=HN.out;omega
  have M:=I6 B m k kn ow own seq a n cap es w3 F3 hr (ho.below b3) lR hn6 hk;clear k3;go_wp2_with fail;refine M.mono ?_;rintro e Z ⟨rfl,s,Y⟩;clear M x0 x1 x2 G;have u:=V9 h E Y.kept;have x0:Z.cell? ⟨w.heap.size,0,ν⟩=μ (ι κ own):=aD Z _ 0 _ _ (0,0) u;have G:w.heap.size<Z.heap.size:=ai Z _ x0;have T:=Y.fb;have U:=T.below (show fP Z Z.drew from below_drewN (aC _ _) 1);have A:m.bs[p]? =μ m.bs[p] :=aB hp;obtain⟨W5,Mg,S5,y⟩:=(U.om p _ A).drop own hr 0;have F5:=U.OD A y S5 (aj _);have X:kM Z W5 m:=(kM.jY m (show fP Z Z.drew from below_drewN (aC _ _) 1)).trans (kM.rI y (.inr (aO _)))
  have hT:Hid (ag7 w W5 B m k kn ow p own seq es s):=by
   have wO:∀x,fD (σ s.a s.n s.cap)=μ x->x≠m.bm/\x∉m.bs:=λx hx=>by
    have S:=(Y.new x hx).1;have h2:=b3.size;exact⟨λe=>by have:=h.mlt m.bm (.inl rfl);omega,λe=>by have:=h.mlt x (.inr e);omega⟩
   refine⟨Y.so,Y.ss,Y.sn,Y.so2.V8 (cap:=s.cap) X wO,Y.nil,λj hj=> ?_,?_,((kM.jY m b3).trans Y.kept).trans X⟩;{have:=Y.new j hj;have h2:=b3.size;have h3:=X.size;omega}
   have e:(λi=>if i=p then del (vN (ow p) own s) own else if i<m.bs.length then vN (ow i) own s else ow i)=(λj=>if j=p then(λx=>if x=own then ν else(λi=>if i<m.bs.length then vN (ow i) own s else ow i) p x)else(λi=>if i<m.bs.length then vN (ow i) own s else ow i) j):=by
    funext i;by_cases S:i=p;{rw[ag S,ag S];funext x;simp only[del,if_pos hp]};rw[af S,af S]
   rw[e];exact F5
  have c1:Z.cell? ⟨B,1,ν⟩=μ (σ (μ ⟨m.g,0,ν⟩) m.bs.length m.cap):=T.c1;have lB:=T.lt;have cp:=T.port p _ A;have gl:m.g<Z.heap.size:=ai Z _ cp;generalize m.bs[p] =bp at cp Mg;clear F3 T U S5 y A Y F5 X;go_wp2;go_region;all_goals(go_wp2;go_ret2;exact⟨rfl,s,hT.out⟩)
def Wf(h:c≠0):kr c=.iface 128 (ι κ (c:Int)):=by rw[kr,af h]
def Wg(B:Nat)(m:FM)(k:Nat)(kn:Int->Option SV)(ow:Nat->Int->Option SV)(p:Nat)(w:fA)(h:FB w B m k kn ow)(Q:p<m.bs.length):
 gb gg 124 #[π (μ ⟨B,0,ν⟩),ι κ (p:Int)] w λe w'=>e=ρ (τ #[])/\FB w' B m k kn (λi=>if i=p then λ_=>ν else ow i)/\kM w w' m:=by
  have hh:=EC B m k kn ow (p:Int) w h
  have hv:(decide (0<=(p:Int))&&decide ((p:Int)<(m.bs.length:Int)))=true:=by
   simp;omega
  rw[hv]at hh;clear hv;have hpi:(p:Int)<(m.bs.length:Int):=fC;have xT:=h.few;have Z:m.bs[p]? =μ m.bs[p] :=aB Q;obtain⟨S,T,X,Y⟩:=(h.om p _ Z).clear 0;have V:=h.OD Z Y X (aj _);have U:kM w S m:=kM.rI Y (.inr (aO _));have c1:w.cell? ⟨B,1,ν⟩=μ (σ (μ ⟨m.g,0,ν⟩) m.bs.length m.cap):=h.c1;have lB:=h.lt;have cp:=h.port p _ Z;have gl:m.g<w.heap.size:=ai w _ cp;generalize m.bs[p] =bp at cp T;clear X Y Z;go_in;go_wp2_with fail;refine hh.mono ?_;rintro e w1 ⟨rfl,rfl⟩;clear hh;go_wp2_with fail;go_end0;exact⟨rfl,V,U⟩
def ad1(B:Nat)(m:FM)(k:Nat)(kn:Int->Option SV)(ow:Nat->Int->Option SV)(own seq:Int)(a:Option fq)(n cap:Nat)(es:List kS)(w:fA)(h:FB w B m k kn ow)(hr:vm own)(Q:kc w a n es)(lR:mG a cap)(hk:k<=1000000)(hf:qq own seq es=0):
 gb gg 67 #[π (μ ⟨B,0,ν⟩),.agg #[ι κ own,ι κ seq,σ a n cap]] w λe w'=>e=ρ η/\∃s,Kr w w' B m k kn ow own seq es s:=by
  have S:n<=1000000:=by have:=(kD hf).2.2.1;rw[Q.1]at this;omega
  have U:=gu w (γ #[ι κ own,ι κ seq,σ a n cap] 40);obtain⟨D,T⟩:=fH (w.alloc (γ #[ι κ own,ι κ seq,σ a n cap] 40));have M:D.heap[w.heap.size]? =μ (γ #[ι κ own,ι κ seq,σ a n cap] 40 (0,0)):=by rw[<-T];exact bw w _
  rw[T]at U;have u:Hid _:=T;have G:=Ch own seq a n cap es D (by unfold maxLen;omega) (Q.below U);have E:kr 0=η:=rfl;rw[hf,E]at G;clear T E hf;go_in;go_wp2_with fail;rw[u.out];refine G.mono ?_;rintro e Y ⟨rfl,k2⟩;have b2:=fQ U k2;have J:=(k2.block _ (aE.1 M).1).trans M;have x0:Y.cell? ⟨w.heap.size,0,ν⟩=μ (ι κ own):=aD Y _ 0 _ _ (0,0) J;have x1:Y.cell? ⟨w.heap.size,1,ν⟩=μ (ι κ seq):=aD Y _ 1 _ _ (0,0) J;have x2:Y.cell? ⟨w.heap.size,2,ν⟩=μ (σ a n cap):=aD Y _ 2 _ _ (0,0) J;have xl:w.heap.size<Y.heap.size:=ai Y _ x0;have V:=I6 B m k kn ow own seq a n cap es Y (h.below b2) hr (Q.below b2) lR S hk;clear G M U k2;go_wp2_with fail;refine V.mono ?_;rintro e w4 ⟨rfl,s,Z⟩;have X:=b2.size;have y:Hid (∃s,Kr w w4 B m k kn ow own seq es s):=⟨s,Z.so,Z.ss,Z.sn,Z.so2,Z.nil,λj A=>⟨au X (Z.new j A).1,(Z.new j A).2⟩,Z.fb,(kM.jY m b2).trans Z.kept⟩
  clear V x0 x1 x2 xl Z X b2;go_wp2;go_ret;exact⟨rfl,y.out⟩
def OE(B:Nat)(m:FM)(k:Nat)(kn:Int->Option SV)(ow:Nat->Int->Option SV)(p:Nat)(own seq:Int)(a:Option fq)(n cap:Nat)(es:List kS)(w:fA)(h:FB w B m k kn ow)(hr:vm own)(hp:p<m.bs.length)(ho:kc w a n es)(hn:n<=maxLen)(hf:qq own seq es=0)
 (j:∀W,fP w W->gb gg 217 #[π (μ ⟨B,0,ν⟩),.agg #[ι κ own,ι κ seq,σ a n cap]] W λe w'=>e=ρ (ι κ 0)/\fP W w'):
 gb gg 191 #[π (μ ⟨B,0,ν⟩),ι κ (p:Int),.agg #[ι κ own,ι κ seq,σ a n cap]] w λe w'=>e=ρ η/\FB w' B m k kn (λi=>if i=p then del (ow p) own else ow i)/\kM w w' m:=by
  have Y:=gu w (γ #[ι κ own,ι κ seq,σ a n cap] 40);obtain⟨y,U⟩:=fH (w.alloc (γ #[ι κ own,ι κ seq,σ a n cap] 40));have M:y.heap[w.heap.size]? =μ (γ #[ι κ own,ι κ seq,σ a n cap] 40 (0,0)):=by rw[<-U];exact bw w _
  rw[U]at Y;have HW:Hid _:=U;have J:=sQ B m k kn ow (p:Int) own seq a n cap es y (h.below Y) hn (ho.below Y);have u:xV m.bs.length (p:Int) own seq es=0:=by rw[xV,ag fC,hf]
  have E:kr 0=η:=rfl;rw[u,E]at J;have Wa:Hid _:=j;have hpi:(p:Int)<(m.bs.length:Int):=fC;have xT:=h.few;clear U u E j hf;go_in;go_wp2_with fail;rw[HW.out];refine J.mono ?_;rintro e Z ⟨rfl,k2⟩;have b2:=fQ Y k2;have X:=(k2.block _ (aE.1 M).1).trans M;have x0:Z.cell? ⟨w.heap.size,0,ν⟩=μ (ι κ own):=aD Z _ 0 _ _ (0,0) X;have x1:Z.cell? ⟨w.heap.size,1,ν⟩=μ (ι κ seq):=aD Z _ 1 _ _ (0,0) X;have x2:Z.cell? ⟨w.heap.size,2,ν⟩=μ (σ a n cap):=aD Z _ 2 _ _ (0,0) X;have G:w.heap.size<Z.heap.size:=ai Z _ x0;clear J M Y k2;go_wp2_with fail;refine(Wa.out Z b2).mono ?_;rintro e w3 ⟨rfl,k3⟩;have b3:=fQ b2 k3;have Aa:=(k3.block _ G).trans X;clear x0 x1 x2 G X;have x0:w3.cell? ⟨w.heap.size,0,ν⟩=μ (ι κ own):=aD w3 _ 0 _ _ (0,0) Aa;have G:w.heap.size<w3.heap.size:=ai w3 _ x0;have V:=h.below b3;have D:fP w w3.drew:=below_drewN b3 1;have S:=h.below D;have T:m.bs[p]? =μ m.bs[p] :=aB hp;obtain⟨W5,Mg,A,Q⟩:=(S.om p _ T).drop own hr 0;have F5:=S.OD T Q A (aj _);have M5:kM w W5 m:=(kM.jY m D).trans (kM.rI Q (.inr (aO _)));have c1:w3.cell? ⟨B,1,ν⟩=μ (σ (μ ⟨m.g,0,ν⟩) m.bs.length m.cap):=V.c1;have lB:=V.lt;have cp:=V.port p _ T;have gl:m.g<w3.heap.size:=ai w3 _ cp;generalize m.bs[p] =bp at cp Mg;clear V S A Q T k3;go_wp2;go_region;all_goals(go_wp2;go_ret;exact⟨rfl,F5,M5⟩)
def SU(B:Nat)(m:FM)(k:Nat)(kn:Int->Option SV)(ow:Nat->Int->Option SV)(p:Nat)(own seq:Int)(a:Option fq)(n cap:Nat)(es:List kS)(w:fA)(h:FB w B m k kn ow)(hr:vm own)(hp:p<m.bs.length)(ho:kc w a n es)(hn:n<=maxLen)(hf:qq own seq es=0)
 (j:∀W,fP w W->gb gg 217 #[π (μ ⟨B,0,ν⟩),.agg #[ι κ own,ι κ seq,σ a n cap]] W λe w'=>e=ρ (ι κ 1)/\fP W w'):
 gb gg 191 #[π (μ ⟨B,0,ν⟩),ι κ (p:Int),.agg #[ι κ own,ι κ seq,σ a n cap]] w λe w'=>e=ρ η/\FB w' B m k kn (λi=>if i=p then del (ow p) own else ow i)/\kM w w' m:=by
  have Y:=gu w (γ #[ι κ own,ι κ seq,σ a n cap] 40);obtain⟨y,U⟩:=fH (w.alloc (γ #[ι κ own,ι κ seq,σ a n cap] 40));have M:y.heap[w.heap.size]? =μ (γ #[ι κ own,ι κ seq,σ a n cap] 40 (0,0)):=by rw[<-U];exact bw w _
  rw[U]at Y;have HW:Hid _:=U;have J:=sQ B m k kn ow (p:Int) own seq a n cap es y (h.below Y) hn (ho.below Y);have u:xV m.bs.length (p:Int) own seq es=0:=by rw[xV,ag fC,hf]
  have E:kr 0=η:=rfl;rw[u,E]at J;have Wa:Hid _:=j;have hpi:(p:Int)<(m.bs.length:Int):=fC;have xT:=h.few;clear U u E j hf;go_in;go_wp2_with fail;rw[HW.out];refine J.mono ?_;rintro e Z ⟨rfl,k2⟩;have b2:=fQ Y k2;have X:=(k2.block _ (aE.1 M).1).trans M;have x0:Z.cell? ⟨w.heap.size,0,ν⟩=μ (ι κ own):=aD Z _ 0 _ _ (0,0) X;have x1:Z.cell? ⟨w.heap.size,1,ν⟩=μ (ι κ seq):=aD Z _ 1 _ _ (0,0) X;have x2:Z.cell? ⟨w.heap.size,2,ν⟩=μ (σ a n cap):=aD Z _ 2 _ _ (0,0) X;have G:w.heap.size<Z.heap.size:=ai Z _ x0;clear J M Y k2;go_wp2_with fail;refine(Wa.out Z b2).mono ?_;rintro e w3 ⟨rfl,k3⟩;have b3:=fQ b2 k3;have Aa:=(k3.block _ G).trans X;clear x0 x1 x2 G X;have x0:w3.cell? ⟨w.heap.size,0,ν⟩=μ (ι κ own):=aD w3 _ 0 _ _ (0,0) Aa;have G:w.heap.size<w3.heap.size:=ai w3 _ x0;have V:=h.below b3;have D:fP w w3.drew:=below_drewN b3 1;have S:=h.below D;have T:m.bs[p]? =μ m.bs[p] :=aB hp;obtain⟨W5,Mg,A,Q⟩:=(S.om p _ T).drop own hr 0;have F5:=S.OD T Q A (aj _);have M5:kM w W5 m:=(kM.jY m D).trans (kM.rI Q (.inr (aO _)));have c1:w3.cell? ⟨B,1,ν⟩=μ (σ (μ ⟨m.g,0,ν⟩) m.bs.length m.cap):=V.c1;have lB:=V.lt;have cp:=V.port p _ T;have gl:m.g<w3.heap.size:=ai w3 _ cp;generalize m.bs[p] =bp at cp Mg;clear V S A Q T k3;go_wp2;go_region;all_goals(go_wp2;go_ret;exact⟨rfl,F5,M5⟩)
def SW(B:Nat)(m:FM)(k:Nat)(kn:Int->Option SV)(ow:Nat->Int->Option SV)(p:Nat)(own seq:Int)(a:Option fq)(n cap:Nat)(es:List kS)(w:fA)(h:FB w B m k kn ow)(hp:p<m.bs.length)(y:kc w a n es)(A:n<=maxLen)(hf:qq own seq es=0)
 (J:∀W,fP w W->gb gg 217 #[π (μ ⟨B,0,ν⟩),.agg #[ι κ own,ι κ seq,σ a n cap]] W λe w'=>e=ρ (ι κ (-1))/\fP W w'):
 gb gg 191 #[π (μ ⟨B,0,ν⟩),ι κ (p:Int),.agg #[ι κ own,ι κ seq,σ a n cap]] w λe w'=>e=ρ η/\fP w w':=by
  have Y:=gu w (γ #[ι κ own,ι κ seq,σ a n cap] 40);obtain⟨Q,V⟩:=fH (w.alloc (γ #[ι κ own,ι κ seq,σ a n cap] 40));have U:Q.heap[w.heap.size]? =μ (γ #[ι κ own,ι κ seq,σ a n cap] 40 (0,0)):=by rw[<-V];exact bw w _
  rw[V]at Y;have E:Hid _:=V;have T:=sQ B m k kn ow (p:Int) own seq a n cap es Q (h.below Y) A (y.below Y);have M:xV m.bs.length (p:Int) own seq es=0:=by rw[xV,ag fC,hf]
  have S:kr 0=η:=rfl;rw[M,S]at T;have D:Hid _:=J;have hpi:(p:Int)<(m.bs.length:Int):=fC;have xT:=h.few;clear V M S J hf;go_in;go_wp2_with fail;rw[E.out];refine T.mono ?_;rintro e Z ⟨rfl,k2⟩;have b2:=fQ Y k2;have X:=(k2.block _ (aE.1 U).1).trans U;have x0:Z.cell? ⟨w.heap.size,0,ν⟩=μ (ι κ own):=aD Z _ 0 _ _ (0,0) X;have x1:Z.cell? ⟨w.heap.size,1,ν⟩=μ (ι κ seq):=aD Z _ 1 _ _ (0,0) X;have x2:Z.cell? ⟨w.heap.size,2,ν⟩=μ (σ a n cap):=aD Z _ 2 _ _ (0,0) X;have G:w.heap.size<Z.heap.size:=ai Z _ x0;clear T U Y k2;go_wp2_with fail;refine(D.out Z b2).mono ?_;rintro e w3 ⟨rfl,k3⟩;have b3:=fQ b2 k3;have Aa:=(k3.block _ G).trans X;clear x0 x1 x2 G X;clear k3;go_wp2;go_ret;exact⟨rfl,b3⟩
def QW(B:Nat)(m:FM)(k:Nat)(kn:Int->Option SV)(ow:Nat->Int->Option SV)(i:Int)(t:SV)(ok:Bool)(fs:List kS)(w:fA)(h:FB w B m k kn ow)(hr:vm i)(hd:(kn i).getD SV.zero=t)(hs:(kn i).isSome=ok)(M:kc w t.a t.n fs)(hn:t.n<=1000000)(lR:mG t.a t.cap):
 gb gg 177 #[π (μ ⟨B,0,ν⟩),ι κ i] w λe w'=>∃(a:Option fq) (cap:Nat),e=ρ (τ #[.agg #[ι κ t.own,ι κ t.seq,σ a fs.length cap],.bool ok])/\kc w' a fs.length fs/\mG a cap/\fP w w':=by
  obtain⟨S,ts,ta,tn,tc⟩:=t;simp only at M hn lR;have hz:=rH;have U:=gu w (γ #[ι κ 0,ι κ 0,σ ν 0 0] 40);obtain⟨Y,T⟩:=fH (w.alloc (γ #[ι κ 0,ι κ 0,σ ν 0 0] 40));have rS:Y.heap[w.heap.size]? =μ (γ #[ι κ 0,ι κ 0,σ ν 0 0] 40 (0,0)):=by rw[<-T];exact bw w _
  have E:Y.heap.size=w.heap.size+1:=by rw[<-T];simp
  rw[T]at U;have HW:Hid _:=T;clear T;have X:=h.below U
  have qV:(gM 211 (.map (μ m.bm)) (ι κ i) true).run gg Y=.ok (τ #[.agg #[ι κ S,ι κ ts,σ ta tn tc],.bool ok]) Y:=by
   have:=X.km.look_ok i hr;rw[hd,hs]at this;exact this
  have c0:=X.c0;have hl:=X.lt;have J:fP w (Y.alloc (γ #[ι κ S,ι κ ts,σ ta tn tc] 40)):=U.alloc U.size _;have G:=Fu S ts ta tn tc fs _ hn lR (M.below J)
  have y:(Y.alloc (γ #[ι κ S,ι κ ts,σ ta tn tc] 40)).heap[w.heap.size]? =μ (γ #[ι κ 0,ι κ 0,σ ν 0 0] 40 (0,0)):=by
   rw[bk _ _ _ fC];exact rS
  have HB:Hid _:=J;have D:Hid _:=y;have HS:Hid _:=E;clear h X hd hs M U J y rS E;go_in
  go_upto_region 1 with fail
  rw[HW.out];go_wp2_with fail;refine G.mono ?_;rintro e Z ⟨⟨Q,vc,rfl,vo,vn,vl,A⟩,k2⟩;clear G qV c0;have V:=(k2.block _ (aE.1 D.out).1).trans D.out;have y0:Z.cell? ⟨w.heap.size,0,ν⟩=μ (ι κ 0):=aD Z _ 0 _ _ (0,0) V;have y1:Z.cell? ⟨w.heap.size,1,ν⟩=μ (ι κ 0):=aD Z _ 1 _ _ (0,0) V;have y2:Z.cell? ⟨w.heap.size,2,ν⟩=μ (σ ν 0 0):=aD Z _ 2 _ _ (0,0) V;have fy:=λj=>bR Z w.heap.size j _ _ V;have ly:w.heap.size<Z.heap.size:=ai Z _ y0;have hk:=fQ HB.out k2
  have HC:Hid (∀u v x:fB,kc (((Z.setCell ⟨w.heap.size,0,ν⟩ u).setCell ⟨w.heap.size,1,ν⟩ v).setCell ⟨w.heap.size,2,ν⟩ x) Q fs.length fs/\mG Q vc/\fP w (((Z.setCell ⟨w.heap.size,0,ν⟩ u).setCell ⟨w.heap.size,1,ν⟩ v).setCell ⟨w.heap.size,2,ν⟩ x)):=by
   intro u v x;refine⟨vo.kept (cap:=vc) (λj hj=> ?_),vn,((hk.setCell (aj _) _).setCell (aj _) _).setCell (aj _) _⟩;have X:=(A j hj).1;have h2:=HS.out;have h3:w.heap.size+1<=j:=by simp at X;omega
   rw[ax _ _ _ _ (by show j≠w.heap.size;omega),ax _ _ _ _ (by show j≠w.heap.size;omega),ax _ _ _ _ (by show j≠w.heap.size;omega)]
  clear vo A k2 V hk;go_wp2_with fail;refine aN (v:=τ #[.agg #[ι κ S,ι κ ts,σ Q fs.length vc],.bool ok]) (by simp[results,results177,go_sem,y0,y1,y2]) rfl ?_;exact⟨Q,vc,rfl,HC.out _ _ _⟩
open Go.Maps (Keyed)
def Ci(h:(Lit.int .i64 x).wf=true):vm x:=by
 simp[Lit.wf,IntKind.min,IntKind.max,IntKind.signed,IntKind.bits]at h;exact⟨fC,fC⟩
def tJ(x y:Int):(Lit.int .i64 x).sameKey (.int .i64 y)=decide (x=y):=by simp[Lit.sameKey]
def mix(fd fs:Int->Option SV)(left:Lit->Bool):Int->Option SV:=λk=>if left (.int .i64 k)=false/\(fs k).isSome=true then fs k else fd k
def Wi {fd fs:Int->Option SV} {s:SV} (h:fs x=μ s):(λk=>if k=x then μ s else mix fd fs left k)=mix fd fs (λz=>left z&& !z.sameKey (.int .i64 x)):=by
 funext k;by_cases e:k=x;{subst e;simp[mix,tJ,h]};simp[mix,tJ,e]
def over(fd fs:Int->Option SV):Int->Option SV:=λk=>if(fs k).isSome=true then fs k else fd k
def aao {fd fs:Int->Option SV} (h:∀Z,left Z=false):mix fd fs left=over fd fs:=by
 funext k;simp[mix,over,h]
def SMap.congr {f g:Int->Option SV} (h:SMap w b n f)(e:∀k,vm k->f k=g k):SMap w b n g:=by
 obtain⟨D,Y,X⟩:=h.own;exact⟨⟨D,Y,λk Z=>by rw[<-e k Z];exact X k Z⟩⟩
def SX(bd bs nd ns:Nat)(U fs:Int->Option SV)(w:fA)(hd:SMap w bd nd U)(hs:SMap w bs ns fs)(kf:bd≠bs)(QX:nd+ns<=2000000):
 gb gg 181 #[.map (μ bd),.map (μ bs)] w λe w'=>e=ρ (τ #[])/\SMap w' bd (nd+ns) (over U fs)/\w.grownBy w' (μ bd):=by
  obtain⟨D,ku,OH⟩:=hs.own;have ud:=ku.size_le;have lZ:=hd.lt;have HJ:=hs.lt;have hz:=rH;have H0:Hid (∀k,vm k->fs k=ν->∀z,D.atKey (.int .i64 k) z=z):=λk G e=>by have:=OH k G;rw[e]at this;exact this
  have H1:Hid (∀k s,vm k->fs k=μ s->∀z,D.atKey (.int .i64 k) z=.held s):=λk s G e=>by have:=OH k G;rw[e]at this;exact this
  clear OH hs;go_in;go_wp2_with(first
   |(at_range;refine wpList_range_own _ rfl _ 211 rfl 3 40 wR underlying211 vy bs ns _ rfl ku ?_;intro w0 Wj QY hs0)
   |fail)
  go_frame
  go_loopw [8] (λ_ wr=>∃(left:Lit->Bool) (Y:Nat),wr.ranges gg 3 vy bs w.heap.size ns D left Y/\Y<=ns/\SMap wr bd (nd+(ns-Y)) (mix U fs left)/\w.grownBy wr (μ bd))
   (λ_ wr=>wr.rangeLeft bs w.heap.size)
  (case atStart=>refine⟨_,_,Wj,ud,((hd.kept QY gZ).mono fC).congr (λk G=> ?_),QY.but _⟩;cases e:fs k with|none=>simp[mix,e]|some s=>simp[mix,Maps.has_true_of_atKey (H1.out k s G e)])
  case round=>
   clear Wj QY hs0 ku hd;obtain⟨left,Y,A,hcs,h,LG⟩:=hrel;go_wp2_with(first
    |(at_next;refine gU _ rfl _ rfl 3 wR vy (ι .i64) SV.v (λkey kl xW=>by obtain⟨x,rfl,_⟩:=cT underlying3 xW;exact⟨x,rfl⟩) (λv y hv=>by obtain⟨s,rfl,_⟩:=yS hv;exact⟨s,rfl⟩) bs w.heap.size ns _ _ _ rfl A ?_ ?_)
    |fail)
   ·intro sy xR
    have HE:Hid (SMap wr bd (nd+ns) (over U fs)):=by
     show SMap wr bd (nd+ns) (over U fs);rw[<-aao xR];exact h.mono fC
    clear A h;go_wp2_with fail;go_end0;exact⟨rfl,HE.out,LG⟩
   intro x c kl yd yp w1 u xW hlx hv hat Wk Ih mb Fb B6;obtain⟨x',ex,rfl,E⟩:=cT underlying3 xW;cases ex;have A7:=Ci E;obtain⟨X,cs,ca,Z,cc⟩:=c;rw[A6]at hv;have hy:yd=.held ⟨X,cs,ca,Z,cc⟩:=by have:=aL hv;simp only[gH]at this;exact this.1.symm
   have M:fs x=μ ⟨X,cs,ca,Z,cc⟩:=by
    cases e:fs x with|none=>have Q:=H0.out x A7 e .nil;rw[hat,hy]at Q;cases Q|some s=>have Q:=H1.out x s A7 e .nil;rw[hat,hy]at Q;cases Q;rfl
   have S:=(h.kept mb (λe=>by have:=aL e;omega)).alloc (γ #[ι κ X,ι κ cs,σ ca Z cc] 40);obtain⟨T,ue,S2,T2⟩:=S.store (by unfold maxLen;omega) x A7 ⟨X,cs,ca,Z,cc⟩;have arD:(gK 211 (.map (μ bd)) (ι κ x) (.agg #[ι κ X,ι κ cs,σ ca Z cc])).run gg (w1.alloc (γ #[ι κ X,ι κ cs,σ ca Z cc] 40))=.ok () T:=ue;rw[Wi M]at S2;have ag9:(gW (π (μ ⟨w.heap.size,0,ν⟩))).run gg w1=.ok (τ #[ι κ x,.agg #[ι κ X,ι κ cs,σ ca Z cc]]) w1:=B6;have V:=(Wk.alloc (γ #[ι κ X,ι κ cs,σ ca Z cc] 40)).kept T2.grown (λe=>kf (aL e).symm) (λe=>by have:=aL e;omega);have zv:w.grownBy T (μ bd):=((LG.andThen mb (λj J=>.inl (by cases J;exact aj _))).andThen ((World.grownBy_alloc w1 (γ #[ι κ X,ι κ cs,σ ca Z cc] 40) ν).but (μ bd)) (λj J=>.inr J)).andThen T2.grown (λj J=>.inr J);have HR:Hid (T.ranges gg 3 vy bs w.heap.size ns D (λz=>left z&& !z.sameKey (.int .i64 x)) u/\u<=ns/\SMap T bd (nd+(ns-u)) (mix U fs (λz=>left z&& !z.sameKey (.int .i64 x)))/\w.grownBy T (μ bd)):=⟨V,fC,S2.mono fC,zv⟩
   have HM:Hid (T.rangeLeft bs w.heap.size<wr.rangeLeft bs w.heap.size):=by
    show _<_;rw[V.left_eq,A.left_eq];exact Ih
   clear ue B6 S2 T2 S h A Wk V mb zv LG hat hy hv M hlx xW E;go_wp2_with fail;(first|go_frame|skip);go_roundw;(case rel=>exact⟨_,u,HR.out⟩);case measure=>exact HM.out
def kM.Wm {m:FM} (g:w.grownBy w' (μ b))(Z:b=m.bm \/b∈m.bs):kM w w' m:=by
 refine⟨g.os,g.tape,g.output,g.size,λi hi Y X=>g.block i hi (λe=> ?_)⟩;have:i=b:=by simpa using e
 subst this;obtain Z|Z:=Z;{exact Y Z};exact X Z
def vz {x:Nat} (h:w.grownBy w' (μ b))(hx:x<w.heap.size)(Z:x≠b):w'.heap[x]? =w.heap[x]? :=h.block x hx (λe=>Z (by simpa using e))
def FB.alU {m:FM} {kn:Int->Option SV} {ow:Nat->Int->Option SV} {f:Int->Option SV} (h:FB w B m n kn ow)(hi:m.bs[i]? =μ b)(Z:w.grownBy w' (μ b))(Q:SMap w' b n' f)(V:n<=n'):FB w' B m n' kn (λj=>if j=i then f else ow j):=by
 have Y:=h.nB.2.2.2 b (bY hi);refine⟨(vz Z h.lt (λe=>Y.1 e.symm)).trans h.pT,h.row.keep Z.size (λk U=> ?_),(h.km.keep (vz Z h.km.lt (λe=>Y.2.2 e.symm))).mono V,λj c e=> ?_,h.few,h.nB,h.nd⟩
 ·have S:m.g=k:=by simpa[FM.sl,fD]using U
  subst S;exact vz Z (h.row.lt _ U) (λe=>Y.2.1 e.symm)
 by_cases X:j=i;{subst X;rw[hi]at e;obtain rfl:=aL e;simp only[if_true];exact Q};rw[af X]
 have M:c≠b:=λT=>by
  subst T;exact X ((gS (aT.1 e).1 h.nd).1 (e.trans hi.symm))
 exact((h.om j c e).keep (vz Z (h.om j c e).lt M)).mono V
def Wn(B:Nat)(m:FM)(k:Nat)(kn:Int->Option SV)(ow:Nat->Int->Option SV)(p:Nat)(w:fA)(h:FB w B m k kn ow)(T:p<m.bs.length)(hk:k<=1000000):
 gb gg 126 #[π (μ ⟨B,0,ν⟩),ι κ (p:Int)] w λe w'=>e=ρ η/\FB w' B m (k+k) kn (λi=>if i=p then over (ow p) kn else ow i)/\kM w w' m:=by
  have hh:=EC B m k kn ow (p:Int) w h;have hv:(decide (0<=(p:Int))&&decide ((p:Int)<(m.bs.length:Int)))=true:=by simp;omega
  rw[hv]at hh;clear hv;have hpi:(p:Int)<(m.bs.length:Int):=fC;have xT:=h.few;have Y:m.bs[p]? =μ m.bs[p] :=aB T;have bd:fP w w.drew:=below_drewN (aC _ _) 1;have Fd:=h.below bd;have X:=SX m.bs[p] m.bm k k (ow p) kn w.drew (Fd.om p _ Y) Fd.km (Fd.nB.2.2.2 _ (aO _)).2.2 fC;have V:Hid (∀w',SMap w' m.bs[p] (k+k) (over (ow p) kn)->w.drew.grownBy w' (μ m.bs[p])->FB w' B m (k+k) kn (λi=>if i=p then over (ow p) kn else ow i)/\kM w w' m):=λw' hS Z=>⟨Fd.alU Y Z hS fC,(kM.jY m bd).trans (kM.Wm Z (.inr (aO _)))⟩
  have c0:=h.c0;have c1:w.cell? ⟨B,1,ν⟩=μ (σ (μ ⟨m.g,0,ν⟩) m.bs.length m.cap):=h.c1;have lB:=h.lt;have cp:=h.port p _ Y;have gl:m.g<w.heap.size:=ai w _ cp;generalize m.bs[p] =bp at cp X V;clear Y Fd bd;go_in;go_wp2_with fail;refine hh.mono ?_;rintro e w1 ⟨rfl,rfl⟩;clear hh
  go_upto_region 3 with fail
  go_region_with(first|(go_at_call 181;refine X.mono ?_;rintro e w2 ⟨rfl,hS,Z⟩)|fail);all_goals(have U:Hid _:=V.out _ hS Z;clear hS Z;go_wp2;go_ret;exact⟨rfl,U.out⟩)
structure SR(w:fA)(g C:Nat)(ss:List SV):Prop where
 lt:g<w.heap.size
 cell:∀j s,ss[j]? =μ s->w.cell? ⟨g,j*3,ν⟩=μ (ι κ s.own)/\w.cell? ⟨g,j*3+1,ν⟩=μ (ι κ s.seq)/\w.cell? ⟨g,j*3+2,ν⟩=μ (σ s.a s.n s.cap)
 sp:∀j<C*3,(w.cell? ⟨g,j,ν⟩).isSome=true/\w.frozen? ⟨g,j,ν⟩=false
 le:ss.length<=C
 cm:C<=maxLen
def SR.fz {ss:List SV} (h:SR w g C ss)(j:Nat)(hj:j<ss.length*3):w.frozen? ⟨g,j,ν⟩=false:=(h.sp j (by have:=h.le;omega)).2
def SR.below {ss:List SV} (h:SR w g C ss)(Z:fP w w'):SR w' g C ss:=
 ⟨aq h.lt Z.size,λj s e=>by
  obtain⟨c0,c1,c2⟩:=h.cell j s e;exact⟨(Z.cell (p:=⟨g,j*3,ν⟩) h.lt).trans c0,(Z.cell (p:=⟨g,j*3+1,ν⟩) h.lt).trans c1,(Z.cell (p:=⟨g,j*3+2,ν⟩) h.lt).trans c2⟩,λj Y=>⟨by rw[Z.cell (p:=⟨g,j,ν⟩) h.lt];exact(h.sp j Y).1,(Z.frozen (p:=⟨g,j,ν⟩) h.lt).trans (h.sp j Y).2⟩,h.le,h.cm⟩
def SR.drewN {w:fA} {g C:Nat} {ss:List SV} (h:SR w g C ss)(n:Nat):SR (w.drewN n) g C ss:=h.below (below_drewN (aC _ _) n)
def OI(w:fA)(g k:Nat)(s:SV):fA:=((w.setCell ⟨g,k*3,ν⟩ (ι κ s.own)).setCell ⟨g,k*3+1,ν⟩ (ι κ s.seq)).setCell ⟨g,k*3+2,ν⟩ (σ s.a s.n s.cap)
def SR.put {ss:List SV} (h:SR w g C ss)(k:Nat)(S:k<ss.length)(s:SV):SR (OI w g k s) g C (ss.set k s):=by
 have V:∀j<ss.length*3,(w.cell? ⟨g,j,ν⟩).isSome=true:=by
  intro j Z;have hl:j/3<ss.length:=fC;obtain⟨c0,c1,c2⟩:=h.cell (j/3) ss[j/3] (aB hl);obtain e|e|e:j=j/3*3 \/j=j/3*3+1 \/j=j/3*3+2:=fC;{rw[e,c0];rfl};{rw[e,c1];rfl};rw[e,c2];rfl
 have U:OI w g k s=w.setCells g (k*3) [ι κ s.own,ι κ s.seq,σ s.a s.n s.cap] :=rfl;have X:=bZ g [ι κ s.own,ι κ s.seq,σ s.a s.n s.cap] (k*3) w (λj Z=>V _ (by simp at Z;omega));refine⟨by unfold OI;simpa using h.lt,λj s' e=> ?_,λj Z=> ?_,by simpa using h.le,h.cm⟩;{by_cases Y:j=k;{subst Y;rw[List.getElem?_set_self S]at e;obtain rfl:=aL e;rw[U];exact⟨X 0 gZ,X 1 gZ,X 2 gZ⟩};rw[List.getElem?_set_ne (λe=>Y e.symm)]at e;obtain⟨c0,c1,c2⟩:=h.cell j s' e;have T:∀o<3,(w.setCells g (k*3) [ι κ s.own,ι κ s.seq,σ s.a s.n s.cap]).cell? ⟨g,j*3+o,ν⟩=w.cell? ⟨g,j*3+o,ν⟩:=λo ho=>bQ g _ _ _ _ (λ_ _=>by show j*3+o<k*3 \/k*3+3<=j*3+o;omega);rw[U];exact⟨(T 0 fF).trans c0,(T 1 fF).trans c1,(T 2 fF).trans c2⟩};rw[U,cC];refine⟨?_,(h.sp j Z).2⟩;by_cases hq:k*3<=j/\j<k*3+3;{have:=X (j-k*3) (by simp;omega);rw[show k*3+(j-k*3)=j by omega]at this;rw[this];rfl};rw[bQ g _ _ _ _ (λ_ _=>by show j<k*3 \/k*3+3<=j;omega)];exact(h.sp j Z).1
def I8(w:fA)(g k:Nat)(s:SV):w.grownBy (OI w g k s) (μ g):=by
 unfold OI;exact mL (mL (mL ⟨rfl,rfl,rfl,aj _,λ_ _ _=>rfl⟩ _ _) _ _) _ _
def OJ(l:List SV):Prop:=l.Pairwise (λx y=>x.own<y.own)
def Wo(x y:SV)(w:fA):gb gg 203 #[.agg #[ι κ x.own,ι κ x.seq,σ x.a x.n x.cap],.agg #[ι κ y.own,ι κ y.seq,σ y.a y.n y.cap]] w λe w'=>e=ρ (ι κ (nQ x.own y.own))/\fP w w':=by
 have Y:fP w ((w.alloc (γ #[ι κ x.own,ι κ x.seq,σ x.a x.n x.cap] 40)).alloc (γ #[ι κ y.own,ι κ y.seq,σ y.a y.n y.cap] 40)):=(gu _ _).alloc gZ _;have Z:=vv x.own y.own ((w.alloc (γ #[ι κ x.own,ι κ x.seq,σ x.a x.n x.cap] 40)).alloc (γ #[ι κ y.own,ι κ y.seq,σ y.a y.n y.cap] 40));go_in;go_wp2_with fail;refine Z.mono ?_;rintro e w1 ⟨rfl,rfl⟩;go_wp2;go_ret;exact⟨rfl,Y⟩
structure Down(w wr:fA)(g cap n i:Nat)(ss pre mid post:List SV)(x:SV):Prop where
 sr:SR wr g cap (pre++x::(mid++post))
 perm:(pre++x::(mid++post)).Perm ss
 Vm:OJ (pre++mid)
 low:∀y∈mid,x.own<y.own
 len:pre.length+mid.length=i
 grown:w.grownBy wr (μ g)
def QZ {pre mid:List SV} {x:SV} (h:OJ (pre++mid))(V:∀y∈pre,y.own<x.own)(X:∀y∈mid,x.own<y.own):OJ (pre++x::mid):=by
 unfold OJ at*;rw[bJ]at h⊢;refine⟨h.1,cU.2 ⟨X,h.2.1⟩,λa Y b Z=> ?_⟩;obtain rfl|Z:=aS.1 Z;{exact V a Y};exact h.2.2 a Y b Z
def Wp {pre:List SV} {y x:SV} (h:OJ (pre++ [y]))(hy:y.own<x.own):∀z∈pre++ [y],z.own<x.own:=by
 intro z Z;obtain Z|Z:=aA.1 Z;{have:=(bJ.1 h).2.2 z Z y gZ;omega};have:z=y:=by simpa using Z
 rw[this];exact hy
def vA {b:fA} (h:w.grownBy a (μ g))(k:fP a b):w.grownBy b (μ g):=
 ⟨k.os.trans h.os,k.tape.trans h.tape,k.output.trans h.output,au h.size k.size,λi hi Z=>(k.block i (aq hi h.size)).trans (h.block i hi Z)⟩
def Dh {b:fA} (h:w.grownBy a (μ g))(k:a.grownBy b (μ g)):w.grownBy b (μ g):=
 ⟨k.os.trans h.os,k.tape.trans h.tape,k.output.trans h.output,au h.size k.size,λi hi Z=>(k.block i (aq hi h.size) Z).trans (h.block i hi Z)⟩
def ahb {a d e f:Nat} {u0 u1 u2 u3 u4 u5:fB} (k:fP w w')(gl:g<w.heap.size)
 (h:w.cell? ⟨g,a,ν⟩=μ u0/\w.cell? ⟨g,b,ν⟩=μ u1/\w.cell? ⟨g,c,ν⟩=μ u2/\w.cell? ⟨g,d,ν⟩=μ u3/\w.cell? ⟨g,e,ν⟩=μ u4/\w.cell? ⟨g,f,ν⟩=μ u5):
 w'.cell? ⟨g,a,ν⟩=μ u0/\w'.cell? ⟨g,b,ν⟩=μ u1/\w'.cell? ⟨g,c,ν⟩=μ u2/\w'.cell? ⟨g,d,ν⟩=μ u3/\w'.cell? ⟨g,e,ν⟩=μ u4/\w'.cell? ⟨g,f,ν⟩=μ u5:=
 ⟨(k.cell (p:=⟨g,a,ν⟩) gl).trans h.1,(k.cell (p:=⟨g,b,ν⟩) gl).trans h.2.1,(k.cell (p:=⟨g,c,ν⟩) gl).trans h.2.2.1,(k.cell (p:=⟨g,d,ν⟩) gl).trans h.2.2.2.1,(k.cell (p:=⟨g,e,ν⟩) gl).trans h.2.2.2.2.1,(k.cell (p:=⟨g,f,ν⟩) gl).trans h.2.2.2.2.2⟩
def OL(g n cap:Nat)(ss:List SV)(w:fA)(h:SR w g cap ss)(hl:ss.length=n)(hn:n<=12)(hd:ss.Pairwise (λx y=>x.own≠y.own)):
 gb gg 232 #[σ (μ ⟨g,0,ν⟩) n cap,ι κ 0,ι κ (n:Int),.func (.func 203) #[] #[]] w λe w'=>e=ρ (τ #[])/\∃ts,SR w' g cap ts/\ts.Perm ss/\OJ ts/\w.grownBy w' (μ g):=by
  go_in;go_wp2;go_loopw [8] (λi wr=>∃(k:Nat) (ts:List SV),1<=k/\(k<=n \/k=1)/\i=ι κ k/\SR wr g cap ts/\ts.Perm ss/\OJ (ts.take k)/\w.grownBy wr (μ g)) (λi _=>n-(gj i).toNat);(case atStart=>exact⟨1,ss,aj _,.inr rfl,rfl,h,List.Perm.refl _,by unfold OJ;cases ss<;>simp,⟨rfl,rfl,rfl,aj _,λ_ _ _=>rfl⟩⟩)
  case round=>
   obtain⟨k,ts,Zv,Cj,rfl,hS,U,hR,hG⟩:=hrel;have Zz:ts.length=n:=by rw[U.length_eq,hl]
   by_cases lZ:k<n
   ·have pE:(k:Int)<(n:Int):=fC
    have hD0:Hid (Down w wr g cap n k ss (ts.take k) [] (ts.drop (k+1)) (ts[k]'(by omega))):=by
     have e:ts.take k++(ts[k]'(by omega))::([] ++ts.drop (k+1))=ts:=by
      rw[bU,<-a9 fC,da]
     refine⟨by rw[e];exact hS,by rw[e];exact U,by rw[aF];exact hR,gZ,by simp;omega,hG⟩
    obtain⟨wo,rfl⟩:∃wo,wo=wr:=⟨_,rfl⟩
    clear hS U hR hG;go_wp2;go_loopw [9] (λj wr=>∃(pre mid post:List SV) (x:SV),j=ι κ (pre.length:Int)/\Down w wr g cap n k ss pre mid post x) (λj _=>(gj j).toNat);(case atStart=>exact⟨_,_,_,_,by simp;omega,hD0.out⟩)
    case round=>
     clear hD0;obtain⟨pre,mid,post,x,rfl,Y⟩:=hrel
     have Z:pre.length+mid.length+post.length+1=n:=by
      have:=Y.perm.length_eq;simp at this;omega
     obtain rfl|⟨pr,y,pX⟩:=db pre
     ·have A:Hid (∃ts:List SV,SR wr g cap ts/\ts.Perm ss/\OJ (ts.take (k+1))/\w.grownBy wr (μ g)):=by
       refine⟨_,Y.sr,Y.perm,?_,Y.grown⟩;have hm:=Y.len;simp only[List.nil_append,fV,Nat.zero_add]at hm⊢
       have e:(x::(mid++post)).take (k+1)=x::mid:=by
        rw[List.take_succ_cons,<-hm,List.take_left]
       rw[e];exact QZ (pre:=[]) Y.Vm gZ Y.low
      clear Y;simp only[fV,Int.natCast_zero];go_wp2;go_quiet(fail);go_wp2;go_roundw;(case rel=>obtain⟨us,q1,q2,q3,q4⟩:=A.out;exact⟨k+1,us,fC,.inl fC,by go_num,SR.drewN q1 _,q2,q3,vA q4 (below_drewN (aC _ _) _)⟩);case measure=>simp[gj];omega
     rw[dc]at pX;subst pX;obtain⟨P,U⟩:=fH (pr.length);have T:(pr++ [y]).length=P+1:=by simp[U]
     have gx:((pr++ [y])++x::(mid++post))[P+1]? =μ x:=by rw[<-T];simp
     have gy:((pr++ [y])++x::(mid++post))[P]? =μ y:=by rw[<-U];simp
     obtain⟨x0,x1,x2⟩:=Y.sr.cell _ _ gx;obtain⟨y0,y1,y2⟩:=Y.sr.cell _ _ gy;have gl:=Y.sr.lt
     have hPn:P+1<n:=by
      rw[T]at Z;omega
     have b0:(0:Int)<=(P:Int):=fC;have b1:(P:Int)<(n:Int):=fC;have b2:(P:Int)+1<(n:Int):=fC;have b3:(0:Int)<=(P:Int)+1:=fC;have b4:(0:Int)<(P:Int)+1:=fC;have b5:κ.wrap ((P:Int)+1-1)=(P:Int):=by rw[show(P:Int)+1-1=(P:Int) by omega];exact bg _ ⟨fC,fC⟩
     have b6:κ.wrap (P:Int)=(P:Int):=bg _ ⟨fC,fC⟩
     have u:¬x.own=y.own:=by
      have Mi:=(Y.perm.pairwise_iff (λ{a b} (Ez:a.own≠b.own)=>λe=>Ez e.symm)).2 hd;have h3:=(bJ.1 Mi).2.2 y gZ x gZ;exact λe=>h3 e.symm
     have eJ:(((pr++ [y]).length:Nat):Int)=(P:Int)+1:=by rw[T];rfl
     rw[eJ];have HD:Hid _:=Y;have HP:Hid _:=U;have HN:Hid _:=u;clear Y U u eJ T gx gy Z;have G:wr.drew.cell? ⟨g,(P+1)*3,ν⟩=μ (ι κ x.own)/\wr.drew.cell? ⟨g,(P+1)*3+1,ν⟩=μ (ι κ x.seq)/\wr.drew.cell? ⟨g,(P+1)*3+2,ν⟩=μ (σ x.a x.n x.cap)/\wr.drew.cell? ⟨g,P*3,ν⟩=μ (ι κ y.own)/\wr.drew.cell? ⟨g,P*3+1,ν⟩=μ (ι κ y.seq)/\wr.drew.cell? ⟨g,P*3+2,ν⟩=μ (σ y.a y.n y.cap):=⟨x0,x1,x2,y0,y1,y2⟩
     have D:=Wo x y wr.drew;obtain⟨cx,X⟩:=fH (nQ x.own y.own);rw[X]at D;by_cases Wq:x.own<y.own
     ·have Q:cx= -1:=by rw[<-X,nQ,ag Wq]
      subst Q;clear X;go_wp2
      go_region_held3(λv=>v.cell? ⟨g,(P+1)*3,ν⟩=μ (ι κ x.own)/\v.cell? ⟨g,(P+1)*3+1,ν⟩=μ (ι κ x.seq)/\v.cell? ⟨g,(P+1)*3+2,ν⟩=μ (σ x.a x.n x.cap)/\v.cell? ⟨g,P*3,ν⟩=μ (ι κ y.own)/\v.cell? ⟨g,P*3+1,ν⟩=μ (ι κ y.seq)/\v.cell? ⟨g,P*3+2,ν⟩=μ (σ y.a y.n y.cap))
       (first|assumption|exact G|exact E)
       ((go_at_call 203;refine D.mono ?_;rintro e J ⟨rfl,M⟩;have E:=ahb M gl G))
      have V:fP wr J:=fQ (below_drewN (aC _ _) 1) M;have S5:=HD.out.sr.below V;obtain⟨z0,z1,z2,z3,z4,z5⟩:=E;have gl5:=S5.lt;have S:∀o,o<(P+2)*3->J.frozen? ⟨g,o,ν⟩=false:=λo ho=>S5.fz o (by have:=HP.out;simp;omega);have f0:=S ((P+1)*3) fC;have f1:=S ((P+1)*3+1) fC;have f2:=S ((P+1)*3+2) fC;have f3:=S (P*3) fC;have f4:=S (P*3+1) fC;have f5:=S (P*3+2) fC;clear S D G x0 x1 x2 y0 y1 y2 M
      have hD6:Hid (Down w (OI (OI J g (P+1) y) g P x).drew g cap n k ss pr (y::mid) post x):=by
       have hd:=HD.out;have hp:=HP.out
       have OM:((((pr++ [y])++x::(mid++post)).set (P+1) y).set P x)=pr++x::((y::mid)++post):=by
        subst hp;rw[aK,eZ _ _ fC,show pr.length+1-pr.length=1 by omega];simp only[List.singleton_append,List.set_cons_succ,List.set_cons_zero];rw[eZ _ _ fC,dx];rfl
       have Z:((pr++ [y])++x::(mid++post)).length=pr.length+mid.length+post.length+2:=by simp;omega
       have s6:=((S5.put (P+1) (by rw[Z];omega) y).put P (by rw[List.length_set,Z];omega) x).drewN 1;rw[OM]at s6;refine⟨s6,?_,?_,?_,?_,?_⟩;{refine List.Perm.trans ?_ hd.perm;rw[aK];exact List.Perm.append_left pr (by simpa using List.Perm.swap y x (mid++post))};{have:=hd.Vm;rw[aK]at this;exact this};{intro z hz;obtain rfl|hz:=aS.1 hz;{exact Wq};exact hd.low z hz};{have:=hd.len;simp at this⊢;omega};exact vA (Dh (Dh (vA hd.grown V) (I8 _ g (P+1) y)) (I8 _ g P x)) (below_drewN (aC _ _) 1)
      go_wp2;go_region;go_wp2_with fail;refine⟨⟨pr,y::mid,post,x,?_,?_⟩,?_⟩;{rw[HP.out]};{exact hD6.out};simp[gj]
     have hhi:y.own<x.own:=by
      have h9:¬x.own=y.own:=HN.out;omega
     have Q:cx=1:=by rw[<-X,nQ,af Wq,ag hhi]
     subst Q;clear X;go_wp2
     go_region_held3(λv=>v.cell? ⟨g,(P+1)*3,ν⟩=μ (ι κ x.own)/\v.cell? ⟨g,(P+1)*3+1,ν⟩=μ (ι κ x.seq)/\v.cell? ⟨g,(P+1)*3+2,ν⟩=μ (σ x.a x.n x.cap)/\v.cell? ⟨g,P*3,ν⟩=μ (ι κ y.own)/\v.cell? ⟨g,P*3+1,ν⟩=μ (ι κ y.seq)/\v.cell? ⟨g,P*3+2,ν⟩=μ (σ y.a y.n y.cap))
      (first|assumption|exact G|exact E)
      ((go_at_call 203;refine D.mono ?_;rintro e J ⟨rfl,M⟩;have E:=ahb M gl G))
     have V:fP wr J:=fQ (below_drewN (aC _ _) 1) M
     have A:Hid (∃ts:List SV,SR J g cap ts/\ts.Perm ss/\OJ (ts.take (k+1))/\w.grownBy J (μ g)):=by
      have hd:=HD.out;refine⟨_,hd.sr.below V,hd.perm,?_,vA hd.grown V⟩;have hm:=hd.len
      have e:((pr++ [y])++x::(mid++post)).take (k+1)=(pr++ [y])++x::mid:=by
       rw[show(pr++ [y])++x::(mid++post)=((pr++ [y])++x::mid)++post by simp];rw[List.take_left' (by simp at hm⊢;omega)]
      rw[e];exact QZ hd.Vm (Wp (bJ.1 hd.Vm).1 hhi) hd.low
     clear D G E x0 x1 x2 y0 y1 y2 M;go_wp2;go_roundw;(case rel=>obtain⟨us,q1,q2,q3,q4⟩:=A.out;exact⟨k+1,us,fC,.inl fC,by go_num,q1,q2,q3,q4⟩);case measure=>simp[gj];omega
   have A:Hid (∃ts,SR wr g cap ts/\ts.Perm ss/\OJ ts/\w.grownBy wr (μ g)):=by
    refine⟨ts,hS,U,?_,hG⟩;have:ts.take k=ts:=aR fC
    rwa [this]at hR
   clear hS U hR hG;have zD:¬(k:Int)<(n:Int):=fC;go_wp2_with fail;go_end0;exact⟨rfl,A.out⟩
def Q5(n:Nat)(hn:n<=6)(w:fA):gb gg 221 #[.int .u64 (n:Int)] w λe w'=>∃r:Int,e=ρ (ι κ r)/\w=w':=by
 have Z:∀W:fA,gb gg 241 #[.int .u64 (n:Int)] W λe w'=>∃r:Int,e=ρ (ι κ r)/\W=w':=by
  intro W;obtain rfl|rfl|rfl|rfl|rfl|rfl|rfl:n=0 \/n=1 \/n=2 \/n=3 \/n=4 \/n=5 \/n=6:=fC;all_goals(go_in;go_wp2;go_ret;exact⟨_,rfl,rfl⟩)
 go_in;go_wp2_with fail;refine(Z _).mono ?_;rintro e w1 ⟨r,rfl,rfl⟩;go_wp2;go_ret;exact⟨_,rfl,rfl⟩
def aap(g n cap:Nat)(L:Int)(ss:List SV)(w:fA)(h:SR w g cap ss)(hl:ss.length=n)(X:n<=12)(hd:ss.Pairwise (λx y=>x.own≠y.own)):
 gb gg 220 #[σ (μ ⟨g,0,ν⟩) n cap,ι κ 0,ι κ (n:Int),ι κ L,.func (.func 203) #[] #[]] w λe w'=>e=ρ (τ #[])/\∃ts,SR w' g cap ts/\ts.Perm ss/\OJ ts/\w.grownBy w' (μ g):=by
  have hc:=OL g n cap ss w h hl X hd;have h12:(n:Int)<=12:=fC;go_in;go_wp2_with fail;refine cH 1 ?_;rw[cy];go_wp2_with fail;refine hc.mono ?_;rintro e w1 ⟨rfl,Z⟩;have Y:Hid _:=Z;clear Z hc;go_wp2_with fail;refine nX rfl rfl ?_;exact⟨rfl,Y.out⟩
def Wr(g n cap:Nat)(ss:List SV)(w:fA)(h:SR w g cap ss)(hl:ss.length=n)(V:n<=6)(hd:ss.Pairwise (λx y=>x.own≠y.own)):
 gb gg 202 #[σ (μ ⟨g,0,ν⟩) n cap,.func (.func 203) #[] #[]] w λe w'=>e=ρ (τ #[])/\∃ts,SR w' g cap ts/\ts.Perm ss/\OJ ts/\w.grownBy w' (μ g):=by
  have Z:=Q5 n V w;have h12:(n:Int)<=6:=fC;go_in;go_wp2_with fail;refine Z.mono ?_;rintro e w1 ⟨r,rfl,rfl⟩;go_wp2_with fail;refine(aap g n cap r ss w h hl fC hd).mono ?_;rintro e w2 ⟨rfl,Y⟩;have X:Hid _:=Y;clear Y Z;go_wp2_with fail;go_end0;exact⟨rfl,X.out⟩
def SV.cells(s:SV):List fB:=[ι κ s.own,ι κ s.seq,σ s.a s.n s.cap]
def Mj(ss:List SV):List fB:=ss.flatMap SV.cells
def Ml(ss:List SV)(s:SV):Mj (ss++ [s])=Mj ss++ [ι κ s.own,ι κ s.seq,σ s.a s.n s.cap] :=by simp[Mj,SV.cells]
def Ks:∀(ss:List SV) (j:Nat) (s:SV),ss[j]? =μ s->(Mj ss)[j*3]? =μ (ι κ s.own)/\(Mj ss)[j*3+1]? =μ (ι κ s.seq)/\(Mj ss)[j*3+2]? =μ (σ s.a s.n s.cap)
 |[],j,s,h=>by simp at h
 |x::l,0,s,h=>by
  have:x=s:=by simpa using h
  subst this;exact⟨rfl,rfl,rfl⟩
 |x::l,j+1,s,h=>by
  have V:l[j]? =μ s:=by simpa using h
  obtain⟨a,b,c⟩:=Ks l j s V;have e:Mj (x::l)=ι κ x.own::ι κ x.seq::σ x.a x.n x.cap::Mj l:=rfl;have Z:(j+1)*3=j*3+3:=fC;have Y:(j+1)*3+1=j*3+1+3:=fC;have X:(j+1)*3+2=j*3+2+3:=fC;rw[e,Y,X,Z];simp only[List.getElem?_cons_succ];exact⟨a,b,c⟩
def Row.sr {ss:List SV} (h:Row w 3 (σ (μ ⟨g,0,ν⟩) ss.length cap) ss.length (Mj ss)):SR w g cap ss:=by
 obtain⟨e,_⟩|⟨g',kE,e,_,Z,Y,_,hs⟩:=h.2;{cases e};cases e;refine⟨h.lt g rfl,λj s e=> ?_,hs,Z,Y⟩;obtain⟨a,b,c⟩:=Ks ss j s e;exact⟨Row.cell h _ _ a,Row.cell h _ _ b,Row.cell h _ _ c⟩
def wT:∀(l m:List Int),l.Pairwise (· ≠·)->(∀x∈l,x∈m)->l.length<=m.length
 |[],_,_,_=>aw _
 |x::l,m,hp,hs=>by
  obtain⟨Z,Y⟩:=cU.1 hp;have hx:=hs x gZ;have:=wT l (m.erase x) Y (λy hy=>(dI (λe=>Z y hy e.symm)).2 (hs y (cG _ hy)));rw[dy hx]at this;have hm:0<m.length:=eU hx;simp only[fU];omega
structure ad3(w wr:fA)(f:Int->Option SV)(es:Int->List kS)(v:fB)(s:SV):Prop where
 at_:∃t,f s.own=μ t/\s.seq=t.seq
 inr:vm s.own
 n:s.n=(es s.own).length
 opt:kc wr s.a s.n (es s.own)
 nil:mG s.a s.cap
 new:∀j,fD (σ s.a s.n s.cap)=μ j->w.heap.size<j/\j<wr.heap.size/\v.ownBlock≠μ j
structure Ws(w wr:fA)(f:Int->Option SV)(es:Int->List kS)(left:Lit->Bool)(v:fB)(out:List SV):Prop where
 row:Row wr 3 v out.length (Mj out)
 own:∀g,v.ownBlock=μ g->w.heap.size<g
 el:∀s∈out,ad3 w wr f es v s/\left (.int .i64 s.own)=false
 df:out.Pairwise (λx y=>x.own≠y.own)
 all:∀k,vm k->(f k).isSome=true->left (.int .i64 k)=false->∃s∈out,s.own=k
 ph:fP w wr
def Ws.step {f:Int->Option SV} {v:fB} {out:List SV} {s t:SV} (h:Ws w wr f es left v out)
 (Y:wr.grownBy w1 (μ w.heap.size)) (G:w1.grownBy w3 v.ownBlock) (u:Row w3 3 v' (out.length+1) (Mj out++ [ι κ s.own,ι κ s.seq,σ s.a s.n s.cap]))
 (hv:∀g,v'.ownBlock=μ g->v.ownBlock=μ g \/wr.heap.size<=g) (hw:w.heap.size<wr.heap.size) (kt:∀j,fD (σ s.a s.n s.cap)=μ j->wr.heap.size<=j/\j<w3.heap.size/\v'.ownBlock≠μ j)
 (hx:vm s.own) (S:left (.int .i64 s.own)=true) (T:f s.own=μ t) (Z:s.seq=t.seq) (A:s.n=(es s.own).length) (y:kc w3 s.a s.n (es s.own)) (lR:mG s.a s.cap):
 Ws w w3 f es (λz=>left z&& !z.sameKey (.int .i64 s.own)) v' (out++ [s]):=by
  have ud:wr.heap.size<=w3.heap.size:=au Y.size G.size;have Q:∀i<wr.heap.size,i≠w.heap.size->v.ownBlock≠μ i->w3.heap[i]? =wr.heap[i]? :=λi hi V U=>
   (G.block i (aq hi Y.size) (λe=>U e.symm)).trans (Y.block i hi (λe=>V (by simpa using e)))
  refine⟨?_,?_,?_,?_,?_,?_⟩;{rw[Ml,aG];exact u};{intro g E;obtain e|e:=hv g E;{exact h.own g e};omega}
  ·intro q Z;obtain Z|Z:=aA.1 Z;{obtain⟨a,b⟩:=h.el q Z;refine⟨⟨a.at_,a.inr,a.n,a.opt.kept (cap:=q.cap) (λj X=> ?_),a.nil,λj X=> ?_⟩,by simp[b]⟩;{obtain⟨c1,c2,c3⟩:=a.new j X;exact Q j c2 fC c3};obtain⟨c1,c2,c3⟩:=a.new j X;refine⟨c1,fC,λe=> ?_⟩;obtain e|e:=hv j e;{exact c3 e};omega};have:q=s:=by simpa using Z
   subst this;refine⟨⟨⟨t,T,j9⟩,hx,A,y,lR,λj X=> ?_⟩,by simp[tJ]⟩;obtain⟨c1,c2,c3⟩:=kt j X;exact⟨fC,c2,c3⟩
  ·rw[bJ];refine⟨h.df,List.pairwise_singleton _ _,λa M b J=> ?_⟩;have:b=s:=by simpa using J
   subst this;intro e;have:=(h.el a M).2;rw[e,S]at this;cases this
  ·intro k D hs hl;by_cases e:k=s.own;{exact⟨s,gZ,e.symm⟩};have:left (.int .i64 k)=false:=by simpa[tJ,e]using hl
   obtain⟨q,V,U⟩:=h.all k D hs this;exact⟨q,by simp[V],U⟩
  refine⟨?_,?_,?_,?_,?_⟩;{exact G.os.trans (Y.os.trans h.ph.os)};{exact G.tape.trans (Y.tape.trans h.ph.tape)};{exact G.output.trans (Y.output.trans h.ph.output)};{exact au h.ph.size ud};intro i hi;refine(Q i fC fC (λe=> ?_)).trans (h.ph.block i hi);have:=h.own i e;omega
def Ws.few {f:Int->Option SV} {v:fB} {out:List SV} (h:Ws w wr f es left v out)(hf:∀k s,vm k->f k=μ s->1<=k/\k<=6):out.length<=6:=by
 have Z:=wT (out.map SV.own) [1,2,3,4,5,6] (by rw[dZ];exact h.df) (λx hx=>by
  obtain⟨s,hs,rfl⟩:=bX.1 hx;obtain⟨t,Y,_⟩:=(h.el s hs).1.at_;have:=hf _ t (h.el s hs).1.inr Y;simp;omega)
 simpa using Z
def infoState:(gg.info? 40).map (λi=>(i.zero,i.size,i.bytes))=μ (μ (.agg #[ι κ 0,ι κ 0,σ ν 0 0]),3,40):=iV
def Di(w:fA)(x y z:fB)(t:fE)(g:Nat)(Z:w.heap.size=g):∀(j:Nat) (u:fB),[x,y,z][j]? =μ u->(w.alloc (γ #[x,y,z] t)).cell? ((⟨g,0,ν⟩:fq).add j)=μ u:=by
 subst Z;intro j u hu;rw[add_plain,ay];simpa using hu
def Wt(x y:Int)(a:Option fq)(n c:Nat):∀u∈ [ι .i64 x,ι .i64 y,Value.slice a n c],u.oneCell'=true:=by simp[fG]
structure Fw(w w':fA)(f:Int->Option SV)(es:Int->List kS)(v:fB)(ts:List SV):Prop where
 shape:(v=σ ν 0 0/\ts=[]) \/ ∃g cap,v=σ (μ ⟨g,0,ν⟩) ts.length cap/\SR w' g cap ts/\w.heap.size<g
 el:∀s∈ts,ad3 w w' f es v s
 Vm:OJ ts
 all:∀k,vm k->(f k).isSome=true->∃s∈ts,s.own=k
 ph:fP w w'
def Ws.ad4 {f:Int->Option SV} {v:fB} {out:List SV} (h:Ws w wr f es left v out)(hl:∀X,left X=false)(hv:v=σ ν 0 0):Fw w wr f es v [] /\out=[] :=by
 have Y:out=[] :=by
  obtain⟨_,e⟩|⟨g,cap,e,_⟩:=h.row.2;{exact aQ e};rw[hv]at e;cases e
 subst Y;exact⟨⟨.inl ⟨hv,rfl⟩,λs hs=>by simp at hs,gX,λk Z hs=>h.all k Z hs (hl _),h.ph⟩,rfl⟩
def Ws.ahf {f:Int->Option SV} {out ts:List SV} (h:Ws w wr f es left (σ (μ ⟨g,0,ν⟩) out.length cap) out)(hl:∀G,left G=false)
 (hs:SR w' g cap ts) (X:ts.Perm out) (J:OJ ts) (Z:wr.grownBy w' (μ g)):Fw w w' f es (σ (μ ⟨g,0,ν⟩) out.length cap) ts:=by
  have V:w.heap.size<g:=h.own g rfl;refine⟨.inr ⟨g,cap,by rw[X.length_eq],hs,V⟩,λs M=> ?_,J,λk Q U=> ?_,?_⟩;{have a:=(h.el s (X.mem_iff.1 M)).1;refine⟨a.at_,a.inr,a.n,a.opt.kept (cap:=s.cap) (λj Y=> ?_),a.nil,λj Y=> ?_⟩;{obtain⟨c1,c2,c3⟩:=a.new j Y;exact Z.block j c2 (λe=>c3 e.symm)};obtain⟨c1,c2,c3⟩:=a.new j Y;exact⟨c1,aq c2 Z.size,c3⟩};{obtain⟨s,T,S⟩:=h.all k Q U (hl _);exact⟨s,X.mem_iff.2 T,S⟩};refine⟨Z.os.trans h.ph.os,Z.tape.trans h.ph.tape,Z.output.trans h.ph.output,au h.ph.size Z.size,λi hi=>(Z.block i (aq hi h.ph.size) (λe=> ?_)).trans (h.ph.block i hi)⟩;have:i=g:=by simpa using e
  omega
def Wu(w:fA):gb gg 202 #[σ ν 0 0,.func (.func 203) #[] #[]] w λe w'=>e=ρ (τ #[])/\w=w':=by
 have Z:=Q5 0 fF w
 have X:gb gg 232 #[σ ν 0 0,ι κ 0,ι κ 0,.func (.func 203) #[] #[]] w λe w'=>e=ρ (τ #[])/\w=w':=by
  go_in;go_wp2_with fail;refine cH 1 ?_;rw[cy];go_wp2_with fail;go_end0;exact⟨rfl,rfl⟩
 have Y:∀L:Int,gb gg 220 #[σ ν 0 0,ι κ 0,ι κ 0,ι κ L,.func (.func 203) #[] #[]] w λe w'=>e=ρ (τ #[])/\w=w':=by
  intro L;go_in;go_wp2_with fail;refine cH 1 ?_;rw[cy];go_wp2_with fail;refine X.mono ?_;rintro e w1 ⟨rfl,rfl⟩;go_wp2_with fail;refine nX rfl rfl ?_;exact⟨rfl,rfl⟩
 go_in;go_wp2_with fail;refine Z.mono ?_;rintro e w1 ⟨r,rfl,rfl⟩;go_wp2_with fail;refine(Y r).mono ?_;rintro e w2 ⟨rfl,rfl⟩;go_wp2_with fail;go_end0;exact⟨rfl,rfl⟩
def OO {w2:fA} {o2:Obj} {row:Option Nat} (k2:Below (w1.alloc o).heap.size (w1.alloc o) w2)(Z:(w2.alloc o2).grownBy w3 row):w1.grownBy w3 row:=by
 have s1:(w1.alloc o).heap.size=w1.heap.size+1:=gZ;have s2:(w2.alloc o2).heap.size=w2.heap.size+1:=gZ;have hk:=k2.size;have b1:=gu w1 o;have b2:=gu w2 o2;refine⟨Z.os.trans (b2.os.trans (k2.os.trans b1.os)),Z.tape.trans (b2.tape.trans (k2.tape.trans b1.tape)),Z.output.trans (b2.output.trans (k2.output.trans b1.output)),by have:=Z.size;omega,λi hi Y=> ?_⟩;exact(Z.block i fC Y).trans ((b2.block i fC).trans ((k2.block i fC).trans (b1.block i hi)))
def Fx(b n:Nat)(f:Int->Option SV)(es:Int->List kS)(w:fA)(h:SMap w b n f)
 (hf:∀k s,vm k->f k=μ s->(1<=k/\k<=6)/\s.own=k/\kc w s.a s.n (es k)/\mG s.a s.cap/\s.n<=1000000):
 gb gg 160 #[.map (μ b)] w λe w'=>∃v ts,e=ρ v/\Fw w w' f es v ts:=by
  obtain⟨i0,hi,pB,oR,oe⟩:=bu infoState;obtain⟨D,ku,OH⟩:=h.own;have Ce:=h.lt;have hz:=rH;have H0:Hid (∀k,vm k->f k=ν->∀z,D.atKey (.int .i64 k) z=z):=λk Y e=>by have:=OH k Y;rw[e]at this;exact this
  have H1:Hid (∀k s,vm k->f k=μ s->∀z,D.atKey (.int .i64 k) z=.held s):=λk s Y e=>by have:=OH k Y;rw[e]at this;exact this
  have HF:Hid _:=hf;clear OH h hf;go_in;go_wp2_with(first
   |(at_range;refine wpList_range_own _ rfl _ 211 rfl 3 40 wR underlying211 vy b n _ rfl ku ?_;intro w0 Wj u hs0)
   |fail)
  go_frame
  go_loopw [3] (λv wr=>∃(left:Lit->Bool) (Q:Nat) (out:List SV),wr.ranges gg 3 vy b w.heap.size n D left Q/\w.heap.size<wr.heap.size/\Ws w wr f es left v out)
   (λ_ wr=>wr.rangeLeft b w.heap.size)
  (case atStart=>refine⟨_,_,[],Wj,fC,⟨Row.nil _ 3,λg hg=>by simp[fD]at hg,λs hs=>by simp at hs,gX,λk Y S h2=> ?_,⟨u.os,u.tape,u.output,u.size,λi hi=>u.block i hi gZ⟩⟩⟩;cases e:f k with|none=>rw[e]at S;cases S|some s=>rw[eT (H1.out k s Y e)]at h2;cases h2)
  case round=>
   clear Wj u hs0 ku;obtain⟨left,Q,out,I7,hww,hC⟩:=hrel;go_wp2_with(first
    |(at_next;refine gU _ rfl _ rfl 3 wR vy (ι .i64) SV.v (λkey kl xW=>by obtain⟨x,rfl,_⟩:=cT underlying3 xW;exact⟨x,rfl⟩) (λv y hv=>by obtain⟨s,rfl,_⟩:=yS hv;exact⟨s,rfl⟩) b w.heap.size n _ _ _ rfl I7 ?_ ?_)
    |fail)
   {intro sy xR;have h6:=hC.few (λk s Y e=>(HF.out k s Y e).1);obtain⟨hv,Q6⟩|⟨g,cap,hv,_⟩:=hC.row.2;{subst hv;have A:Hid _:=(hC.ad4 xR rfl).1;have X:=Wu wr;clear hC I7 xR Q6 h6;go_wp2_with fail;refine X.mono ?_;rintro e w2 ⟨rfl,rfl⟩;clear X;go_wp2;go_ret;exact⟨_,_,rfl,A.out⟩};subst hv;have X:=Wr g out.length cap out wr hC.row.sr rfl h6 hC.df;have T:Hid _:=hC;have HL:Hid _:=xR;clear hC I7 xR h6;go_wp2_with fail;refine X.mono ?_;rintro e w2 ⟨rfl,ts,hS,hp,hr,hg⟩;have A:Hid _:=T.out.ahf HL.out hS hp hr hg;clear X hS hp hr hg;go_wp2;go_ret;exact⟨_,_,rfl,A.out⟩};intro x c kl yd yp w1 Mh xW hlx hv hat Wk Ih E Fb B6;obtain⟨x',ex,rfl,hwx⟩:=cT underlying3 xW;cases ex;have A7:=Ci hwx;obtain⟨Z,cs,ca,V,cc⟩:=c;rw[A6]at hv;have hy:yd=.held ⟨Z,cs,ca,V,cc⟩:=by have:=aL hv;simp only[gH]at this;exact this.1.symm
   have J:f x=μ ⟨Z,cs,ca,V,cc⟩:=by
    cases e:f x with|none=>have S:=H0.out x A7 e .nil;rw[hat,hy]at S;cases S|some s=>have S:=H1.out x s A7 e .nil;rw[hat,hy]at S;cases S;rfl
   obtain⟨hx6,hxo,Eb,lR,M⟩:=HF.out x _ A7 J;simp only at hxo Eb lR M;subst hxo;have h6:=hC.few (λk s Y e=>(HF.out k s Y e).1);have ag9:(gW (π (μ ⟨w.heap.size,0,ν⟩))).run gg w1=.ok (τ #[ι κ Z,.agg #[ι κ Z,ι κ cs,σ ca V cc]]) w1:=B6;have lU:fP w w1:=⟨E.os.trans hC.ph.os,E.tape.trans hC.ph.tape,E.output.trans hC.ph.output,au hC.ph.size E.size,λi hi=>(E.block i fC (λe=>by simp at e;omega)).trans (hC.ph.block i hi)⟩
   have ED:=Fu Z cs ca V cc (es Z) (w1.alloc (γ #[ι κ Z,ι κ cs,σ ca V cc] 40)) M lR (Eb.below (lU.alloc lU.size _));have T:Hid _:=hC;have HX:Hid (left (.int .i64 Z)=true/\vm Z/\f Z=μ ⟨Z,cs,ca,V,cc⟩/\wr.grownBy w1 (μ w.heap.size)/\w1.heap.size=wr.heap.size/\w.heap.size<wr.heap.size/\out.length<=6):=⟨hlx,A7,J,E,Fb,hww,h6⟩
   have HG:Hid (w1.ranges gg 3 vy b w.heap.size n D (λz=>left z&& !z.sameKey (.int .i64 Z)) Mh):=Wk;have HM:Hid _:=Ih;have HO:Hid (wr.rangeLeft b w.heap.size=Q):=I7.left_eq;clear hC hlx A7 J E Fb hww h6 Wk Ih I7 B6 hat hy hv xW hwx hx6 Eb lR M lU;go_wp2_with fail;refine ED.mono ?_;rintro e w2 ⟨⟨va,vc,rfl,vo,vn,vl,Ig⟩,k2⟩;clear ED ag9
   have xX:Row w2 3 u3 out.length (Mj out):=by
    obtain⟨q1,q2,q3,q4,q5,q6,q7⟩:=HX.out;have s1:(w1.alloc (γ #[ι κ Z,ι κ cs,σ ca V cc] 40)).heap.size=w1.heap.size+1:=gZ;refine T.out.row.keep (by have:=k2.size;omega) (λk Y=> ?_);have Zv:=T.out.row.lt k Y;have tU:=T.out.own k Y;exact(k2.block k fC).trans (((gu w1 _).block k fC).trans (q4.block k Zv (λe=>by simp at e;omega)))
   have h7:out.length<=6:=HX.out.2.2.2.2.2.2;obtain⟨m,hm⟩:=fH (out.length);rw[hm]at xX h7;have HN:Hid _:=hm;clear hm;go_wp2_with(at_builtin;go_must(refine jN _ rfl (.tmp 12) (.tmp 15) 91 rfl 40 i0 (.agg #[ι κ 0,ι κ 0,σ ν 0 0]) 3 40 underlying91 hi pB oR oe rfl fF u3 m (Mj out) rfl (xX.alloc _) _ 1 1 [ι κ Z,ι κ cs,σ va (es Z).length vc] rfl rfl fF (Di _ _ _ _ _ _ gZ) (Wt _ _ _ _ _) (by unfold maxLen;omega) fC ?_));intro g' kE w3 uN uM uO
   have A:Hid (w3.ranges gg 3 vy b w.heap.size n D (λz=>left z&& !z.sameKey (.int .i64 Z)) Mh/\w.heap.size<w3.heap.size/\Ws w w3 f es (λz=>left z&& !z.sameKey (.int .i64 Z)) (σ (μ ⟨g',0,ν⟩) (m+1) kE) (out++ [⟨Z,cs,va,(es Z).length,vc⟩])):=by
    obtain⟨q1,q2,q3,q4,q5,q6,q7⟩:=HX.out;have G:=OO k2 uM;have s1:(w1.alloc (γ #[ι κ Z,ι κ cs,σ ca V cc] 40)).heap.size=w1.heap.size+1:=gZ;have s2:(w2.alloc (γ #[ι κ Z,ι κ cs,σ va (es Z).length vc] 40)).heap.size=w2.heap.size+1:=gZ;have k2s:=k2.size;have g3s:=uM.size;have U:∀k,u3.ownBlock=μ k->w.heap.size<k/\k<wr.heap.size:=λk Y=>⟨T.out.own k Y,T.out.row.lt k Y⟩
    refine⟨World.ranges.kept HG.out G (λe=>by have:=U b e.symm;omega) (λe=>by have:=U _ e.symm;omega),fC,?_⟩;refine T.out.step (s:=⟨Z,cs,va,(es Z).length,vc⟩) (t:=⟨Z,cs,ca,V,cc⟩) q4 G (by rw[HN.out];exact uN) (λg hg=> ?_) q6 (λj hj=> ?_) q2 q1 q3 rfl rfl (vo.kept (cap:=vc) (λj hj=> ?_)) vn
    ·have SD:g'=g:=by simpa[fD]using hg
     subst SD;obtain e|e:=uO;{exact .inl e};right;omega
    ·obtain⟨c1,c2⟩:=Ig j hj;refine⟨fC,fC,λe=> ?_⟩;have SD:g'=j:=by simpa[fD]using e
     subst SD;obtain e|e:=uO;{have:=U _ e;omega};omega
    obtain⟨c1,c2⟩:=Ig j hj;exact(uM.block j fC (λe=>by have:=U j e.symm;omega)).trans ((gu w2 _).block j c2)
   have I9:Hid (w3.rangeLeft b w.heap.size<wr.rangeLeft b w.heap.size):=by
    show _<_;rw[World.ranges.left_eq A.out.1,HO.out];exact HM.out
   clear uN uM uO k2 vo Ig xX HO;go_wp2;go_roundw;(case rel=>exact⟨_,Mh,_,A.out⟩);case measure=>exact I9.out
def Fine(w:fA)(f:Int->Option SV)(es:Int->List kS):Prop:=∀k s,vm k->f k=μ s->(1<=k/\k<=6)/\s.own=k/\kc w s.a s.n (es k)/\mG s.a s.cap/\s.n<=1000000
def OP(B:Nat)(m:FM)(k:Nat)(kn:Int->Option SV)(ow:Nat->Int->Option SV)(es:Int->List kS)(w:fA)(h:FB w B m k kn ow)(hf:Fine w kn es):
 gb gg 110 #[π (μ ⟨B,0,ν⟩)] w λe w'=>∃v ts,e=ρ v/\Fw w w' kn es v ts:=by
  have Z:=Fx m.bm k kn es w h.km hf;have c0:=h.c0;have lB:=h.lt;clear h hf;go_in;go_wp2_with fail;refine Z.mono ?_;rintro e w2 ⟨v,ts,rfl,Y⟩;have X:Hid _:=Y;clear Z Y;go_wp2;go_ret;exact⟨_,_,rfl,X.out⟩
def Wv(B:Nat)(m:FM)(k:Nat)(kn:Int->Option SV)(ow:Nat->Int->Option SV)(es:Int->List kS)(p:Nat)(w:fA)(h:FB w B m k kn ow)(U:p<m.bs.length)(hf:Fine w (ow p) es):
 gb gg 151 #[π (μ ⟨B,0,ν⟩),ι κ (p:Int)] w λe w'=>∃v ts,e=ρ v/\Fw w w' (ow p) es v ts:=by
  have hh:=EC B m k kn ow (p:Int) w h;have hv:(decide (0<=(p:Int))&&decide ((p:Int)<(m.bs.length:Int)))=true:=by simp;omega
  rw[hv]at hh;clear hv;have hpi:(p:Int)<(m.bs.length:Int):=fC;have xT:=h.few;have Y:m.bs[p]? =μ m.bs[p] :=aB U;have Z:=Fx m.bs[p] k (ow p) es w (h.om p _ Y) hf;have c1:w.cell? ⟨B,1,ν⟩=μ (σ (μ ⟨m.g,0,ν⟩) m.bs.length m.cap):=h.c1;have lB:=h.lt;have cp:=h.port p _ Y;have gl:m.g<w.heap.size:=ai w _ cp;generalize m.bs[p] =bp at cp Z;clear Y h hf;go_in;go_wp2_with fail;refine hh.mono ?_;rintro e w1 ⟨rfl,rfl⟩;clear hh;go_wp2_with fail;refine Z.mono ?_;rintro e w2 ⟨v,ts,rfl,X⟩;have V:Hid _:=X;clear Z X;go_wp2;go_ret;exact⟨_,_,rfl,V.out⟩
def Ww:(gg.info? 211).map (λi=>(i.zero,i.size,i.bytes))=μ (μ (.map ν),1,8):=iV
def Ab(w:fA)(x:fB)(t:fE)(g:Nat)(Z:w.heap.size=g):∀(j:Nat) (u:fB),[x][j]? =μ u->(w.alloc (γ #[x] t)).cell? ((⟨g,0,ν⟩:fq).add j)=μ u:=by
 subst Z;exact sL w x t
def aar(b:Option Nat):∀u∈ [gQ b],u.oneCell'=true:=by simp[fG]
def ad5(W:fA):(gY 211 ν).run gg W=.ok (.map (μ W.heap.size)) (W.alloc (.map #[] 0)):=rfl
def Wx(w:fA):(zeroValue 214).run gg w=.ok (.agg #[.map ν,σ ν 0 0]) w:=iV
structure Ii(w wr:fA)(v:fB)(bs:List Nat):Prop where
 pT:wr.heap[w.heap.size+1]? =μ (γ #[.map (μ w.heap.size),v] 214 (0,0))
 row:Row wr 1 v bs.length (bs.map λb=>gQ (μ b))
 km:SMap wr w.heap.size 0 (λ_=>ν)
 om:∀b∈bs,SMap wr b 0 (λ_=>ν)
 ge:∀b∈bs,w.heap.size+2<=b
 own:∀g,v.ownBlock=μ g->w.heap.size+2<=g/\g∉bs
 nd:bs.Nodup
 ph:fP w wr
def Ii.step {v:fB} {g' kE:Nat} (h:Ii w wr v bs)(V:((wr.alloc (.map #[] 0)).alloc o).grownBy w3 v.ownBlock)(hv:v'=σ (μ ⟨g',0,ν⟩) (bs.length+1) kE)
 (E:Row w3 1 v' (bs.length+1) ((bs.map λb=>gQ (μ b))++ [.map (μ wr.heap.size)])) (G:v.ownBlock=μ g' \/wr.heap.size+2<=g'):Ii w (w3.setCell ⟨w.heap.size+1,1,ν⟩ v') v' (bs++ [wr.heap.size]):=by
  have A:w.heap.size+1<wr.heap.size:=(aE.1 h.pT).1;have s2:((wr.alloc (.map #[] 0)).alloc o).heap.size=wr.heap.size+2:=gZ;have b2:fP wr ((wr.alloc (.map #[] 0)).alloc o):=(gu _ _).alloc gZ _;have hs3:=V.size;have U:∀i<wr.heap.size,v.ownBlock≠μ i->w3.heap[i]? =wr.heap[i]? :=λi hi D=>(V.block i fC (λe=>D e.symm)).trans (b2.block i hi);have hS:∀i,i≠w.heap.size+1->(w3.setCell ⟨w.heap.size+1,1,ν⟩ v').heap[i]? =w3.heap[i]? :=λi hi=>ax _ _ _ i hi;have S:w3.heap[w.heap.size+1]? =μ (γ #[.map (μ w.heap.size),v] 214 (0,0)):=(U _ A (λe=>by have:=(h.own _ e).1;omega)).trans h.pT;have Y:∀b∈bs,b<wr.heap.size:=λb Z=>(h.om b Z).lt
  have T:w.heap.size+2<=g'/\g'∉bs/\g'≠wr.heap.size:=by
   obtain e|e:=G;{have:=h.own g' e;have h2:=h.row.lt g' e;exact⟨this.1,this.2,fC⟩};exact⟨fC,λX=>by have:=Y g' X;omega,fC⟩
  refine⟨?_,?_,?_,?_,?_,?_,?_,?_⟩;{have s:=cW w3 (w.heap.size+1) #[.map (μ w.heap.size),v] (#[.map (μ w.heap.size),v].setIfInBounds 1 v') 214 (0,0) S;rw[<-cg w3 (w.heap.size+1) 1 _ _ (0,0) _ S]at s;exact s}
  ·rw[aG,dr];refine E.keep gZ (λk M=>hS k ?_);rw[hv]at M;have:g'=k:=by simpa[fD]using M
   omega
  {refine h.km.keep ((hS _ fC).trans (U _ h.km.lt (λe=>by have:=(h.own _ e).1;omega)))}
  ·intro b Z;obtain Z|Z:=aA.1 Z;{have h1:=h.ge b Z;exact(h.om b Z).keep ((hS b fC).trans (U b (Y b Z) (λe=>(h.own b e).2 Z)))};have:b=wr.heap.size:=by simpa using Z
   subst this;refine(SMap.made wr).keep ((hS _ fC).trans ((V.block _ fC (λe=> ?_)).trans ?_));{have:=h.row.lt _ e.symm;omega};exact bk _ _ _ gZ
  ·intro b Z;obtain Z|Z:=aA.1 Z;{exact h.ge b Z};have:b=wr.heap.size:=by simpa using Z
   omega
  ·intro g Q;rw[hv]at Q;have:g'=g:=by simpa[fD]using Q
   subst this;refine⟨T.1,λX=> ?_⟩;obtain X|X:=aA.1 X;{exact T.2.1 X};exact T.2.2 (by simpa using X)
  ·rw[bS];refine⟨h.nd,gZ,λa J b Z=> ?_⟩;have:b=wr.heap.size:=by simpa using Z
   have:=Y a J;omega
  have b3:fP w w3:=⟨V.os.trans (b2.os.trans h.ph.os),V.tape.trans (b2.tape.trans h.ph.tape),V.output.trans (b2.output.trans h.ph.output),by have:=h.ph.size;omega,λi hi=>(U i fC (λe=>by have:=(h.own i e).1;omega)).trans (h.ph.block i hi)⟩
  exact b3.setCell (by show _<=w.heap.size+1;omega) _
def Ii.fb {v:fB} (h:Ii w wr v bs)(h1:0<bs.length)(T:bs.length<=3):∃g cap,FB wr (w.heap.size+1) {bm:=w.heap.size,g:=g,cap:=cap,bs:=bs} 0 (λ_=>ν) (λ_ _=>ν):=by
 obtain⟨_,e⟩|⟨g,cap,e,_⟩:=h.row.2;{omega};have S:=h.own g (by rw[e];rfl);have Z:=h.pT;have Y:=h.row;rw[e]at Z Y;refine⟨g,cap,Z,Y,h.km,λi b V=>h.om b (bY V),T,⟨by show w.heap.size≠w.heap.size+1;omega,by show g≠w.heap.size+1;omega,by show w.heap.size≠g;omega,λb X=> ?_⟩,h.nd⟩;have h4:=h.ge b X;exact⟨fC,λU=>S.2 (by rw[<-show b=g from U];exact X),by show b≠w.heap.size;omega⟩
def ako(p:Int)(w:fA)(Y:p<1 \/3<p):
 gb gg 66 #[ι κ p] w λe w'=>e=ρ (τ #[π ν,kr 1])/\w=w':=by
  have Z:Hid (kr 1=.iface 128 (ι κ 1)):=rfl;by_cases h1:p<1;{clear Y;go_in;go_wp2_with fail;rw[Z.out];go_ret2;exact⟨rfl,rfl⟩};have h3:3<p:=fC;clear Y;go_in;go_wp2_with fail;rw[Z.out];go_ret2;exact⟨rfl,rfl⟩
def ad7(p:Nat)(w:fA)(hp:1<=p/\p<=3):
 gb gg 66 #[ι κ (p:Int)] w λe w'=>e=ρ (τ #[π (μ ⟨w.heap.size+1,0,ν⟩),η])/\∃v bs,Ii w w' v bs/\bs.length=p:=by
  obtain⟨i0,hi,pB,oR,oe⟩:=bu Ww;have h1:¬((p:Int)<1):=fC;have h3:¬(3<(p:Int)):=fC;obtain⟨h,S⟩:=fH ((w.alloc (.map #[] 0)).alloc (γ #[.map (μ w.heap.size),σ ν 0 0] 214))
  have G:Ii w h (σ ν 0 0) [] :=by
   rw[<-S];refine⟨?_,Row.nil _ 1,(SMap.made w).alloc _,λb U=>by simp at U,λb U=>by simp at U,λg hg=>by simp[fD]at hg,dC,(gu _ _).alloc gZ _⟩;have:=bw (w.alloc (.map #[] 0)) (γ #[.map (μ w.heap.size),σ ν 0 0] 214);simpa using this
  have y:Hid _:=S;have hmk:∀W:fA,(gY 211 ν).run gg W=.ok (.map (μ W.heap.size)) (W.alloc (.map #[] 0)):=λW=>ad5 W;have hzb:=Wx;clear S;go_in;go_wp2_with fail;rw[y.out];go_loopw [16] (λi wr=>∃(j:Nat) (v:fB) (bs:List Nat),j<=p/\i=ι κ j/\bs.length=j/\Ii w wr v bs) (λi _=>p-(gj i).toNat);(case atStart=>exact⟨0,_,[],aw _,rfl,rfl,G⟩)
  case round=>
   clear G;obtain⟨j,v,bs,hj,rfl,hl,Z⟩:=hrel;by_cases lZ:j<p
   ·have pE:(j:Int)<(p:Int):=fC;have c1:wr.cell? ⟨w.heap.size+1,1,ν⟩=μ v:=aD wr _ 1 _ _ (0,0) Z.pT;have lB:w.heap.size+1<wr.heap.size:=ai wr _ c1;have T:=Z.row;rw[hl]at T;have X:Hid _:=hl;have Y:Hid _:=Z;clear Z hl;go_wp2_with(at_builtin;go_must(refine jN _ rfl (.tmp 22) (.tmp 24) 212 rfl 211 i0 (.map ν) 1 8 underlying212 hi pB oR oe rfl fF v j _ rfl ((T.alloc _).alloc _) _ 1 1 [.map (μ wr.heap.size)] rfl rfl fF (Ab _ _ _ _ gZ) (aar _) (by unfold maxLen;omega) fC ?_));intro J E w3 D Q M
    have V:w3.heap[w.heap.size+1]? =μ (γ #[.map (μ w.heap.size),v] 214 (0,0)):=by
     refine(Q.block _ (by simp;omega) (λe=> ?_)).trans ((((gu wr (.map #[] 0)).alloc gZ _).block _ lB).trans Y.out.pT);have:=(Y.out.own _ e.symm).1;omega
    have c3:w3.cell? ⟨w.heap.size+1,1,ν⟩=μ v:=aD w3 _ 1 _ _ (0,0) V;have f3:=bR w3 (w.heap.size+1) 1 _ _ V;have l3:w.heap.size+1<w3.heap.size:=ai w3 _ c3
    have A:Hid (Ii w (w3.setCell ⟨w.heap.size+1,1,ν⟩ (σ (μ ⟨J,0,ν⟩) (j+1) E)) (σ (μ ⟨J,0,ν⟩) (j+1) E) (bs++ [wr.heap.size])):=by
     refine Y.out.step Q (by rw[X.out]) (by rw[X.out];exact D) ?_;obtain e|e:=M;{exact .inl e};right;simpa using e
    clear D Q M V T;go_wp2;go_roundw;(case rel=>exact⟨j+1,_,_,fC,by go_num,by simp[X.out],A.out⟩);case measure=>simp[gj];omega
   have u:j=p:=fC;subst u;have Y:Hid (∃v bs,Ii w wr v bs/\bs.length=j):=⟨v,bs,Z,hl⟩
   clear Z hl;go_wp2;go_ret2;exact⟨rfl,Y.out⟩
abbrev PS:=Int×List kS
structure Mm(w:fA)(m:FM)(k:Int)(q:PS)(s:SV):Prop where
 own:s.own=k
 seq:s.seq=q.1
 n:s.n=q.2.length
 opt:kc w s.a s.n q.2
 nil:mG s.a s.cap
 ok:qq k q.1 q.2=0
 lt:∀j,fD (σ s.a s.n s.cap)=μ j->j<w.heap.size
 far:∀j,fD (σ s.a s.n s.cap)=μ j->j≠m.bm/\j∉m.bs/\¬m.no j
def Tie(w:fA)(m:FM)(f:Int->Option SV)(F:Int->Option PS):Prop:=∀k,vm k->match F k with
 |none=>f k=none
 |some q=>∃s,f k=some s/\Mm w m k q s
def Mm.kept {m:FM} {q:PS} {s:SV} (h:Mm w m k q s)(Y:kM w w' m):Mm w' m k q s:=⟨h.own,h.seq,h.n,h.opt.V8 (cap:=s.cap) Y (λj Z=>⟨(h.far j Z).1,(h.far j Z).2.1⟩),h.nil,h.ok,λj Z=>aq (h.lt j Z) Y.size,h.far⟩
def Tie.kept {w w':fA} {m:FM} {f:Int->Option SV} {F:Int->Option PS} (h:Tie w m f F)(X:kM w w' m):Tie w' m f F:=by
 intro k V;have:=h k V;cases e:F k with|none=>rw[e]at this;exact this|some q=>rw[e]at this;obtain⟨s,Z,Y⟩:=this;exact⟨s,Z,Y.kept X⟩
def Tie.A8 {m:FM} {f:Int->Option SV} {F:Int->Option PS} (h:Tie w m f F)(Z:vm k)(e:F k=ν):f k=ν:=by have:=h k Z;rw[e]at this;exact this
def Tie.wU {m:FM} {f:Int->Option SV} {F:Int->Option PS} (h:Tie w m f F)(Z:vm k) {q:PS} (e:F k=μ q):∃s,f k=μ s/\Mm w m k q s:=by have:=h k Z;rw[e]at this;exact this
def xY(F:Int->Option PS)(k:Int)(q:PS):Int->Option PS:=λx=>if x=k then μ q else F x
def Ac(F:Int->Option PS)(k:Int):Int->Option PS:=λx=>if x=k then ν else F x
def Tie.put {m:FM} {f:Int->Option SV} {F:Int->Option PS} (h:Tie w m f F) {q:PS} {s:SV} (hs:Mm w m k q s):Tie w m (vN f k s) (xY F k q):=by
 intro x Z;by_cases e:x=k;{subst e;simp only[xY,vN,if_true];exact⟨s,rfl,hs⟩};have:=h x Z;simp only[xY,vN,if_neg e];exact this
def Tie.out {m:FM} {f:Int->Option SV} {F:Int->Option PS} (h:Tie w m f F)(k:Int):Tie w m (del f k) (Ac F k):=by
 intro x Z;by_cases e:x=k;{subst e;simp only[Ac,del,if_true]};have:=h x Z;simp only[Ac,del,if_neg e];exact this
structure BR(w:fA)(B:Nat)(m:FM)(n:Nat)(K:Int->Option PS)(O:Nat->Int->Option PS):Prop where
 ex:∃kn ow,FB w B m n kn ow/\Tie w m kn K/\∀i<m.bs.length,Tie w m (ow i) (O i)
 S0:∀j,m.no j->j<w.heap.size
def BR.Kt {m:FM} {K:Int->Option PS} {O:Nat->Int->Option PS} (h:BR w B m n K O)(hs:w.heap.size<=w'.heap.size):∀j,m.no j->j<w'.heap.size:=λj Z=>aq (h.S0 j Z) hs
def newF(K:Int->Option PS)(own seq:Int)(es:List kS):Int:=match K own with|none=>1|some q=>nI seq es q.1 q.2
def Fy(B:Nat)(m:FM)(k:Nat)(kn:Int->Option SV)(ow:Nat->Int->Option SV)(K:Int->Option PS)(own seq:Int)(a:Option fq)(n cap:Nat)(es:List kS)(w:fA)(h:FB w B m k kn ow)(X:Tie w m kn K)(Z:vm own)(T:kc w a n es)(U:n<=1000000):
 gb gg 217 #[π (μ ⟨B,0,ν⟩),.agg #[ι κ own,ι κ seq,σ a n cap]] w λe w'=>e=ρ (ι κ (newF K own seq es))/\fP w w':=by
  cases e:K own with
  |none=>
   have hv:newF K own seq es=1:=by rw[newF,e]
   rw[hv];exact OB B m k kn ow own seq a n cap w h Z (X.A8 Z e)
  |some q=>
   obtain⟨s,V,Y⟩:=X.wU Z e;have hv:newF K own seq es=nI seq es s.seq q.2:=by rw[newF,e,Y.seq]
   rw[hv];exact OC B m k kn ow own seq a n cap es s q.2 w h Z V T U Y.opt
def np(K:Int->Option PS)(own seq:Int)(es:List kS):Int->Option PS:=if 0<newF K own seq es then xY K own (seq,es)else K
def qL(K:Int->Option PS)(O:Nat->Int->Option PS)(p:Nat)(own seq:Int)(es:List kS):Nat->Int->Option PS:=λi=>
 if 0<newF K own seq es then(if i=p then Ac (xY (O p) own (seq,es)) own else xY (O i) own (seq,es))
 else if newF K own seq es<0 then(if i=p then(match K own with|none=>O p|some q=>xY (O p) own q)else O i)
 else(if i=p then Ac (O p) own else O i)
def Fz(K:Int->Option PS)(own seq:Int)(es:List kS)(h:∀q:PS,nI seq es q.1 q.2= -1 \/nI seq es q.1 q.2=0 \/nI seq es q.1 q.2=1):newF K own seq es= -1 \/newF K own seq es=0 \/newF K own seq es=1:=by
 unfold newF;cases K own with|none=>exact .inr (.inr rfl)|some q=>exact h q
def S1(B:Nat)(m:FM)(k:Nat)(K:Int->Option PS)(O:Nat->Int->Option PS)(p:Nat)(own seq:Int)(a:Option fq)(n cap:Nat)(es:List kS)(w:fA)(h:BR w B m k K O)(Q:vm own)(A:p<m.bs.length)(S:kc w a n es)(lR:mG a cap)(hk:k<=1000000)(hf:qq own seq es=0)
 (hS:∀q:PS,nI seq es q.1 q.2= -1 \/nI seq es q.1 q.2=0 \/nI seq es q.1 q.2=1):
 gb gg 190 #[π (μ ⟨B,0,ν⟩),ι κ (p:Int),.agg #[ι κ own,ι κ seq,σ a n cap]] w λe w'=>e=ρ (τ #[ι κ (newF K own seq es),η])/\BR w' B m (k+1+m.bs.length) (np K own seq es) (qL K O p own seq es)/\kM w w' m:=by
  obtain⟨kn,ow,hF,U,X⟩:=h.ex;have hn:n<=6:=by have:=(kD hf).2.2.1;rw[S.1]at this;exact this
  have D:n<=maxLen:=by unfold maxLen;omega
  have V:∀W,fP w W->gb gg 217 #[π (μ ⟨B,0,ν⟩),.agg #[ι κ own,ι κ seq,σ a n cap]] W λe w'=>e=ρ (ι κ (newF K own seq es))/\fP W w':=λW G=>
   Fy B m k kn ow K own seq a n cap es W (hF.below G) (U.kept (kM.jY m G)) Q (S.below G) fC
  obtain e|e|e:=Fz K own seq es hS;{rw[e]at V⊢;cases J:K own with|none=>rw[newF,J]at e;cases e|some q=>obtain⟨s,u,h2⟩:=U.wU Q J;refine(Wc B m k kn ow p own seq a n cap es w hF Q A S D hf s u hk V).mono ?_;rintro y w1 ⟨rfl,M,Z⟩;refine⟨rfl,⟨⟨_,_,M.mono fC,?_,λi hi=> ?_⟩,h.Kt Z.size⟩,Z⟩;{simp only[np,e];exact U.kept Z};{simp only[qL,e,J];by_cases Y:i=p;{subst Y;simp;exact((X i hi).kept Z).put (h2.kept Z)};simp[Y];exact(X i hi).kept Z}};{rw[e]at V⊢;refine(take_zero B m k kn ow p own seq a n cap es w hF Q A S D hf V).mono ?_;rintro y w1 ⟨rfl,M,Z⟩;refine⟨rfl,⟨⟨_,_,M.mono fC,?_,λi hi=> ?_⟩,h.Kt Z.size⟩,Z⟩;{simp only[np,e];exact U.kept Z};simp only[qL,e];by_cases Y:i=p;{subst Y;simp;exact((X i hi).kept Z).out own};simp[Y];exact(X i hi).kept Z};rw[e]at V⊢;refine(Wd B m k kn ow p own seq a n cap es w hF Q A S D lR hk hf V).mono ?_;rintro y w1 ⟨rfl,s,T⟩;have hs:Mm w1 m own (seq,es) s:=⟨T.so,T.ss,T.sn,T.so2,T.nil,hf,λj E=>(T.new j E).2,λj E=>by
   have u:=(T.new j E).1;exact⟨λe=>by have:=hF.mlt m.bm (.inl rfl);omega,λe=>by have:=hF.mlt j (.inr e);omega,λe=>by have:=h.S0 j e;omega⟩⟩
  refine⟨rfl,⟨⟨_,_,T.fb,?_,λi hi=> ?_⟩,h.Kt T.kept.size⟩,T.kept⟩;{simp only[np,e];exact(U.kept T.kept).put hs};simp only[qL,e];by_cases Y:i=p;{subst Y;simp;exact(((X i hi).kept T.kept).put hs).out own};simp[Y,hi];exact((X i hi).kept T.kept).put hs
def sA(F G:Int->Option PS):Int->Option PS:=λk=>if(G k).isSome=true then G k else F k
def Tie.over {w:fA} {m:FM} {f g:Int->Option SV} {F G:Int->Option PS} (h:Tie w m f F)(Q:Tie w m g G):Tie w m (Go.Proofs.YtieklnlbljejdaaGreatDoor.over f g) (sA F G):=by
 intro k V;have U:=h k V;have Z:=Q k V;cases e:G k with
 |none=>
  rw[e]at Z;have Y:sA F G k=F k:=by simp[sA,e]
  have X:Go.Proofs.YtieklnlbljejdaaGreatDoor.over f g k=f k:=by simp[Go.Proofs.YtieklnlbljejdaaGreatDoor.over,Z]
  rw[Y,X];exact U
 |some q=>
  rw[e]at Z;obtain⟨s,T,S⟩:=Z;have Y:sA F G k=μ q:=by simp[sA,e]
  have X:Go.Proofs.YtieklnlbljejdaaGreatDoor.over f g k=μ s:=by simp[Go.Proofs.YtieklnlbljejdaaGreatDoor.over,T]
  rw[Y,X];exact⟨s,rfl,S⟩
def S6(B:Nat)(m:FM)(k:Nat)(K:Int->Option PS)(O:Nat->Int->Option PS)(p:Nat)(w:fA)(h:BR w B m k K O)(T:p<m.bs.length):
 gb gg 124 #[π (μ ⟨B,0,ν⟩),ι κ (p:Int)] w λe w'=>e=ρ (τ #[])/\BR w' B m k K (λi=>if i=p then λ_=>ν else O i)/\kM w w' m:=by
  obtain⟨kn,ow,hF,U,V⟩:=h.ex;refine(Wg B m k kn ow p w hF T).mono ?_;rintro e w1 ⟨rfl,X,Z⟩;refine⟨rfl,⟨⟨_,_,X,U.kept Z,λi hi=> ?_⟩,h.Kt Z.size⟩,Z⟩;by_cases Y:i=p;{simp only[if_pos Y];exact λ_ _=>rfl};simp only[if_neg Y];exact(V i hi).kept Z
def S7(B:Nat)(m:FM)(k:Nat)(K:Int->Option PS)(O:Nat->Int->Option PS)(p:Nat)(w:fA)(h:BR w B m k K O)(S:p<m.bs.length)(T:k<=1000000):
 gb gg 126 #[π (μ ⟨B,0,ν⟩),ι κ (p:Int)] w λe w'=>e=ρ η/\BR w' B m (k+k) K (λi=>if i=p then sA (O p) K else O i)/\kM w w' m:=by
  obtain⟨kn,ow,hF,V,X⟩:=h.ex;refine(Wn B m k kn ow p w hF S T).mono ?_;rintro e w1 ⟨rfl,U,Z⟩;refine⟨rfl,⟨⟨_,_,U,V.kept Z,λi hi=> ?_⟩,h.Kt Z.size⟩,Z⟩;by_cases Y:i=p;{subst Y;simp only[if_true];exact((X i hi).kept Z).over (V.kept Z)};simp only[if_neg Y];exact(X i hi).kept Z
def Mn(B:Nat)(m:FM)(k:Nat)(K:Int->Option PS)(O:Nat->Int->Option PS)(own seq:Int)(a:Option fq)(n cap:Nat)(es:List kS)(w:fA)(h:BR w B m k K O)(S:vm own)(U:kc w a n es)(Q:mG a cap)(V:k<=1000000)(hf:qq own seq es=0):
 gb gg 67 #[π (μ ⟨B,0,ν⟩),.agg #[ι κ own,ι κ seq,σ a n cap]] w λe w'=>e=ρ η/\BR w' B m (k+1+m.bs.length) (xY K own (seq,es)) (λi=>xY (O i) own (seq,es))/\kM w w' m:=by
  obtain⟨kn,ow,hF,X,Y⟩:=h.ex;refine(ad1 B m k kn ow own seq a n cap es w hF S U Q V hf).mono ?_;rintro e w1 ⟨rfl,s,T⟩;have hs:Mm w1 m own (seq,es) s:=⟨T.so,T.ss,T.sn,T.so2,T.nil,hf,λj Z=>(T.new j Z).2,λj Z=>by
   have h1:=(T.new j Z).1;exact⟨λe=>by have:=hF.mlt m.bm (.inl rfl);omega,λe=>by have:=hF.mlt j (.inr e);omega,λe=>by have:=h.S0 j e;omega⟩⟩
  refine⟨rfl,⟨⟨_,_,T.fb,(X.kept T.kept).put hs,λi hi=> ?_⟩,h.Kt T.kept.size⟩,T.kept⟩;simp only[if_pos hi];exact((Y i hi).kept T.kept).put hs
def OQ(B:Nat)(m:FM)(k:Nat)(K:Int->Option PS)(O:Nat->Int->Option PS)(p:Nat)(own seq:Int)(a:Option fq)(n cap:Nat)(es:List kS)(w:fA)(h:BR w B m k K O)(J:vm own)(M:p<m.bs.length)(V:kc w a n es)(hf:qq own seq es=0)
 (hS:∀q:PS,nI seq es q.1 q.2= -1 \/nI seq es q.1 q.2=0 \/nI seq es q.1 q.2=1):
 gb gg 191 #[π (μ ⟨B,0,ν⟩),ι κ (p:Int),.agg #[ι κ own,ι κ seq,σ a n cap]] w λe w'=>e=ρ η/\BR w' B m k K (λi=>if i=p/\0<=newF K own seq es then Ac (O p) own else O i)/\kM w w' m:=by
  obtain⟨kn,ow,hF,T,U⟩:=h.ex;have hn:n<=6:=by have:=(kD hf).2.2.1;rw[V.1]at this;exact this
  have Q:n<=maxLen:=by unfold maxLen;omega
  have Y:∀W,fP w W->gb gg 217 #[π (μ ⟨B,0,ν⟩),.agg #[ι κ own,ι κ seq,σ a n cap]] W λe w'=>e=ρ (ι κ (newF K own seq es))/\fP W w':=λW S=>
   Fy B m k kn ow K own seq a n cap es W (hF.below S) (T.kept (kM.jY m S)) J (V.below S) fC
  have key:∀w1,FB w1 B m k kn (λi=>if i=p then del (ow p) own else ow i)->kM w w1 m->0<=newF K own seq es->BR w1 B m k K (λi=>if i=p/\0<=newF K own seq es then Ac (O p) own else O i):=by
   intro w1 X Z D;refine⟨⟨_,_,X,T.kept Z,λi hi=> ?_⟩,h.Kt Z.size⟩;by_cases G:i=p;{subst G;simp only[if_true,D,and_self];exact((U i hi).kept Z).out own};simp only[G,if_false,false_and];exact(U i hi).kept Z
  obtain e|e|e:=Fz K own seq es hS
  ·rw[e]at Y;refine(SW B m k kn ow p own seq a n cap es w hF M V Q hf Y).mono ?_;rintro E w1 ⟨rfl,b1⟩;have Z:=kM.jY m b1;refine⟨rfl,⟨⟨_,_,hF.below b1,T.kept Z,λi hi=> ?_⟩,h.Kt Z.size⟩,Z⟩;have:¬(i=p/\0<=newF K own seq es):=by rw[e];omega
   simp only[if_neg this];exact(U i hi).kept Z
  {rw[e]at Y;refine(OE B m k kn ow p own seq a n cap es w hF J M V Q hf Y).mono ?_;rintro E w1 ⟨rfl,X,Z⟩;exact⟨rfl,key w1 X Z fC,Z⟩};rw[e]at Y;refine(SU B m k kn ow p own seq a n cap es w hF J M V Q hf Y).mono ?_;rintro E w1 ⟨rfl,X,Z⟩;exact⟨rfl,key w1 X Z fC,Z⟩
def Wy(p:Nat)(w:fA)(T:1<=p/\p<=3):
 gb gg 66 #[ι κ (p:Int)] w λe w'=>e=ρ (τ #[π (μ ⟨w.heap.size+1,0,ν⟩),η])/\∃m:FM,m.bs.length=p/\BR w' (w.heap.size+1) m 0 (λ_=>ν) (λ_ _=>ν)/\fP w w'/\w.heap.size<=m.bm/\w.heap.size<=m.g/\(∀b∈m.bs,w.heap.size<=b):=by
  refine(ad7 p w T).mono ?_;rintro e w1 ⟨rfl,v,bs,Z,hl⟩;obtain⟨_,e⟩|⟨g,cap,e,_⟩:=Z.row.2;{omega};obtain⟨Y,cap2,hF⟩:=Z.fb fC fC;refine⟨rfl,_,hl,⟨⟨_,_,hF,λ_ _=>rfl,λ_ _ _ _=>rfl⟩,λ_ h=>h.elim⟩,Z.ph,aj _,?_,λb U=> ?_⟩
  ·have X:=hF.pT;rw[Z.pT]at X;have V:v=FM.sl {bm:=w.heap.size,g:=Y,cap:=cap2,bs:=bs}:=by simpa using X
   have:=Z.own Y (by rw[V];rfl);show w.heap.size<=Y;omega
  have:=Z.ge b U;omega
def oG(F:Int->Option PS):Int->List kS:=λk=>((F k).map (·.2)).getD []
def Tie.fine {m:FM} {f:Int->Option SV} {F:Int->Option PS} (h:Tie w m f F):Fine w f (oG F):=by
 intro k s V hs;cases e:F k with
 |none=>rw[h.A8 V e]at hs;cases hs
 |some q=>
  obtain⟨t,Y,Z⟩:=h.wU V e;rw[hs]at Y;obtain rfl:=aL Y;have X:=kD Z.ok;have U:oG F k=q.2:=by simp[oG,e]
  rw[U];exact⟨X.1,Z.own,Z.opt,Z.nil,by have:=X.2.2.1;have:=Z.n;omega⟩
structure xE(w:fA)(a:Option fq)(n:Nat)(S:Nat->SV)(E:Nat->List kS):Prop where
 row:n=0 \/ ∃b off,a=μ ⟨b,off,ν⟩/\∀j<n,w.cell? ⟨b,off+j*3,ν⟩=μ (ι κ (S j).own)/\w.cell? ⟨b,off+j*3+1,ν⟩=μ (ι κ (S j).seq)/\w.cell? ⟨b,off+j*3+2,ν⟩=μ (σ (S j).a (S j).n (S j).cap)
 opt:∀j<n,kc w (S j).a (S j).n (E j)/\mG (S j).a (S j).cap/\(S j).n<=maxLen
def xE.below {w w':fA} {a:Option fq} {n:Nat} {S:Nat->SV} {E:Nat->List kS} (h:xE w a n S E)(Z:fP w w'):xE w' a n S E:=by
 refine⟨?_,λj Y=>⟨(h.opt j Y).1.below Z,(h.opt j Y).2⟩⟩;obtain X|⟨b,off,rfl,X⟩:=h.row;{exact .inl X};refine .inr ⟨b,off,rfl,λj Y=> ?_⟩;obtain⟨c1,c2,c3⟩:=X j Y;have l:=ai w _ c1;exact⟨(Z.cell (p:=⟨b,off+j*3,ν⟩) l).trans c1,(Z.cell (p:=⟨b,off+j*3+1,ν⟩) l).trans c2,(Z.cell (p:=⟨b,off+j*3+2,ν⟩) l).trans c3⟩
def OT {enc:fE×fB->H} {v:fB} {y:fX H×List gJ}
 (M:DataW.trod enc gg W 0 (λ_=>true) true m 38 [v] =μ y):
 ∃(a:Option fq) (n cap:Nat) (os:List kS),v=σ a n cap/\kc W a n os/\mG a cap/\n<=maxLen:=by
  obtain⟨hcs,_⟩|⟨a,len,cap,m',n',Y,X,D0,D1,P0,P1,hcs,_,hl,hm,S,_,hx⟩:=eB underlying38 underlying123 iV rfl rfl iV iV M;{simp at hcs;subst hcs;exact⟨ν,0,0,[],rfl,⟨rfl,.inl rfl⟩,λ_=>rfl,fF⟩};simp at hcs;subst hcs;simp at S
  have each:∀i<len,W.cell? (a.add (i*2))=μ (ι κ (gj (Y i)))/\W.cell? (a.add (i*2+1))=μ (ι κ (gj (X i))):=by
   intro i hi;obtain⟨q1,q2,G,E⟩:=hx i fC;obtain⟨k,f0,_,_⟩:=bF underlying3 G;obtain⟨n,f1,_,_⟩:=bF underlying3 E;simp at f0 f1;exact⟨by rw[q1,f0];rfl,by rw[q2,f1];rfl⟩
  refine⟨μ a,len,cap,(List.range len).map (λi=>(gj (Y i),gj (X i))),rfl,⟨gZ,?_⟩,λh=>by simp at h,fC⟩;by_cases Q:len=0;{exact .inl Q};obtain⟨b,off,Z⟩:=a;have hc:=(each 0 fC).1;have U:Z=ν:=by simpa[Addr.add]using dG hc
  subst U;refine .inr ⟨b,off,rfl,λj J=> ?_⟩;have T:j<len:=by simpa using J
  have V:=each j T;rw[oP,oP]at V;simpa[bP]using V
structure xt(F:Int->Option PS)(n:Nat)(S:Nat->SV)(E:Nat->List kS):Prop where
 at_:∀j<n,vm (S j).own/\F (S j).own=μ ((S j).seq,E j)
 ok:∀j<n,qq (S j).own (S j).seq (E j)=0
 all:∀k,vm k->(F k).isSome=true->∃j,j<n/\(S j).own=k
 Vm:∀i j,i<j->j<n->(S i).own<(S j).own
def acz(ts:List SV)(j:Nat)(h:j<ts.length):ts[j]? =μ (ts.getD j SV.zero):=by
 rw[aM,aB h];rfl
def Fw.lists {m:FM} {f:Int->Option SV} {F:Int->Option PS} {v:fB} {ts:List SV} (V:Fw w w' f (oG F) v ts)(M:Tie w m f F):
 ∃a cap,v=σ a ts.length cap/\xE w' a ts.length (λj=>ts.getD j SV.zero) (λj=>oG F (ts.getD j SV.zero).own)/\xt F ts.length (λj=>ts.getD j SV.zero) (λj=>oG F (ts.getD j SV.zero).own)/\ts.length<=6/\(∀j,fD v=μ j->w.heap.size<j):=by
  have Mp:∀j<ts.length,ad3 w w' f (oG F) v (ts.getD j SV.zero):=λj Z=>V.el _ (bY (acz ts j Z))
  have hat:∀j<ts.length,∃q,F (ts.getD j SV.zero).own=μ q/\q.1=(ts.getD j SV.zero).seq/\q.2=oG F (ts.getD j SV.zero).own/\qq (ts.getD j SV.zero).own q.1 q.2=0:=by
   intro j Z;have h:=Mp j Z;obtain⟨t,U,hs⟩:=h.at_;cases e:F (ts.getD j SV.zero).own with|none=>rw[M.A8 h.inr e]at U;cases U|some q=>obtain⟨t2,Y,X⟩:=M.wU h.inr e;rw[U]at Y;obtain rfl:=aL Y;exact⟨q,rfl,by rw[hs,X.seq],by unfold oG;rw[e];rfl,X.ok⟩
  have S:xt F ts.length (λj=>ts.getD j SV.zero) (λj=>oG F (ts.getD j SV.zero).own):=by
   refine⟨λj Z=> ?_,λj Z=> ?_,λk A hs=> ?_,λi j J Z=> ?_⟩;{obtain⟨q,T,Y,X,E⟩:=hat j Z;refine⟨(Mp j Z).inr,?_⟩;rw[T,<-Y,<-X]};{obtain⟨q,T,Y,X,E⟩:=hat j Z;rw[<-Y,<-X];exact E}
   ·cases e:F k with
    |none=>rw[e]at hs;cases hs
    |some q=>
     obtain⟨t,U,_⟩:=M.wU A e;obtain⟨s,hm,y⟩:=V.all k A (by rw[U];rfl);obtain⟨j,Z,G⟩:=dO hm;refine⟨j,Z,?_⟩;have:ts.getD j SV.zero=s:=by rw[aM,aB Z];exact G
     show(ts.getD j SV.zero).own=k;rw[this];exact y
   have hp:=V.Vm;have hi:i<ts.length:=fC;have:=eA.1 hp i j hi Z J;have Q:ts.getD i SV.zero=ts[i] :=by rw[aM,aB hi];rfl
   have u:ts.getD j SV.zero=ts[j] :=by rw[aM,aB Z];rfl
   show(ts.getD i SV.zero).own<(ts.getD j SV.zero).own;rw[Q,u];exact this
  have D:ts.length<=6:=by
   have:=wT (ts.map SV.own) [1,2,3,4,5,6] (by rw[dZ];exact V.Vm.imp (λh=>fC)) (λx hx=>by
    obtain⟨s,hs,rfl⟩:=bX.1 hx;obtain⟨j,Z,rfl⟩:=dO hs;have:=kD (S.ok j Z);have Q:ts.getD j SV.zero=ts[j] :=by rw[aM,aB Z];rfl
    have T:=this.1;rw[Q]at T;simp;omega)
   simpa using this
  have hO:∀j<ts.length,kc w' (ts.getD j SV.zero).a (ts.getD j SV.zero).n (oG F (ts.getD j SV.zero).own)/\mG (ts.getD j SV.zero).a (ts.getD j SV.zero).cap/\(ts.getD j SV.zero).n<=maxLen:=by
   intro j Z;have h:=Mp j Z;refine⟨h.opt,h.nil,?_⟩;have:=(kD (S.ok j Z)).2.2.1;rw[h.n];unfold maxLen;omega
  obtain⟨rfl,rfl⟩|⟨g,cap,rfl,hS,hg⟩:=V.shape;{exact⟨ν,0,rfl,⟨.inl rfl,λj Z=>by simp at Z⟩,S,D,λj Z=>by simp[fD]at Z⟩};refine⟨_,_,rfl,⟨.inr ⟨g,0,rfl,λj Z=> ?_⟩,hO⟩,S,D,λj Z=> ?_⟩;{obtain⟨c1,c2,c3⟩:=hS.cell j _ (acz ts j Z);rw[show 0+j*3=j*3 by omega];exact⟨c1,c2,c3⟩};have:g=j:=by simpa[fD]using Z
  omega
def BR.below {w w':fA} {B:Nat} {m:FM} {k:Nat} {K:Int->Option PS} {O:Nat->Int->Option PS} (h:BR w B m k K O)(Z:fP w w'):BR w' B m k K O:=by
 obtain⟨kn,ow,Y,X,V⟩:=h.ex;exact⟨⟨kn,ow,Y.below Z,X.kept (kM.jY m Z),λi hi=>(V i hi).kept (kM.jY m Z)⟩,h.Kt Z.size⟩
def alV(W:fA)(a:Option fq)(n cap:Nat)(S:Nat->SV):Prop:=(∀j,fD (σ a n cap)=μ j->W.heap.size<j)/\∀i<n,∀j,fD (σ (S i).a (S i).n (S i).cap)=μ j->W.heap.size<j
def Mq(B:Nat)(m:FM)(k:Nat)(K:Int->Option PS)(O:Nat->Int->Option PS)(w:fA)(h:BR w B m k K O):
 gb gg 110 #[π (μ ⟨B,0,ν⟩)] w λe w'=>∃a n cap S E,e=ρ (σ a n cap)/\xE w' a n S E/\xt K n S E/\n<=6/\alV w a n cap S/\fP w w':=by
  obtain⟨kn,ow,hF,Y,hO⟩:=h.ex;refine(OP B m k kn ow (oG K) w hF Y.fine).mono ?_;rintro e w1 ⟨v,ts,rfl,Z⟩;obtain⟨a,cap,rfl,X,V,U,T⟩:=Z.lists Y;refine⟨a,ts.length,cap,_,_,rfl,X,V,U,⟨T,λi hi j Q=> ?_⟩,Z.ph⟩
  have M:ts.getD i SV.zero∈ts:=by
   have:ts.getD i SV.zero=ts[i] :=by simp[List.getD,hi]
   rw[this];exact aO hi
  exact((Z.el _ M).new j Q).1
def zF(K:Int->Option PS)(i:Int):Int:=match K i with|none=>0|some _=>i
def sC(K:Int->Option PS)(i:Int):Int:=match K i with|none=>0|some q=>q.1
def Mr(B:Nat)(m:FM)(k:Nat)(K:Int->Option PS)(O:Nat->Int->Option PS)(i:Int)(w:fA)(h:BR w B m k K O)(X:vm i):
 gb gg 177 #[π (μ ⟨B,0,ν⟩),ι κ i] w λe w'=>∃a cap,e=ρ (τ #[.agg #[ι κ (zF K i),ι κ (sC K i),σ a (oG K i).length cap],.bool (K i).isSome])/\kc w' a (oG K i).length (oG K i)/\mG a cap/\(oG K i).length<=6/\fP w w':=by
  obtain⟨kn,ow,hF,M,hO⟩:=h.ex;cases e:K i with
  |none=>
   have J:=M.A8 X e;refine(QW B m k kn ow i SV.zero false [] w hF X (by rw[J];rfl) (by rw[J];rfl) ⟨rfl,.inl rfl⟩ fF (λ_=>rfl)).mono ?_;rintro Y w1 ⟨a,cap,rfl,T,S,Q⟩;have Y:oG K i=[] :=by simp[oG,e]
   have V:zF K i=0:=by simp[zF,e]
   have U:sC K i=0:=by simp[sC,e]
   rw[Y,V,U];exact⟨a,cap,rfl,T,S,gZ,Q⟩
  |some q=>
   obtain⟨s,hs,Z⟩:=M.wU X e;have G:=(kD Z.ok).2.2.1;refine(QW B m k kn ow i s true q.2 w hF X (by rw[hs];rfl) (by rw[hs];rfl) Z.opt (by rw[Z.n];omega) Z.nil).mono ?_;rintro Y w1 ⟨a,cap,rfl,T,S,Q⟩;have Y:oG K i=q.2:=by simp[oG,e]
   have V:zF K i=s.own:=by simp[zF,e,Z.own]
   have U:sC K i=s.seq:=by simp[sC,e,Z.seq]
   rw[Y,V,U];exact⟨a,cap,rfl,T,S,G,Q⟩
def SMap.obj {f:Int->Option SV} (h:SMap w b n f):∃es cl,w.heap[b]? =μ (.map es cl):=by
 obtain⟨D,⟨es,cl,Z,_⟩,_⟩:=h.own;exact⟨es,cl,Z⟩
def zG {c:Array fB} {fr:Nat×Nat} (hc:w.heap[g]? =μ (γ c t fr))(Z:∃es cl,w.heap[b]? =μ (.map es cl)):g≠b:=by
 obtain⟨es,cl,Z⟩:=Z;rintro rfl;rw[hc]at Z;cases Z
def rT {p:fq} {v:fB} (hc:w.cell? p=μ v)(Z:∃es cl,w.heap[b]? =μ (.map es cl)):p.block≠b:=by
 obtain⟨es,cl,Z⟩:=Z;rintro rfl;unfold World.cell? at hc;rw[Z]at hc;cases hc
def BR.maps {m:FM} {k:Nat} {K:Int->Option PS} {O:Nat->Int->Option PS} (h:BR w B m k K O):∀b,(b=m.bm \/b∈m.bs)->∃es cl,w.heap[b]? =μ (.map es cl):=by
 obtain⟨kn,ow,Y,_,_⟩:=h.ex;intro b Z;obtain rfl|Z:=Z;{exact Y.km.obj};obtain⟨i,hi,rfl⟩:=dO Z;exact(Y.om i _ (aB hi)).obj
def BR.mlt {m:FM} {k:Nat} {K:Int->Option PS} {O:Nat->Int->Option PS} (h:BR w B m k K O):∀b,(b=m.bm \/b∈m.bs)->b<w.heap.size:=by
 intro b Y;obtain⟨es,cl,Z⟩:=h.maps b Y;exact(aE.1 Z).1
def kM.cell {w w':fA} {B:Nat} {m:FM} {k:Nat} {K:Int->Option PS} {O:Nat->Int->Option PS} (Z:kM w w' m)(h:BR w B m k K O) {p:fq} {v:fB} (hc:w.cell? p=μ v):w'.cell? p=μ v:=by
 rw[ak (w:=w) (Z.block p.block (ai w _ hc) (rT hc (h.maps _ (.inl rfl))) (λe=>rT hc (h.maps _ (.inr e)) rfl))];exact hc
def kc.two {m:FM} {k:Nat} {K:Int->Option PS} {O:Nat->Int->Option PS} {a:Option fq} {es:List kS} (h:kc w a n es)(V:kM w w' m)(Y:BR w B m k K O):kc w' a n es:=by
 refine⟨h.1,?_⟩;obtain Z|⟨b,off,rfl,Z⟩:=h.2;{exact .inl Z};exact .inr ⟨b,off,rfl,λj X=>⟨V.cell Y (Z j X).1,V.cell Y (Z j X).2⟩⟩
structure AV where
 kind:ByteArray
 a:Int
 b:Int
 c:Int
 d:Int
 s:ByteArray
 Q7:Int
 pid:Int
 po:Option fq
 pn:Nat
 FA:Nat
 x:SV
instance:Inhabited AV:=⟨⟨ia,0,0,0,0,ia,0,0,ν,0,0,SV.zero⟩⟩
def AV.at_(v:AV)(w:fA)(b o:Nat):Prop:=
 w.cell? ⟨b,o,ν⟩=μ (.string v.kind)/\w.cell? ⟨b,o+1,ν⟩=μ (ι κ v.a)/\w.cell? ⟨b,o+2,ν⟩=μ (ι κ v.b)/\w.cell? ⟨b,o+3,ν⟩=μ (ι κ v.c)/\w.cell? ⟨b,o+4,ν⟩=μ (ι κ v.d)/\w.cell? ⟨b,o+5,ν⟩=μ (.string v.s)/\
 w.cell? ⟨b,o+6,ν⟩=μ (ι κ v.Q7)/\w.cell? ⟨b,o+7,ν⟩=μ (ι κ v.pid)/\w.cell? ⟨b,o+8,ν⟩=μ (σ v.po v.pn v.FA)/\
 w.cell? ⟨b,o+9,ν⟩=μ (ι κ v.x.own)/\w.cell? ⟨b,o+10,ν⟩=μ (ι κ v.x.seq)/\w.cell? ⟨b,o+11,ν⟩=μ (σ v.x.a v.x.n v.x.cap)
structure FC(w:fA)(a:Option fq)(n:Nat)(V:Nat->AV)(E:Nat->List kS):Prop where
 row:n=0 \/ ∃b off,a=μ ⟨b,off,ν⟩/\∀j<n,(V j).at_ w b (off+j*12)
 opt:∀j<n,kc w (V j).x.a (V j).x.n (E j)/\mG (V j).x.a (V j).x.cap/\(V j).x.n<=maxLen/\(V j).pn<=maxLen
 pk:∀j<n,∃os:List kS,kc w (V j).po (V j).pn os/\mG (V j).po (V j).FA/\(V j).pn<=(V j).FA
def AV.at_.below {v:AV} {o:Nat} (h:v.at_ w b o)(S:fP w w'):v.at_ w' b o:=by
 obtain⟨c0,c1,c2,c3,c4,X,V,U,T,c9,Z,Y⟩:=h;have l:=ai w _ c0;have k:∀i u,w.cell? ⟨b,i,ν⟩=μ u->w'.cell? ⟨b,i,ν⟩=μ u:=λi u hu=>(S.cell (p:=⟨b,i,ν⟩) l).trans hu;exact⟨k _ _ c0,k _ _ c1,k _ _ c2,k _ _ c3,k _ _ c4,k _ _ X,k _ _ V,k _ _ U,k _ _ T,k _ _ c9,k _ _ Z,k _ _ Y⟩
def FC.below {w w':fA} {a:Option fq} {n:Nat} {V:Nat->AV} {E:Nat->List kS} (h:FC w a n V E)(X:fP w w'):FC w' a n V E:=by
 refine⟨?_,λj Z=>⟨(h.opt j Z).1.below X,(h.opt j Z).2⟩,λj Z=>by obtain⟨os,o1,o2⟩:=h.pk j Z;exact⟨os,o1.below X,o2⟩⟩;obtain Y|⟨b,off,rfl,Y⟩:=h.row;{exact .inl Y};exact .inr ⟨b,off,rfl,λj Z=>(Y j Z).below X⟩
def FD {enc:fE×fB->H} {e:fE} {v:fB} {y:fX H×List gJ} (Y:gg.underlying t=μ (.slice e))
 (Z:DataW.trod enc gg W 0 (λ_=>true) true m t [v] =μ y):∃(a:Option fq) (n cap:Nat),v=σ a n cap/\n<=maxLen/\n<=cap:=by
  obtain⟨hcs,_⟩|⟨a,len,cap,m',n',D,Pl,hcs,_,hl,hm,_,_,_⟩:=dV Y Z;{simp at hcs;subst hcs;exact⟨ν,0,0,rfl,fF,aj _⟩};simp at hcs;subst hcs;exact⟨μ a,len,cap,rfl,fC,hl⟩
def S8 {enc:fE×fB->H} {a:Option fq} {d:fX H} {ps:List gJ}
 (h:DataW.Trod enc gg W 0 (λ_=>true) true 23 (σ a n cap) d ps):
 ∃(V:Nat->AV) (E:Nat->List kS),FC W a n V E/\n<=maxLen:=by
  obtain⟨fuel,hf⟩:=h;obtain⟨hcs,_⟩|⟨x,len,cp,m',n',D,Pl,hcs,_,hl,hm,Ma,_,hx⟩:=dV underlying23 hf;{simp[gG]at hcs;obtain⟨rfl,rfl,rfl⟩:=hcs;exact⟨λ_=>default,λ_=>[],⟨.inl rfl,λj Z=>fC,λj Z=>fC⟩,fF⟩};simp[gG]at hcs;obtain⟨rfl,rfl,rfl⟩:=hcs;simp at Ma;have ce:(gg).cellsOf 42=12:=iV;rw[ce]at hx
  have each:∀i<n,∃q:AV×List kS,(∀b off,x=⟨b,off,ν⟩->q.1.at_ W b (off+i*12))/\(W.cell? (x.add (i*12))).isSome=true/\kc W q.1.x.a q.1.x.n q.2/\mG q.1.x.a q.1.x.cap/\q.1.x.n<=maxLen/\q.1.pn<=maxLen/\∃os:List kS,kc W q.1.po q.1.pn os/\mG q.1.po q.1.FA/\q.1.pn<=q.1.FA:=by
   intro i hi;obtain⟨cs',h1,h2⟩:=hx i fC;obtain⟨_,Q,hcell⟩:=World.cells?_some h1;obtain⟨xs,k,hk,hxy,_,Sn,Y⟩:=dD underlying42 h2
   match xs,Sn,cs',Q with
   |[y0,y1,y2,y3,y4,y5,y6,y7],_,[v0,v1,v2,v3,v4,v5,v6,v7,v8,v9,v10,v11],_=>
    have g0:=Y 0 _ rfl;have g1:=Y 1 _ rfl;have g2:=Y 2 _ rfl;have g3:=Y 3 _ rfl;have g4:=Y 4 _ rfl;have g5:=Y 5 _ rfl;have g6:=Y 6 _ rfl;have g7:=Y 7 _ rfl;have ci:(gg).cellsOf 3=1:=iV;have G:(gg).cellsOf 9=1:=iV;have y:(gg).cellsOf 37=3:=iV;have cx3:(gg).cellsOf 40=3:=iV;have cse:(gg).cellsOf 38=1:=iV;have cso:(gg).cellsOf 35=1:=iV;simp[ci,G,y,cx3]at g0 g1 g2 g3 g4 g5 g6 g7;obtain⟨s0,f0,_,_⟩:=dY underlying9 g0;obtain⟨i1,f1,_,_⟩:=bF underlying3 g1;obtain⟨i2,f2,_,_⟩:=bF underlying3 g2;obtain⟨i3,f3,_,_⟩:=bF underlying3 g3;obtain⟨i4,f4,_,_⟩:=bF underlying3 g4;obtain⟨s5,f5,_,_⟩:=dY underlying9 g5;obtain⟨xp,kp,_,_,_,A,X⟩:=dD underlying37 g6;obtain⟨xq,kq,_,_,_,J,U⟩:=dD underlying40 g7
    match xp,A,xq,J with
    |[p0,p1,p2],_,[z0,z1,z2],_=>
     have e0:=X 0 _ rfl;have e1:=X 1 _ rfl;have e2:=X 2 _ rfl;have e3:=U 0 _ rfl;have e4:=U 1 _ rfl;have e5:=U 2 _ rfl;simp[ci,cse,cso]at e0 e1 e2 e3 e4 e5;obtain⟨i6,f6,_,_⟩:=bF underlying3 e0;obtain⟨i7,f7,_,_⟩:=bF underlying3 e1;obtain⟨pa,pn,FA,f8,hpn,hpc⟩:=FD underlying35 e2;obtain⟨i9,f9,_,_⟩:=bF underlying3 e3;obtain⟨i10,S,_,_⟩:=bF underlying3 e4;obtain⟨ea,en,ec,es,f11,eo,ez,em⟩:=OT e5;simp at f0 f1 f2 f3 f4 f5 f6 f7 f9 S;subst f0 f1 f2 f3 f4 f5 f6 f7 f8 f9 S f11;obtain⟨pos,po1,po2,_⟩:=SM (a:=pa) (n:=pn) (cap:=FA) (W:=W) ⟨_,e2⟩;have sy:=hcell 0 fC;rw[Go.Deep.add_add]at sy;refine⟨(⟨s0,i1,i2,i3,i4,s5,i6,i7,pa,pn,FA,⟨i9,i10,ea,en,ec⟩⟩,es),λb off he=> ?_,by rw[show i*12+0=i*12 by omega]at sy;rw[sy];rfl,eo,ez,em,hpn,pos,po1,po2,hpc⟩;subst he;have c:=λj (Z:j<12)=>hcell j Z;simp only[oP]at c;have r:∀j,off+i*12+j=off+(i*12)+j:=λj=>rfl;exact⟨c 0 fC,c 1 fC,c 2 fC,c 3 fC,c 4 fC,c 5 fC,c 6 fC,c 7 fC,c 8 fC,c 9 fC,c 10 fC,c 11 fC⟩
  obtain⟨q,T⟩:=Go.Deep.choose_lt each;refine⟨λi=>(q i).1,λi=>(q i).2,⟨?_,λj Z=>⟨(T j Z).2.2.1,(T j Z).2.2.2.1,(T j Z).2.2.2.2.1,(T j Z).2.2.2.2.2.1⟩,λj Z=>(T j Z).2.2.2.2.2.2⟩,fC⟩;by_cases h0:n=0;{exact .inl h0};obtain⟨b,off,M⟩:=x;obtain⟨u,hu⟩:=cK.1 (T 0 fC).2.1;have Fj:M=ν:=by simpa[Addr.add]using dG hu
  subst Fj;exact .inr ⟨b,off,rfl,λj Z=>(T j Z).1 b off rfl⟩
def Ec(c i:Int)(a:Option fq)(n cap:Nat)(w:fA):
 gb gg 65 #[.agg #[ι κ c,ι κ i,σ a n cap]] w λe w'=>e=ρ (.bool (decide ((n:Int)<=12)))/\fP w w':=by
  go_in;go_wp2;go_ret;exact⟨rfl,(aC _ _).alloc (aj _) _⟩
def Ij(a:Option fq)(n cap:Nat)(V:Nat->AV)(E:Nat->List kS)(most:Int)(w:fA)(h:FC w a n V E)(hm:most<=1000):
 gb gg 16 #[σ a n cap,ι κ most] w λe w'=>(∃b:Bool,e=ρ (.bool b)/\(b=true->(n:Int)<=most/\∀j<n,(V j).x.n<=9/\(V j).pn<=12/\(V j).s.size<=200))/\fP w w':=by
  by_cases h0:most<(n:Int);{go_in;go_wp2;go_ret;exact⟨⟨false,rfl,λh=>by cases h⟩,aC _ _⟩};go_in;go_wp2;go_loopw [5] (λi wr=>∃k:Nat,k<=n/\i=ι κ k/\(∀j<k,(V j).x.n<=9/\(V j).pn<=12/\(V j).s.size<=200)/\fP w wr) (λi _=>n-(gj i).toNat);(case atStart=>exact⟨0,aw _,rfl,λj M=>fC,aC _ _⟩);case round=>obtain⟨k,hk,rfl,hA,T⟩:=hrel;have Q:Hid _:=hA;clear hA;by_cases lZ:k<n;{have pE:(k:Int)<(n:Int):=fC;obtain⟨_,_,U,X⟩:=h.opt k lZ;obtain h1|⟨b,off,rfl,hcs⟩:=h.row;{omega};have Y:Hid (∀W,fP w W->(V k).at_ W b (off+k*12)):=λW hW=>(hcs k lZ).below hW;obtain⟨v,hv⟩:=fH (V k);rw[hv]at Y U X;have G:Hid _:=hv;obtain⟨vk,va,vb,vc,vd,vs,vpc,vpi,vpo,D,Dk,vx⟩:=v;obtain⟨xo,xq,xa,xn,xc⟩:=vx;simp only at U X;obtain⟨c0,c1,c2,c3,c4,c5,c6,c7,c8,c9,VM,Z7⟩:=Y.out wr T;simp only at c5 c6 c7 c8 Z7;have Z:=Ec vpc vpi vpo D Dk wr;unfold maxLen at U X;have J:Hid _:=T;clear hcs hv T c0 c1 c2 c3 c4 c9 VM;by_cases hs:200<(vs.size:Int);{go_wp2;go_ret;exact⟨⟨false,rfl,λh=>by cases h⟩,J.out⟩};by_cases hp:(D:Int)<=12;{rw[dS hp]at Z;go_wp2_with fail;refine Z.mono ?_;rintro e w1 ⟨rfl,k1⟩;have u:=fQ J.out k1;obtain⟨_,_,_,_,_,_,_,_,_,_,_,A⟩:=Y.out w1 u;simp only at A;have S:Hid _:=u;clear Z k1 u c5 c6 c7 c8 Z7;by_cases h9:9<(xn:Int);{go_wp2;go_ret;exact⟨⟨false,rfl,λh=>by cases h⟩,S.out⟩};go_wp2;go_roundw;(case rel=>refine⟨k+1,fC,by go_num,λj M=> ?_,S.out⟩;by_cases y:j=k;{rw[y,G.out];show xn<=9/\D<=12/\vs.size<=200;omega};exact Q.out j fC);case measure=>simp[gj];omega};rw[dJ hp]at Z;go_wp2_with fail;refine Z.mono ?_;rintro e w1 ⟨rfl,k1⟩;have S:Hid _:=fQ J.out k1;clear Z k1;go_wp2;go_ret;exact⟨⟨false,rfl,λh=>by cases h⟩,S.out⟩};have zD:¬(k:Int)<(n:Int):=fC;go_wp2;go_ret;first|exact⟨.inr ⟨rfl,λj M=>Q.out j fC⟩,T⟩|exact⟨⟨true,rfl,λ_=>⟨fC,λj M=>Q.out j fC⟩⟩,T⟩|exact⟨.inr ⟨rfl,fC,λj M=>Q.out j fC⟩,T⟩
