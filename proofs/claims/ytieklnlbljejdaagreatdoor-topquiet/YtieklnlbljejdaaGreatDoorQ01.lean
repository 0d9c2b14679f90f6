import Derived.Test.YtieklnlbljejdaaGreatDoorQ00
open Go.Value renaming int → ι, slice → σ, pointer → π, tuple → τ, nilIface → η
open Go.IntKind renaming i64 → κ
open Go.Ending renaming returned → ρ
open Go.Obj renaming cells → γ
open Option renaming none → ν, some → μ
open List renaming length_cons → eM
open Prod.mk renaming injEq → eX
open Go.Proofs.Tryz renaming prog → eU
open Go renaming World → dR, Calls → eT, Addr → dQ, Value → dT
open Go.RowKit renaming intOf → eV
open Go.Value renaming ownBlock → dV
open Go.Instr renaming mapUpdate → eY, lookup → e7
open Go.Maps renaming atKey_put_other → eZ, atKey_del_other → fa
open Go.Builtin renaming clear_ → fc
set_option maxRecDepth 100000
set_option maxHeartbeats 4000000
open Go.Proofs.Tryz
namespace Go.Proofs.YtieklnlbljejdaaGreatDoor
namespace St
variable {a b s1 s2:Int}
abbrev Ed:=Int×Int
def qB(own:Int):Int->List Ed->Nat
 |_,[] =>0
 |ah,e::r=>if e.1<1 \/6<e.1 \/e.2<1 \/20<e.2 then 1 else if e.1=own \/e.1<=ah then 3 else qB own e.1 r
def oD(own seq:Int)(es:List Ed):Nat:=if own<1 \/6<own \/seq<1 \/1000000<seq then 1 else if 6<es.length then 2 else qB own 0 es
theorem jw {own seq:Int} {es:List Ed} (h:oD own seq es=0):(1<=own/\own<=6)/\(1<=seq/\seq<=1000000)/\es.length<=6/\qB own 0 es=0:=by
 unfold oD at h;split at h
 ·simp at h
 ·split at h
  ·simp at h
  ·exact⟨dU,dU,dU,h⟩
theorem rJ(own:Int):∀(es:List Ed) (Y:Int),qB own Y es=0->∀e∈es,(1<=e.1/\e.1<=6)/\(1<=e.2/\e.2<=20)
 |[],_,_,e,Z=>by simp at Z
 |x::r,Y,h,e,Z=>by
  unfold qB at h;split at h
  ·simp at h
  ·split at h
   ·simp at h
   ·rcases aQ.1 Z with rfl|Z
    ·omega
    ·exact rJ own r _ h e Z
def u8(x:Int):UInt8:=UInt8.ofNat x.toNat
theorem oP(x:Int)(h0:0<=x)(h1:x<=255):((u8 x).toNat:Int)=x:=by
 unfold u8;rw[UInt8.toNat_ofNat_of_lt' (by show x.toNat<256;omega)];omega
def KR(es:List Ed):List UInt8:=es.flatMap λo=>[u8 o.1,u8 o.2]
theorem RB(os:List Ed)(o:Ed):KR (os++ [o])=KR os++ [u8 o.1,u8 o.2] :=by simp[KR]
theorem xB(os:List Ed):(KR os).length=2*os.length:=by
 induction os with
 |nil=>rfl
 |cons o r ih=>simp only[KR,List.flatMap_cons,List.length_append,eM,List.length_nil]at ih⊢;omega
def qC(own seq:Int)(es:List Ed):List UInt8:=u8 own::u8 (seq%256)::u8 (seq/256%256)::u8 (seq/65536)::KR es
def pairs:List UInt8->List Ed
 |k::n::r=>((k.toNat:Int),(n.toNat:Int))::pairs r
 |_=>[]
theorem yz:∀l:List UInt8,(pairs l).length=l.length/2
 |[] =>rfl
 |[_] =>by simp[pairs]
 |a::b::r=>by
  have ih:=yz r;simp only[pairs,eM,ih];omega
theorem Fp:∀(os:List Ed),(∀o∈os,(0<=o.1/\o.1<=255)/\(0<=o.2/\o.2<=255))->pairs (KR os)=os
 |[],_=>rfl
 |o::r,h=>by
  have X:KR (o::r)=u8 o.1::u8 o.2::KR r:=by simp[KR]
  obtain⟨Y,Z⟩:=h o gO;rw[X,pairs,oP o.1 Y.1 Y.2,oP o.2 Z.1 Z.2,Fp r (λx hx=>h x (by simp[hx]))]
def I1(l:List UInt8):Int:=((l.getD 1 0).toNat:Int)+256*((l.getD 2 0).toNat:Int)+65536*((l.getD 3 0).toNat:Int)
def il(l:List UInt8):Int×Int×List Ed×Nat:=
 if l.length<4 \/l.length%2=1 then(0,0,[],4)
 else if oD ((l.getD 0 0).toNat:Int) (I1 l) (pairs (l.drop 4))=0 then(((l.getD 0 0).toNat:Int),I1 l,pairs (l.drop 4),0)
 else(0,0,[],4)
theorem I2(l:List UInt8)(h:16<l.length):il l=(0,0,[],4):=by
 unfold il;split
 ·rfl
 ·rename_i h1
  have hl:6<(pairs (l.drop 4)).length:=by rw[yz];simp;omega
  split
  ·rename_i Z
   have:=(jw Z).2.2.1;omega
  ·rfl
theorem nh(own seq:Int)(es:List Ed)(hf:oD own seq es=0):il (qC own seq es)=(own,seq,es,0):=by
 obtain⟨p1,p2,p3,Z⟩:=jw hf;have V:=rJ own es 0 Z;have hl:(qC own seq es).length=4+2*es.length:=by
  unfold qC;simp only[eM,xB];omega
 have g0:(qC own seq es).getD 0 0=u8 own:=rfl;have X:(qC own seq es).drop 4=KR es:=rfl;have hs:I1 (qC own seq es)=seq:=by
  show((u8 (seq%256)).toNat:Int)+256*((u8 (seq/256%256)).toNat:Int)+65536*((u8 (seq/65536)).toNat:Int)=seq;rw[oP _ dU dU,oP _ dU dU,oP _ dU dU];omega
 unfold il;rw[g0,X,hs,oP own dU dU,Fp es (λo Y=>by have:=V o Y;omega),hl,ae dU,ag hf]
def lD(a b:Int):Int:=if a<b then-1 else if b<a then 1 else 0
def xC(a b:Ed):Int:=if lD a.1 b.1≠0 then lD a.1 b.1 else lD a.2 b.2
def lH:List Ed->List Ed->Int
 |[],[] =>0
 |[],_::_=> -1
 |_::_,[] =>1
 |a::r,b::q=>if xC a b≠0 then xC a b else lH r q
def lr(s1:Int)(e1:List Ed)(s2:Int)(e2:List Ed):Int:=if lD s1 s2≠0 then lD s1 s2 else lH e1 e2
theorem OI(a b:Int):lD a b= -lD b a:=by unfold lD;split<;>split<;>(try split)<;>omega
theorem mS:lD a b=0↔a=b:=by unfold lD;constructor<;>intro h<;>(try split at h)<;>(try split at h)<;>(try split)<;>(try split)<;>omega
theorem Lf(a b:Int):lD a b= -1 \/lD a b=0 \/lD a b=1:=by unfold lD;split<;>(try split)<;>simp
theorem tq:0<lD a b↔b<a:=by unfold lD;split<;>(try split)<;>omega
theorem pY(a b:Ed):(xC a b=1/\(b.1<a.1 \/b.1=a.1/\b.2<a.2)) \/(xC a b= -1/\(a.1<b.1 \/a.1=b.1/\a.2<b.2)) \/(xC a b=0/\a=b):=by
 obtain⟨a1,a2⟩:=a;obtain⟨b1,b2⟩:=b;simp only[xC,lD,eX]
 repeat' split
 all_goals omega
theorem OJ(a b:Ed):xC a b= -xC b a:=by
 obtain⟨a1,a2⟩:=a;obtain⟨b1,b2⟩:=b;simp only[xC,lD]
 repeat' split
 all_goals omega
theorem CN:∀a b:List Ed,lH a b= -1 \/lH a b=0 \/lH a b=1
 |[],[] =>by simp[lH]
 |[],_::_=>by simp[lH]
 |_::_,[] =>by simp[lH]
 |a::r,b::q=>by
  unfold lH;split
  ·rcases pY a b with h|h|h<;>simp[h.1]
  ·exact CN r q
theorem Fq:∀a b:List Ed,lH a b= -lH b a
 |[],[] =>by simp[lH]
 |[],_::_=>by simp[lH]
 |_::_,[] =>by simp[lH]
 |a::r,b::q=>by
  have h:=OJ a b;have ih:=Fq r q;unfold lH;split<;>split<;>omega
theorem Ft:∀ {a b:List Ed},lH a b=0↔a=b
 |[],[] =>by simp[lH]
 |[],_::_=>by simp[lH]
 |_::_,[] =>by simp[lH]
 |a::r,b::q=>by
  have ih:= @Ft r q;unfold lH;rcases pY a b with h|h|h
  ·rw[ag dU,h.1];constructor
   ·intro e;simp at e
   ·intro e;obtain⟨Z,Y⟩:=a;obtain⟨b1,b2⟩:=b;simp at e h;omega
  ·rw[ag dU,h.1];constructor
   ·intro e;simp at e
   ·intro e;obtain⟨Z,Y⟩:=a;obtain⟨b1,b2⟩:=b;simp at e h;omega
  ·rw[ae dU,ih];simp[h.2]
theorem CO:∀ {a b c:List Ed},0<=lH a b->0<=lH b c->0<=lH a c/\(0<lH a b \/0<lH b c->0<lH a c)
 |[],[],[],_,_=>by simp[lH]
 |[],[],_::_,_,h=>by simp[lH]at h
 |[],_::_,_,h,_=>by simp[lH]at h
 |_::_,[],[],_,_=>by simp[lH]
 |_::_,[],_::_,_,h=>by simp[lH]at h
 |_::_,_::_,[],_,_=>by simp[lH]
 |a::r,b::q,c::s,h1,h2=>by
  have ih:= @CO r q s;unfold lH at h1 h2⊢;rcases pY a b with⟨Y,T⟩|⟨Y,T⟩|⟨Y,rfl⟩
  ·rcases pY b c with⟨Z,X⟩|⟨Z,X⟩|⟨Z,rfl⟩
   ·rcases pY a c with⟨V,U⟩|⟨V,U⟩|⟨V,rfl⟩
    ·simp[V]
    ·omega
    ·omega
   ·simp[Z]at h2
   ·simp[Y]
  ·simp[Y]at h1
  ·rcases pY a c with⟨Z,X⟩|⟨Z,X⟩|⟨Z,rfl⟩
   ·simp[Z]
   ·simp[Z]at h2
   ·simp only[Y]at h1 h2⊢;simp at h1 h2⊢;exact ih h1 h2
theorem tr(s1 s2:Int)(Z Y:List Ed):lr s1 Z s2 Y= -lr s2 Y s1 Z:=by
 have h:=OI s1 s2;have ih:=Fq Z Y;unfold lr;split<;>split<;>omega
theorem zG {e1 e2:List Ed}:lr s1 e1 s2 e2=0↔s1=s2/\e1=e2:=by
 unfold lr;split
 ·rename_i h
  constructor
  ·intro e;exact absurd e h
  ·intro⟨e,_⟩;exact absurd (mS.2 e) h
 ·rename_i h
  have:s1=s2:=mS.1 dU;rw[Ft];simp[this]
theorem CP(s1 s2:Int)(Z Y:List Ed):lr s1 Z s2 Y= -1 \/lr s1 Z s2 Y=0 \/lr s1 Z s2 Y=1:=by
 unfold lr;split
 ·rcases Lf s1 s2 with h|h|h<;>simp[h]
 ·exact CN Z Y
theorem xD {s3:Int} {e1 e2 e3:List Ed} (Y:0<=lr s1 e1 s2 e2)(Z:0<=lr s2 e2 s3 e3):0<=lr s1 e1 s3 e3/\(0<lr s1 e1 s2 e2 \/0<lr s2 e2 s3 e3->0<lr s1 e1 s3 e3):=by
 unfold lr at Y Z⊢;by_cases a:s1=s2
 ·by_cases b:s2=s3
  ·have c:s1=s3:=a.trans b;rw[ae (by simp[mS.2 a])]at Y;rw[ae (by simp[mS.2 b])]at Z;have X:=mS.2 a;have hb:=mS.2 b;have hc:=mS.2 c;rw[ae (show¬lD s1 s2≠0 by omega),ae (show¬lD s2 s3≠0 by omega),ae (show¬lD s1 s3≠0 by omega)];exact CO Y Z
  ·have hb:lD s2 s3≠0:=λe=>b (mS.1 e);rw[ag hb]at Z;have p:s3<s2:=tq.1 dU;have q:0<lD s1 s3:=tq.2 dU;rw[ag (show lD s1 s3≠0 by omega)];exact⟨dU,λ_=>q⟩
 ·have X:lD s1 s2≠0:=λe=>a (mS.1 e);rw[ag X]at Y;have p:s2<s1:=tq.1 dU;have p2:s3<=s2:=by
   by_cases b:lD s2 s3=0
   ·have:=mS.1 b;omega
   ·rw[ag b]at Z;have:=tq.1 (show 0<lD s2 s3 by omega);omega
  have q:0<lD s1 s3:=tq.2 dU;rw[ag (show lD s1 s3≠0 by omega)];exact⟨dU,λ_=>q⟩
end St
open Go.RowKit St
variable {B b n n':Nat} {k:Int} {t:TypeId} {w w' w1:World}
theorem CQ:(eU.info? 123).map (λi=>(i.zero,i.size,i.bytes))=μ (μ (.agg #[ι κ 0,ι κ 0]),2,16):=gL
theorem oZ(w:dR):(zeroValue 40).run eU w=.ok (.agg #[ι κ 0,ι κ 0,σ ν 0 0]) w:=gL
def RC(n:Int):Bool:=decide (1<=n)&&decide (n<=6)
theorem ub(n:Int)(w:dR):eT eU 167 #[ι κ n] w λe w'=>e=ρ (.bool (RC n))/\w=w':=by
 by_cases Z:1<=n
 ·by_cases Y:n<=6
  ·have hb:RC n=true:=by simp[RC,Z,Y]
   rw[hb];clear hb
   go_in
   go_wp2
   go_ret;exact⟨by first|rfl|(simp;omega),rfl⟩
  ·have hb:RC n=false:=by simp[RC,Y]
   rw[hb];clear hb
   go_in
   go_wp2
   go_ret;exact⟨by first|rfl|(simp;omega),rfl⟩
 ·have hb:RC n=false:=by simp[RC,Z]
  rw[hb];clear hb
  go_in
  go_wp2
  go_ret;exact⟨by first|rfl|(simp;omega),rfl⟩
theorem CR(n:Int)(h0:¬n<1)(h1:¬6<n):RC n=true:=by simp[RC];omega
theorem zH(n:Int)(h:n<1 \/6<n):RC n=false:=by simp[RC];omega
theorem CS(own:Int)(a:Option dQ)(n cap:Nat)(os:List jG)(w:dR)(hn:n<=1000000)(M:iU w a n os):
 eT eU 168 #[ι κ own,σ a n cap] w λe w'=>e=ρ (jb (qB own 0 os))/\eh w w':=by
 have G:jb 0=η:=rfl;have D:jb 1=.iface 128 (ι κ 1):=rfl;have u:jb 3=.iface 128 (ι κ 3):=rfl;have H0:Hid _:=G;have Q:Hid _:=D;have J:Hid _:=u;clear G D u
 go_in
 go_wp2
 go_loopw [5,10] (λah i wr=>∃(k:Nat) (h:Int),k<=n/\ah=ι κ h/\i=ι κ k/\qB own 0 os=qB own h (os.drop k)/\eh w wr) (λ_ i _=>n-(eV i).toNat)
 case atStart=>exact⟨0,0,Nat.zero_le _,rfl,rfl,rfl,au _ _⟩
 case round=>
  obtain⟨k,h,hk,rfl,rfl,A,U⟩:=hrel;have T:Hid _:=A;clear A;by_cases ka:k<n
  ·have H:=M.below U;rcases H.2 with h0|⟨b,off,rfl,hc⟩
   ·omega
   have j:k<os.length:=by rw[M.1];exact ka
   obtain⟨c1,c2⟩:=hc k j;have V:Hid (os.drop k=os[k] ::os.drop (k+1)):=aO j;generalize os[k] =o at c1 c2 V;clear hc H;have m8:(k:Int)<(n:Int):=dU;have X:=U.alloc U.size (γ #[ι κ o.1,ι κ o.2] 123);have Y:=ub o.1 (wr.alloc (γ #[ι κ o.1,ι κ o.2] 123));have one:(o.1<1 \/6<o.1 \/o.2<1 \/20<o.2)->Hid (qB own 0 os=1):=λhh=>by
    show _=_;rw[T.out,V.out,qB,ag hh]
   by_cases r1:o.1<1 \/6<o.1
   ·have Z:=one dU;rw[zH o.1 r1]at Y;clear one;go_wp2_with(fail);refine Y.mono ?_;rintro e w1 ⟨rfl,rfl⟩;go_wp2_with(fail);rw[Z.out,Q.out];go_ret;exact⟨rfl,X⟩
   rw[CR o.1 dU dU]at Y;by_cases r2:o.2<1
   ·have Z:=one dU;clear one;go_wp2_with(fail);refine Y.mono ?_;rintro e w1 ⟨rfl,rfl⟩;go_wp2_with(fail);rw[Z.out,Q.out];go_ret;exact⟨rfl,X⟩
   by_cases r3:20<o.2
   ·have Z:=one dU;clear one;go_wp2_with(fail);refine Y.mono ?_;rintro e w1 ⟨rfl,rfl⟩;go_wp2_with(fail);rw[Z.out,Q.out];go_ret;exact⟨rfl,X⟩
   have three:(o.1=own \/o.1<=h)->Hid (qB own 0 os=3):=λhh=>by
    show _=_;rw[T.out,V.out,qB,ae dU,ag hh]
   clear one;cases y:(o.1==own)
   ·by_cases r5:o.1<=h
    ·have Z:=three (.inr r5);clear three;go_wp2_with(fail);refine Y.mono ?_;rintro e w1 ⟨rfl,rfl⟩;go_wp2_with(fail);rw[Z.out,J.out];go_ret;exact⟨rfl,X⟩
    ·have HN:Hid (qB own 0 os=qB own o.1 (os.drop (k+1))):=by
      show _=_;have r4':¬o.1=own:=by simpa using y
      rw[T.out,V.out,qB,ae dU,ae dU]
     clear three;go_wp2_with(fail);refine Y.mono ?_;rintro e w1 ⟨rfl,rfl⟩
     go_wp2
     go_roundw
     case rel=>exact⟨k+1,_,dU,rfl,by go_num,HN.out,X⟩
     case measure=>simp[eV];omega
   ·have Z:=three (.inl (by simpa using y));clear three;go_wp2_with(fail);refine Y.mono ?_;rintro e w1 ⟨rfl,rfl⟩;go_wp2_with(fail);rw[Z.out,J.out];go_ret;exact⟨rfl,X⟩
  ·have Z:Hid (qB own 0 os=0):=by
    show _=_;rw[T.out,aZ (by rw[M.1];omega),qB]
   go_wp2_with(fail);rw[Z.out,H0.out];go_ret;exact⟨rfl,U⟩
theorem xE(own seq:Int)(a:Option dQ)(n cap:Nat)(os:List jG)(w:dR)(T:n<=1000000)(U:iU w a n os):
 eT eU 117 #[.agg #[ι κ own,ι κ seq,σ a n cap]] w λe w'=>e=ρ (jb (oD own seq os))/\eh w w':=by
 have X:=gN w (γ #[ι κ own,ι κ seq,σ a n cap] 40);have V:Hid (jb 1=.iface 128 (ι κ 1)):=rfl;have Q:Hid (jb 2=.iface 128 (ι κ 2)):=rfl;have hl:=U.1;have Y:=ub own (w.alloc (γ #[ι κ own,ι κ seq,σ a n cap] 40));have one:(own<1 \/6<own \/seq<1 \/1000000<seq)->Hid (oD own seq os=1):=λhh=>by show _=_;rw[oD,ag hh]
 by_cases r1:own<1 \/6<own
 ·have Z:=one dU;rw[zH own r1]at Y;clear one
  go_in
  go_wp2_with(fail);refine Y.mono ?_;rintro e w1 ⟨rfl,rfl⟩;go_wp2_with(fail);rw[Z.out,V.out];go_ret;exact⟨rfl,X⟩
 rw[CR own dU dU]at Y;by_cases r2:seq<1
 ·have Z:=one dU;clear one
  go_in
  go_wp2_with(fail);refine Y.mono ?_;rintro e w1 ⟨rfl,rfl⟩;go_wp2_with(fail);rw[Z.out,V.out];go_ret;exact⟨rfl,X⟩
 by_cases r3:1000000<seq
 ·have Z:=one dU;clear one
  go_in
  go_wp2_with(fail);refine Y.mono ?_;rintro e w1 ⟨rfl,rfl⟩;go_wp2_with(fail);rw[Z.out,V.out];go_ret;exact⟨rfl,X⟩
 clear one;by_cases r4:(6:Int)<(n:Int)
 ·have Z:Hid (oD own seq os=2):=by show _=_;rw[oD,ae dU,ag dU]
  go_in
  go_wp2_with(fail);refine Y.mono ?_;rintro e w1 ⟨rfl,rfl⟩;go_wp2_with(fail);rw[Z.out,Q.out];go_ret;exact⟨rfl,X⟩
 ·have Z:Hid (oD own seq os=qB own 0 os):=by show _=_;rw[oD,ae dU,ae dU]
  have hc:=CS own a n cap os _ T (U.below X)
  go_in
  go_wp2_with(fail);refine Y.mono ?_;rintro e w1 ⟨rfl,rfl⟩;go_wp2_with(fail);refine hc.mono ?_;rintro e w2 ⟨rfl,k2⟩;go_wp2_with(fail);rw[Z.out];go_ret;exact⟨rfl,fY X k2⟩
theorem Y4 {x y z:dT} (hb:Below (w.alloc (γ #[x,y,z] t)).heap.size (w.alloc (γ #[x,y,z] t)) w1):
 w1.cell? ⟨w.heap.size,0,ν⟩=μ x/\w1.cell? ⟨w.heap.size,1,ν⟩=μ y/\w1.cell? ⟨w.heap.size,2,ν⟩=μ z/\w.heap.size<w1.heap.size:=by
 have Z:w.heap.size<(w.alloc (γ #[x,y,z] t)).heap.size:=gO;have hA:=λj=>aj w #[x,y,z] t (0,0) j;exact⟨(hb.cell (p:=⟨w.heap.size,0,ν⟩) Z).trans (hA 0),(hb.cell (p:=⟨w.heap.size,1,ν⟩) Z).trans (hA 1),(hb.cell (p:=⟨w.heap.size,2,ν⟩) Z).trans (hA 2),Nat.lt_of_lt_of_le Z hb.size⟩
def ahead(os:List jG)(k:Nat):Int:=if k=0 then 0 else(os.getD (k-1) (0,0)).1
theorem GX(a:Int)(w:dR):eT eU 222 #[ι κ a] w λe w'=>e=ρ (.bool false)/\w=w':=by
 have h:(a !=a)=false:=gO
 go_in
 go_wp2
 go_ret;exact⟨rfl,rfl⟩
theorem sj(a b:Int)(w:dR):eT eU 204 #[ι κ a,ι κ b] w λe w'=>e=ρ (ι κ (lD a b))/\w=w':=by
 by_cases Z:a<b
 ·have hv:lD a b= -1:=by simp[lD,Z]
  rw[hv];clear hv
  go_in
  go_wp2_with(go_at_call 222;refine(GX _ _).mono ?_;rintro e w1 ⟨rfl,rfl⟩);go_ret;exact⟨rfl,rfl⟩
 ·by_cases Y:b<a
  ·have hv:lD a b=1:=by simp[lD,Z,Y]
   rw[hv];clear hv
   go_in
   go_wp2_with(go_at_call 222;refine(GX _ _).mono ?_;rintro e w1 ⟨rfl,rfl⟩);go_ret;exact⟨rfl,rfl⟩
  ·have hv:lD a b=0:=by simp[lD,Z,Y]
   rw[hv];clear hv
   go_in
   go_wp2_with(go_at_call 222;refine(GX _ _).mono ?_;rintro e w1 ⟨rfl,rfl⟩);go_ret;exact⟨rfl,rfl⟩
theorem Y5(g cap:Nat)(x y:Int)(w:dR)(Z:w.cell? ⟨g,0,ν⟩=μ (ι κ x))(h1:w.cell? ⟨g,1,ν⟩=μ (ι κ y)):
 eT eU 215 #[σ (μ ⟨g,0,ν⟩) 2 cap] w λe w'=>e=ρ (ι κ (if x≠0 then x else y))/\w=w':=by
 have hg:g<w.heap.size:=af w _ Z;cases q:(x !=0)
 ·have hx:x=0:=by simpa using q
  cases q2:(y !=0)
  ·have hy:y=0:=by simpa using q2
   have hv:(if x≠0 then x else y)=0:=by simp[hx,hy]
   rw[hv];clear hv hx hy
   go_in
   go_wp2_with(fail);refine bV 3 ?_;rw[bK];go_wp2_with(fail);rw[bK];go_wp2_with(fail);rw[bK]
   go_wp2
   go_ret;exact⟨rfl,rfl⟩
  ·have hv:(if x≠0 then x else y)=y:=by simp[hx]
   rw[hv];clear hv hx
   go_in
   go_wp2_with(fail);refine bV 3 ?_;rw[bK];go_wp2_with(fail);rw[bK]
   go_wp2
   go_ret;exact⟨rfl,rfl⟩
 ·have hx:¬x=0:=by simpa using q
  have hv:(if x≠0 then x else y)=x:=by simp[hx]
  rw[hv];clear hv hx
  go_in
  go_wp2_with(fail);refine bV 3 ?_;rw[bK]
  go_wp2
  go_ret;exact⟨rfl,rfl⟩
theorem Nf(W:dR)(x y:dT)(t:TypeId)(g:Nat)(Z:W.heap.size=g):(W.alloc (γ #[x,y] t)).drew.cell? ⟨g,0,ν⟩=μ x/\(W.alloc (γ #[x,y] t)).drew.cell? ⟨g,1,ν⟩=μ y:=by
 subst Z;exact⟨aj W #[x,y] t (0,0) 0,aj W #[x,y] t (0,0) 1⟩
theorem RD(a b c d:Int)(w:dR):eT eU 214 #[.agg #[ι κ a,ι κ b],.agg #[ι κ c,ι κ d]] w λe w'=>e=ρ (ι κ (xC (a,b) (c,d)))/\eh w w':=by
 have U:eh w ((w.alloc (γ #[ι κ a,ι κ b] 123)).alloc (γ #[ι κ c,ι κ d] 123)):=(gN _ _).alloc gO _;obtain⟨p,J⟩:=fW (lD a c);obtain⟨q,V⟩:=fW (lD b d);have hv:xC (a,b) (c,d)=if p≠0 then p else q:=by simp[xC,J,V]
 have T:=λ(g cap:Nat) (W:dR) A Y=>Y5 g cap p q W A Y;rw[hv];generalize (if p≠0 then p else q)=r at T;have D:Hid _:=T;clear T;have Y:=λW=>sj a c W;have H:=λW=>sj b d W;rw[J]at Y;rw[V]at H;clear hv J V
 go_in
 go_wp2_with(fail);obtain⟨W0,Z⟩:=fW ((w.alloc (γ #[ι κ a,ι κ b] 123)).alloc (γ #[ι κ c,ι κ d] 123));have hs:W0.heap.size=w.heap.size+1+1:=by rw[<-Z];simp
 have x0:W0.cell? ⟨w.heap.size,0,ν⟩=μ (ι κ a):=by rw[<-Z];exact((gN _ _).cell (p:=⟨w.heap.size,0,ν⟩) gO).trans (aj w #[ι κ a,ι κ b] 123 (0,0) 0)
 have x1:W0.cell? ⟨w.heap.size,1,ν⟩=μ (ι κ b):=by rw[<-Z];exact((gN _ _).cell (p:=⟨w.heap.size,1,ν⟩) gO).trans (aj w #[ι κ a,ι κ b] 123 (0,0) 1)
 have M:W0.cell? ⟨w.heap.size+1,0,ν⟩=μ (ι κ c):=by rw[<-Z];simp
 have G:W0.cell? ⟨w.heap.size+1,1,ν⟩=μ (ι κ d):=by rw[<-Z];simp
 have j:w.heap.size<W0.heap.size:=af W0 _ x0;have y:w.heap.size+1<W0.heap.size:=af W0 _ M;rw[Z]at U⊢;have HS:Hid _:=hs;clear Z hs;obtain⟨X,Q⟩:=fW (w.heap.size);have HX:Hid _:=Q;rw[Q]at x0 x1 M G j y⊢;clear Q;have u:W0.drew.cell? ⟨X,0,ν⟩=μ (ι κ a)/\W0.drew.cell? ⟨X,1,ν⟩=μ (ι κ b)/\W0.drew.cell? ⟨X+1,0,ν⟩=μ (ι κ c)/\W0.drew.cell? ⟨X+1,1,ν⟩=μ (ι κ d):=⟨x0,x1,M,G⟩
 go_region_held3(λx=>x.cell? ⟨X,0,ν⟩=μ (ι κ a)/\x.cell? ⟨X,1,ν⟩=μ (ι κ b)/\x.cell? ⟨X+1,0,ν⟩=μ (ι κ c)/\x.cell? ⟨X+1,1,ν⟩=μ (ι κ d))
  (first|assumption|exact u|go_keep)
  (first
   |(go_at_call_of 204 a;refine(Y _).mono ?_;rintro e w1 ⟨rfl,rfl⟩)
   |(go_at_call_of 204 b;refine(H _).mono ?_;rintro e w1 ⟨rfl,rfl⟩)
   |(go_at_call 215;refine(D.out _ _ _ (Nf _ _ _ _ _ (by rfl)).1 (Nf _ _ _ _ _ (by rfl)).2).mono ?_;rintro e w1 ⟨rfl,rfl⟩))
 all_goals
  go_wp2
  go_ret;exact⟨rfl,below_drewN (U.alloc U.size _) 1⟩
theorem BI(a b:Option dQ)(n m ca h:Nat)(es fs:List jG)(w:dR)(H:iU w a n es)(hb:iU w b m fs)(hn:n<=1000000):
 eT eU 213 #[σ a n ca,σ b m h,.func (.func 214) #[] #[]] w λe w'=>e=ρ (ι κ (lH es fs))/\eh w w':=by
 have hla:=H.1;have Lg:=hb.1
 go_in
 go_wp2
 go_loopw [13] (λi wr=>∃k:Nat,k<=n/\k<=m/\i=ι κ k/\lH es fs=lH (es.drop k) (fs.drop k)/\eh w wr) (λi _=>n-(eV i).toNat)
 case atStart=>exact⟨0,Nat.zero_le _,Nat.zero_le _,rfl,rfl,au _ _⟩
 case round=>
  obtain⟨k,hk,hkm,rfl,y,X⟩:=hrel;have U:Hid _:=y;clear y;by_cases ka:k<n
  ·have m8:(k:Int)<(n:Int):=dU;rcases(H.below X).2 with j|⟨b1,o1,rfl,hA⟩
   ·omega
   obtain⟨c1,c2⟩:=hA k dU;have Y:Hid (es.drop k=es[k]'(by omega)::es.drop (k+1)):=aO dU;generalize es[k]'(by omega)=o at c1 c2 Y;clear hA;have V:=X.alloc X.size (γ #[ι κ o.1,ι κ o.2] 123);by_cases hlm:k<m
   ·have M:¬(m:Int)<=(k:Int):=dU;have alV:(k:Int)<(m:Int):=dU;rcases(hb.below V).2 with j|⟨b2,o2,rfl,G⟩
    ·omega
    obtain⟨c3,c4⟩:=G k dU;have D:Hid (fs.drop k=fs[k]'(by omega)::fs.drop (k+1)):=aO dU;generalize fs[k]'(by omega)=q at c3 c4 D;clear G;have u:=V.alloc V.size (γ #[ι κ q.1,ι κ q.2] 123);have hc:=λW=>RD o.1 o.2 q.1 q.2 W;have Z:Hid (lH es fs=if xC (o.1,o.2) (q.1,q.2)≠0 then xC (o.1,o.2) (q.1,q.2)else lH (es.drop (k+1)) (fs.drop (k+1))):=by
     show _=_;rw[U.out,Y.out,D.out,lH]
    generalize xC (o.1,o.2) (q.1,q.2)=r at hc Z;cases A:(r !=0)
    ·have Q:Hid (lH es fs=lH (es.drop (k+1)) (fs.drop (k+1))):=by
      show _=_;have T:r=0:=by simpa using A
      rw[Z.out,T];simp
     go_wp2_with(fail);refine(hc _).mono ?_;rintro e w1 ⟨rfl,k1⟩;have J:=fY u k1;clear hc
     go_wp2
     go_roundw
     case rel=>exact⟨k+1,dU,dU,by go_num,Q.out,J⟩
     case measure=>simp[eV];omega
    ·have Q:Hid (lH es fs=r):=by
      show _=_;have T:¬r=0:=by simpa using A
      rw[Z.out,ag T]
     go_wp2_with(fail);refine(hc _).mono ?_;rintro e w1 ⟨rfl,k1⟩;have J:=fY u k1;clear hc;go_wp2_with(fail);rw[Q.out];go_ret;exact⟨rfl,J⟩
   ·have M:(m:Int)<=(k:Int):=dU;have Z:Hid (lH es fs=1):=by
     show _=_;rw[U.out,Y.out,aZ (show fs.length<=k by omega),lH]
    go_wp2_with(fail);rw[Z.out];go_ret;exact⟨rfl,V⟩
  ·have yt:¬(k:Int)<(n:Int):=dU;have Y:es.drop k=[] :=aZ dU;by_cases Ng:(n:Int)<(m:Int)
   ·have Z:Hid (lH es fs= -1):=by
     show _=_;rw[U.out,Y,aO (show k<fs.length by omega),lH]
    clear Y;go_wp2_with(fail);rw[Z.out];go_ret;exact⟨rfl,X⟩
   ·have Z:Hid (lH es fs=0):=by
     show _=_;rw[U.out,Y,aZ (show fs.length<=k by omega),lH]
    clear Y;go_wp2_with(fail);rw[Z.out];go_ret;exact⟨rfl,X⟩
theorem Fu(o1 s1 o2 s2:Int)(a b:Option dQ)(n m ca T:Nat)(es fs:List jG)(w:dR)(Q:iU w a n es)(hb:iU w b m fs)(M:n<=1000000):
 eT eU 189 #[.agg #[ι κ o1,ι κ s1,σ a n ca],.agg #[ι κ o2,ι κ s2,σ b m T]] w λe w'=>e=ρ (ι κ (lr s1 es s2 fs))/\eh w w':=by
 have U:eh w ((w.alloc (γ #[ι κ o1,ι κ s1,σ a n ca] 40)).alloc (γ #[ι κ o2,ι κ s2,σ b m T] 40)):=(gN _ _).alloc gO _;have Z:=sj s1 s2 ((w.alloc (γ #[ι κ o1,ι κ s1,σ a n ca] 40)).alloc (γ #[ι κ o2,ι κ s2,σ b m T] 40));have X:=BI a b n m ca T es fs _ (Q.below U) (hb.below U) M;have hv:lr s1 es s2 fs=if lD s1 s2≠0 then lD s1 s2 else lH es fs:=rfl
 rw[hv];clear hv;generalize lH es fs=q at X;generalize lD s1 s2=r at Z;cases V:(r !=0)
 ·have Y:(if r≠0 then r else q)=q:=by simp at V;simp[V]
  rw[Y];clear Y
  go_in
  go_wp2_with(fail);refine Z.mono ?_;rintro e w1 ⟨rfl,rfl⟩;clear Z;go_wp2_with(fail);refine X.mono ?_;rintro e w2 ⟨rfl,k2⟩;clear X
  go_wp2
  go_ret;exact⟨rfl,fY U k2⟩
 ·have Y:(if r≠0 then r else q)=r:=by simp at V;simp[V]
  rw[Y];clear Y X
  go_in
  go_wp2_with(fail);refine Z.mono ?_;rintro e w1 ⟨rfl,rfl⟩;clear Z
  go_wp2
  go_ret;exact⟨rfl,U⟩
theorem I3(a:dQ)(n cap:Nat)(w:dR):(binOp .eql 38 (σ (μ a) n cap) (σ ν 0 0)).run eU w=.ok (.bool false) w:=gL
theorem VH(w:dR):(binOp .eql 38 (σ ν 0 0) (σ ν 0 0)).run eU w=.ok (.bool true) w:=gL
theorem AL(a:dQ)(cap:Nat)(w:dR):
 eT eU 206 #[σ (μ a) 0 cap] w λe w'=>∃(v:dT),e=ρ v/\Made w w' v [] :=by
 have hq:=I3
 go_in
 go_wp2
 go_ret;exact⟨_,rfl,⟨Row.made w 2 _ #[] (0,0) 0 0 [] rfl rfl (Nat.le_refl _) dX (.inl rfl) gO,λj Z=>kj (Nat.le_refl _) Z,gN _ _⟩⟩
theorem Li(w:dR):
 eT eU 206 #[σ ν 0 0] w λe w'=>∃(v:dT),e=ρ v/\Made w w' v [] :=by
 have hq:=VH
 go_in
 go_wp2
 go_ret;exact⟨_,rfl,⟨Row.nil w 2,λj Z=>mP Z,au _ _⟩⟩
theorem I4(b off n cap:Nat)(os:List jG)(w:dR)(hn:n<=1000000)(Y:0<n)(X:iU w (μ ⟨b,off,ν⟩) n os):
 eT eU 206 #[σ (μ ⟨b,off,ν⟩) n cap] w λe w'=>∃(v:dT),e=ρ v/\Made w w' v os:=by
 obtain⟨i0,hi,H,M,G⟩:=aY CQ;have hq:=I3;have V:eh w (w.alloc (γ #[] 123)):=gN _ _;have hl:=X.1;have D:Row (w.alloc (γ #[] 123)) 2 (σ (μ ⟨w.heap.size,0,ν⟩) 0 0) 0 [] :=Row.made w 2 _ #[] (0,0) 0 0 [] rfl rfl (Nat.le_refl _) dX (.inl rfl) gO
 go_in
 go_wp2_with(at_builtin;go_must(refine iB _ rfl (.tmp 5) (.tmp 6) 38 rfl 123 i0 (.agg #[ι κ 0,ι κ 0]) 2 16 underlying38 hi H M G rfl dX (σ (μ ⟨w.heap.size,0,ν⟩) 0 0) 0 [] rfl D _ n cap (iO os) rfl (by rw[lz];omega) Y ((X.below V).cells Y) (IL _) (by unfold maxLen;omega) dU ?_));intro g1 BG w1 J T U;have A:=lA V T (λj Z=>kj (Nat.le_refl _) Z);have Q:=nt (B:=w.heap.size) U dU (λj Z=>kj (Nat.le_refl _) Z);clear T U
 go_wp2
 go_ret;refine⟨_,rfl,⟨?_,λj Z=>kj Q Z,A⟩⟩;rw[hl];exact J
theorem Lj(a:Option dQ)(n cap:Nat)(os:List jG)(w:dR)(T:n<=1000000)(U:kt a cap)(Z:iU w a n os):
 eT eU 206 #[σ a n cap] w λe w'=>∃(v:dT),e=ρ v/\Made w w' v os:=by
 rcases Z.2 with X|⟨b,off,rfl,hc⟩
 ·subst X;have Y:os=[] :=aH Z.1;subst Y;cases a with
  |none=>
   obtain rfl:=U rfl;exact Li w
  |some a=>exact AL a cap w
 ·by_cases V:0<n
  ·exact I4 b off n cap os w T V Z
  ·have X:n=0:=dU;subst X;have Y:os=[] :=aH Z.1;subst Y;exact AL _ cap w
structure RE(w w':dR)(e:Ending)(own seq:Int)(os:List jG):Prop where
 out:∃(a:Option dQ) (cap:Nat),e=ρ (.agg #[ι κ own,ι κ seq,σ a os.length cap])/\iU w' a os.length os/\kt a cap/\os.length<=cap/\(∀j,dV (σ a os.length cap)=μ j->w.heap.size<=j/\j<w'.heap.size)
 below:eh w w'
theorem CU(own seq:Int)(a:Option dQ)(n cap:Nat)(os:List jG)(w:dR)(hn:n<=1000000)(j5:kt a cap)(ho:iU w a n os):
 eT eU 169 #[.agg #[ι κ own,ι κ seq,σ a n cap]] w λe w'=>RE w w' e own seq os:=by
 have hz:=oZ;have J:eh w ((w.alloc (γ #[ι κ own,ι κ seq,σ a n cap] 40)).alloc (γ #[ι κ 0,ι κ 0,σ ν 0 0] 40)):=(gN _ _).alloc gO _;obtain⟨W0,Q⟩:=fW ((w.alloc (γ #[ι κ own,ι κ seq,σ a n cap] 40)).alloc (γ #[ι κ 0,ι κ 0,σ ν 0 0] 40));have H:W0.heap[w.heap.size]? =μ (γ #[ι κ own,ι κ seq,σ a n cap] 40 (0,0)):=by
  rw[<-Q,aT _ _ _ gO];exact aW w _
 have Y:W0.heap[w.heap.size+1]? =μ (γ #[ι κ 0,ι κ 0,σ ν 0 0] 40 (0,0)):=by
  have h:=aW (w.alloc (γ #[ι κ own,ι κ seq,σ a n cap] 40)) (γ #[ι κ 0,ι κ 0,σ ν 0 0] 40);rw[Q]at h;simpa using h
 rw[Q]at J;have G:=Lj a n cap os W0 hn j5 (ho.below J);have HW:Hid _:=Q;clear Q
 go_in
 go_wp2_with(fail);rw[HW.out];refine G.mono ?_;rintro e w1 ⟨v,rfl,V⟩;clear G;obtain⟨T,vc,rfl,vn,vl⟩:=V.shape;have k1:=V.below;have U:=(k1.block _ (aw.1 H).1).trans H;have Z:=(k1.block _ (aw.1 Y).1).trans Y;have x0:w1.cell? ⟨w.heap.size,0,ν⟩=μ (ι κ own):=ax w1 _ 0 _ _ (0,0) U;have x1:w1.cell? ⟨w.heap.size,1,ν⟩=μ (ι κ seq):=ax w1 _ 1 _ _ (0,0) U;have x2:w1.cell? ⟨w.heap.size,2,ν⟩=μ (σ a n cap):=ax w1 _ 2 _ _ (0,0) U;have y0:w1.cell? ⟨w.heap.size+1,0,ν⟩=μ (ι κ 0):=ax w1 _ 0 _ _ (0,0) Z;have y1:w1.cell? ⟨w.heap.size+1,1,ν⟩=μ (ι κ 0):=ax w1 _ 1 _ _ (0,0) Z;have y2:w1.cell? ⟨w.heap.size+1,2,ν⟩=μ (σ ν 0 0):=ax w1 _ 2 _ _ (0,0) Z;have fx:=λj=>bu w1 w.heap.size j _ _ U;have fy:=λj=>bu w1 (w.heap.size+1) j _ _ Z;have lx:w.heap.size<w1.heap.size:=af w1 _ x0;have ly:w.heap.size+1<w1.heap.size:=af w1 _ y0;have hk:=fY J k1;have M:∀j,dV (σ T os.length vc)=μ j->w.heap.size+2<=j:=λj X=>by
  have h1:=V.new j X;have h2:w.heap.size+1<W0.heap.size:=(aw.1 Y).1;omega
 have ka:∀j,dV (σ T os.length vc)=μ j->j<w1.heap.size:=V.row.lt;have D:=V.opts.2;have HC:Hid (∀u v x y:dT,RE w ((((w1.setCell ⟨w.heap.size,2,ν⟩ u).setCell ⟨w.heap.size+1,0,ν⟩ v).setCell ⟨w.heap.size+1,1,ν⟩ x).setCell ⟨w.heap.size+1,2,ν⟩ y) (ρ (.agg #[ι κ own,ι κ seq,σ T os.length vc])) own seq os):=by
  intro u v x y;refine⟨⟨T,vc,rfl,?_,vn,vl,λj X=>⟨by have:=M j X;omega,by simpa using ka j X⟩⟩,(((hk.setCell (Nat.le_refl _) _).setCell (by show _<=w.heap.size+1;omega) _).setCell (by show _<=w.heap.size+1;omega) _).setCell (by show _<=w.heap.size+1;omega) _⟩;refine⟨rfl,?_⟩;rcases D.2 with h0|⟨b,off,rfl,hc⟩
  ·exact .inl h0
  ·refine .inr ⟨b,off,rfl,λj X=> ?_⟩;have hb:w.heap.size+2<=b:=M b rfl;have A:∀o,((((w1.setCell ⟨w.heap.size,2,ν⟩ u).setCell ⟨w.heap.size+1,0,ν⟩ v).setCell ⟨w.heap.size+1,1,ν⟩ x).setCell ⟨w.heap.size+1,2,ν⟩ y).cell? ⟨b,o,ν⟩=w1.cell? ⟨b,o,ν⟩:=λo=>by
    apply ai;rw[aq _ _ _ _ (by show b≠w.heap.size+1;omega),aq _ _ _ _ (by show b≠w.heap.size+1;omega),aq _ _ _ _ (by show b≠w.heap.size+1;omega),aq _ _ _ _ (by show b≠w.heap.size;omega)]
   rw[A,A];exact hc j X
 clear V k1 U Z M ka D hk H Y;go_wp2_with(fail);refine aE (v:=.agg #[ι κ own,ι κ seq,σ T os.length vc]) (by simp[results,results169,go_sem,y0,y1,y2]) rfl ?_;exact HC.out _ _ _ _
theorem RF {x0 x1 x2 y0 y1 y2:dT} (hb:Below ((w.alloc (γ #[x0,x1,x2] t)).alloc (γ #[y0,y1,y2] t)).heap.size ((w.alloc (γ #[x0,x1,x2] t)).alloc (γ #[y0,y1,y2] t)) w1):
 (w1.cell? ⟨w.heap.size,2,ν⟩=μ x2/\w.heap.size<w1.heap.size)/\(w1.cell? ⟨w.heap.size+1,2,ν⟩=μ y2/\w.heap.size+1<w1.heap.size):=by
 have Z:=Y4 hb;have X:(w.alloc (γ #[x0,x1,x2] t)).heap.size=w.heap.size+1:=gO;rw[X]at Z;have Y:=Y4 (w1:=w1) (fY (gN _ _) hb);exact⟨⟨Y.2.2.1,Y.2.2.2⟩,⟨Z.2.2.1,Z.2.2.2⟩⟩
theorem EK(o1 s1 o2 s2:Int)(a b:Option dQ)(n m ca G:Nat)(es fs:List jG)(w:dR)(u:iU w a n es)(hb:iU w b m fs)(hn:n<=1000000)(hm:m<=1000000):
 eT eU 51 #[.agg #[ι κ o1,ι κ s1,σ a n ca],.agg #[ι κ o2,ι κ s2,σ b m G]] w λe w'=>e=ρ (.bool (decide (o1=o2/\s1=s2/\es=fs)))/\eh w w':=by
 have D:=u.1;have Lg:=hb.1;have Y:eh w ((w.alloc (γ #[ι κ o1,ι κ s1,σ a n ca] 40)).alloc (γ #[ι κ o2,ι κ s2,σ b m G] 40)):=(gN _ _).alloc gO _;cases q1:(o1 !=o2)
 ·have U:o1=o2:=by simpa using q1
  cases q2:(s1 !=s2)
  ·have M:s1=s2:=by simpa using q2
   by_cases A:n=m
   ·subst A;have H:((n:Int) !=(n:Int))=false:=gO;have Z:decide (o1=o2/\s1=s2/\es=fs)=decide (es=fs):=by simp[U,M]
    rw[Z];clear Z U M
    go_in
    go_wp2_with(fail);obtain⟨W0,J⟩:=fW ((w.alloc (γ #[ι κ o1,ι κ s1,σ a n ca] 40)).alloc (γ #[ι κ o2,ι κ s2,σ b n G] 40));have qp:=RF (w1:=W0) (by rw[<-J];exact au _ _);obtain⟨⟨x2,xl⟩,⟨y2,yl⟩⟩:=qp;rw[J]at Y⊢;clear J
    go_loopw [5] (λi wr=>∃k j:Nat,k<=n/\i=ι κ k/\es.take k=fs.take k/\wr=W0.drewN j) (λi _=>n-(eV i).toNat)
    case atStart=>exact⟨0,0,Nat.zero_le _,rfl,rfl,rfl⟩
    case round=>
     obtain⟨k,j,hk,rfl,y,rfl⟩:=hrel;have HT:Hid _:=y;clear y;by_cases ka:k<n
     ·rcases(u.below Y).2 with h0|⟨b1,f1,rfl,hA⟩
      ·omega
      rcases(hb.below Y).2 with h0|⟨b2,f2,rfl,hB⟩
      ·omega
      obtain⟨c1,c2⟩:=hA k dU;obtain⟨c3,c4⟩:=hB k dU;have H1:Hid (es.take (k+1)=es.take k++ [es[k]'(by omega)]):=ay dU;have H2:Hid (fs.take (k+1)=fs.take k++ [fs[k]'(by omega)]):=ay dU;have X:Hid (es=fs->es[k]'(by omega)=fs[k]'(by omega)):=λh=>by subst h;rfl
      clear hA hB;generalize es[k]'(by omega)=o at c1 c2 H1 X;generalize fs[k]'(by omega)=q at c3 c4 H2 X;have m8:(k:Int)<(n:Int):=dU;cases T:(o.1==q.1)
      ·have Q:Hid (decide (es=fs)=false):=by
        show _=_;rw[a7];intro h;have:=X.out h;rw[this]at T;simp at T
       go_wp2
       go_quiet(fail)
       go_wp2_with(fail);rw[Q.out];go_ret;exact⟨rfl,below_drewN (below_drewN Y _) _⟩
      ·cases V:(o.2==q.2)
       ·have Q:Hid (decide (es=fs)=false):=by
         show _=_;rw[a7];intro h;have:=X.out h;rw[this]at V;simp at V
        go_wp2
        go_quiet(fail)
        go_wp2_with(fail);rw[Q.out];go_ret;exact⟨rfl,below_drewN (below_drewN Y _) _⟩
       ·have HE:Hid (es.take (k+1)=fs.take (k+1)):=by
         show _=_;rw[H1.out,H2.out,HT.out];simp at T V;congr 2;exact aR T V
        go_wp2
        go_quiet(fail)
        go_wp2
        go_roundw
        case rel=>exact⟨k+1,_,dU,by go_num,HE.out,rfl⟩
        case measure=>simp[eV];omega
     ·have sL:decide (es=fs)=true:=by
       have h1:es.take k=es:=aG dU;have h2:fs.take k=fs:=aG dU;have:=HT.out;rw[h1,h2]at this;simp[this]
      have yt:¬(k:Int)<(n:Int):=dU
      go_wp2
      go_ret;exact⟨rfl,below_drewN Y _⟩
   ·have H:((n:Int) !=(m:Int))=true:=by rw[dM];omega
    have Z:decide (o1=o2/\s1=s2/\es=fs)=false:=by
     rw[a7];rintro⟨_,_,h⟩;exact A (by rw[<-D,<-Lg,h])
    rw[Z];clear Z U M
    go_in
    go_wp2
    go_ret;exact⟨rfl,Y⟩
  ·have Z:decide (o1=o2/\s1=s2/\es=fs)=false:=by
    rw[a7];rintro⟨_,h,_⟩;simp[h]at q2
   rw[Z];clear Z U
   go_in
   go_wp2
   go_ret;exact⟨rfl,Y⟩
 ·have Z:decide (o1=o2/\s1=s2/\es=fs)=false:=by
   rw[a7];rintro⟨h,_⟩;simp[h]at q1
  rw[Z];clear Z
  go_in
  go_wp2
  go_ret;exact⟨rfl,Y⟩
open Go.Maps (Keyed)
open Go.ChangeMaps Go.MapKept
open Go.WideElems (Fit)
structure SV where
 own:Int
 seq:Int
 a:Option dQ
 n:Nat
 cap:Nat
def SV.v(s:SV):dT:=.agg #[ι κ s.own,ι κ s.seq,σ s.a s.n s.cap]
def SV.zero:SV:=⟨0,0,ν,0,0⟩
def Y7:dT->Option SV
 | .agg cs=>(match cs.toList with
   |[.int .i64 o,.int .i64 q,.slice a n c] =>some ⟨o,q,a,n,c⟩
   |_=>none)
 |_=>none
theorem RG {v:dT} {s:SV} (h:Y7 v=μ s):v=s.v:=by
 unfold Y7 at h;split at h
 ·rename_i cs
  split at h
  ·rename_i o q a n c e
   obtain rfl:=Option.some.inj h;have:cs= #[ι κ o,ι κ q,σ a n c] :=by
    apply dt.1;simpa using e
   rw[this];rfl
  ·cases h
 ·cases h
def su(v:dT):Option (DataW SV×List MemPlace):=(Y7 v).map λs=>(.held s,[])
theorem yA(s:SV):su s.v=μ (.held s,[]):=rfl
theorem wv {v:dT} {y:DataW SV×List MemPlace} (h:su v=μ y):∃s,v=s.v/\y=(.held s,[]):=by
 unfold su at h;obtain⟨s,hs,rfl⟩:=Option.map_eq_some_iff.1 h;exact⟨s,RG hs,rfl⟩
theorem uf:Keyed eU 3:=Go.Maps.int_keyed underlying3
theorem I5(w:dR):(zeroValue 40).run eU w=.ok SV.zero.v w:=gL
def sv(k:Int):Prop:= -9223372036854775808<=k/\k<=9223372036854775807
theorem CV(h:sv k):keyOf eU 3 (.int .i64 k)=μ (.int .i64 k):=by
 refine Go.Maps.keyOf_int_mk underlying3 ?_;exact WalkArith.wf_i64 (by obtain⟨h1,h2⟩:=h;omega)
structure SMap(w:dR)(b n:Nat)(f:Int->Option SV):Prop where
 own:∃D:DataW SV,w.ownsMap eU 3 su b n D/\∀k,sv k->match f k with
  |none=>∀z,D.atKey (.int .i64 k) z=z
  |some s=>∀z,D.atKey (.int .i64 k) z=.held s
theorem SMap.made(w:dR):SMap (w.alloc (.map #[] 0)) w.heap.size 0 (λ_=>ν):=
 ⟨⟨.map [],World.ownsMap_made w _ _ _,λ_ _ _=>rfl⟩⟩
theorem SMap.lt {w:dR} {b n:Nat} {f:Int->Option SV} (h:SMap w b n f):b<w.heap.size:=by obtain⟨D,Z,_⟩:=h.own;exact Z.lt
theorem SMap.mono {w:dR} {b n m:Nat} {f:Int->Option SV} (h:SMap w b n f)(X:n<=m):SMap w b m f:=by obtain⟨D,Y,Z⟩:=h.own;exact⟨⟨D,Y.mono X,Z⟩⟩
theorem SMap.kept {w w':dR} {b n:Nat} {f:Int->Option SV} {row:Option Nat} (h:SMap w b n f)(V:w.grownBy w' row)(X:μ b≠row):SMap w' b n f:=by obtain⟨D,Y,Z⟩:=h.own;exact⟨⟨D,Y.kept V X,Z⟩⟩
theorem SMap.keep {f:Int->Option SV} (h:SMap w b n f)(hb:w'.heap[b]? =w.heap[b]?):SMap w' b n f:=by
 obtain⟨D,⟨es,clock,Y,X⟩,Z⟩:=h.own;exact⟨⟨D,⟨es,clock,hb.trans Y,X⟩,Z⟩⟩
theorem SMap.below {f:Int->Option SV} (h:SMap w b n f)(hb:eh w w'):SMap w' b n f:=h.keep (hb.block b h.lt)
theorem SMap.drew {w:dR} {b n:Nat} {f:Int->Option SV} (h:SMap w b n f):SMap w.drew b n f:=h.keep rfl
theorem SMap.alloc {w:dR} {b n:Nat} {f:Int->Option SV} (h:SMap w b n f)(o:Obj):SMap (w.alloc o) b n f:=h.below (gN _ _)
theorem GY {x:Int} (h:x≠k):(Lit.int .i64 x)≠ .int .i64 k:=λe=>h (by simpa using e)
theorem VI(k:Int)(h:sv k):WideAt.IsKeyLit (.int .i64 k):=uf.key (CV h)
theorem SMap.store {w:dR} {b n:Nat} {f:Int->Option SV} (h:SMap w b n f)(Q:n<maxLen)(k:Int)(Y:sv k)(s:SV):
 ∃w',(eY 211 (.map (μ b)) (ι κ k) s.v).run eU w=.ok () w'/\SMap w' b (n+1) (λx=>if x=k then μ s else f x)/\w.mapTurned w' b:=by
 obtain⟨D,Z,X⟩:=h.own;obtain⟨w',V,U,T⟩:=Z.store uf underlying211 Q (CV Y) (yA s);refine⟨w',V,⟨⟨_,U,λx hx=> ?_⟩⟩,T⟩;have M:=Z.isMap;by_cases e:x=k
 ·subst e;simp only[if_true];exact λz=>Maps.atKey_put_same M (VI x Y) _ z
 ·rw[ae e];have:=X x hx;cases hf:f x with
  |none=>rw[hf]at this;exact λz=>(eZ (GY e) _ z).trans (this z)
  |some s'=>rw[hf]at this;exact λz=>(eZ (GY e) _ z).trans (this z)
theorem SMap.look {f:Int->Option SV} (h:SMap w b n f)(k:Int)(Z:sv k):
 (e7 211 (.map (μ b)) (ι κ k) false).run eU w=.ok ((f k).getD SV.zero).v w:=by
 obtain⟨D,V,Y⟩:=h.own;obtain⟨v,ps,X,hv⟩:=V.lookup uf underlying211 (I5 w) (yA SV.zero) (CV Z);rw[X];obtain⟨s,rfl,e⟩:=wv hv;have hx:=Y k Z;simp only[eX]at e;cases hf:f k with
 |none=>
  rw[hf]at hx;rw[hx]at e;have:SV.zero=s:=by simpa using e.1
  rw[<-this];rfl
 |some s'=>
  rw[hf]at hx;rw[hx]at e;have:s'=s:=by simpa using e.1
  rw[this];rfl
theorem SMap.look_ok {w:dR} {b n:Nat} {f:Int->Option SV} (h:SMap w b n f)(k:Int)(Z:sv k):
 (e7 211 (.map (μ b)) (ι κ k) true).run eU w=.ok (τ #[((f k).getD SV.zero).v,.bool (f k).isSome]) w:=by
 obtain⟨D,V,Y⟩:=h.own;obtain⟨v,ps,X,hv⟩:=V.look_ok uf underlying211 (I5 w) (yA SV.zero) (CV Z);rw[X];obtain⟨s,rfl,e⟩:=wv hv;have hx:=Y k Z;simp only[eX]at e;cases hf:f k with
 |none=>
  rw[hf]at hx;rw[hx]at e;have:SV.zero=s:=by simpa using e.1
  rw[<-this,dy hx];rfl
 |some s'=>
  rw[hf]at hx;rw[hx]at e;have:s'=s:=by simpa using e.1
  rw[this,dD hx];rfl
theorem SMap.drop {w:dR} {b n:Nat} {f:Int->Option SV} (h:SMap w b n f)(k:Int)(U:sv k)(ty:TypeId):
 ∃w',(Builtin.delete_ #[211,3] ty #[.map (μ b),ι κ k]).run eU w=.ok (τ #[]) w'/\SMap w' b n (λx=>if x=k then ν else f x)/\w.mapTurned w' b:=by
 obtain⟨D,V,Z⟩:=h.own;obtain⟨w',Y,X,T⟩:=V.drop uf underlying211 (CV U) ty;refine⟨w',Y,⟨⟨_,X,λx hx=> ?_⟩⟩,T⟩;by_cases e:x=k
 ·subst e;simp only[if_true];exact λz=>Maps.atKey_del_same z
 ·rw[ae e];have:=Z x hx;cases hf:f x with
  |none=>rw[hf]at this;exact λz=>(fa (GY e) z).trans (this z)
  |some s'=>rw[hf]at this;exact λz=>(fa (GY e) z).trans (this z)
theorem SMap.clear {f:Int->Option SV} (h:SMap w b n f)(ty:TypeId):
 ∃w',(fc #[211] ty #[.map (μ b)]).run eU w=.ok (τ #[]) w'/\SMap w' b n (λ_=>ν)/\w.mapTurned w' b:=by
 obtain⟨D,⟨es,clock,hb,F,hs,hD⟩,h2⟩:=h.own;refine⟨setBlock w b (.map #[] clock),?_,⟨⟨.map [],⟨#[],clock,heap_setBlock_same hb _,⟨gO,?_,gO⟩,gO,rfl⟩,λ_ _ _=>rfl⟩⟩,⟨es,clock,#[],clock,hb,rfl⟩⟩
 ·simp[fc,run_underlying underlying211,MapKept.run_getObj_map hb,MapKept.run_setObj_map _ hb,Result.andThen,setBlock]
 ·exact stamped_empty clock
open Go.ChangeShapes Go.WideShapes Go.ChangeAt
theorem zI(own seq:Int)(a:Option dQ)(n cap:Nat)(os:List jG)(w:dR)(T:n<=maxLen)(U:iU w a n os):
 eT eU 117 #[.agg #[ι κ own,ι κ seq,σ a n cap]] w λe w'=>e=ρ (jb (oD own seq os))/\eh w w':=by
 by_cases h6:n<=6
 ·exact xE own seq a n cap os w dU U
 unfold maxLen at T;have X:=gN w (γ #[ι κ own,ι κ seq,σ a n cap] 40);have V:Hid (jb 1=.iface 128 (ι κ 1)):=rfl;have Q:Hid (jb 2=.iface 128 (ι κ 2)):=rfl;have hl:=U.1;have Y:=ub own (w.alloc (γ #[ι κ own,ι κ seq,σ a n cap] 40));have one:(own<1 \/6<own \/seq<1 \/1000000<seq)->Hid (oD own seq os=1):=λhh=>by show _=_;rw[oD,ag hh]
 by_cases r1:own<1 \/6<own
 ·have Z:=one dU;rw[zH own r1]at Y;clear one
  go_in
  go_wp2_with(fail);refine Y.mono ?_;rintro e w1 ⟨rfl,rfl⟩;go_wp2_with(fail);rw[Z.out,V.out];go_ret;exact⟨rfl,X⟩
 rw[CR own dU dU]at Y;by_cases r2:seq<1
 ·have Z:=one dU;clear one
  go_in
  go_wp2_with(fail);refine Y.mono ?_;rintro e w1 ⟨rfl,rfl⟩;go_wp2_with(fail);rw[Z.out,V.out];go_ret;exact⟨rfl,X⟩
 by_cases r3:1000000<seq
 ·have Z:=one dU;clear one
  go_in
  go_wp2_with(fail);refine Y.mono ?_;rintro e w1 ⟨rfl,rfl⟩;go_wp2_with(fail);rw[Z.out,V.out];go_ret;exact⟨rfl,X⟩
 clear one;have r4:(6:Int)<(n:Int):=dU;have Z:Hid (oD own seq os=2):=by show _=_;rw[oD,ae dU,ag dU]
 go_in
 go_wp2_with(fail);refine Y.mono ?_;rintro e w1 ⟨rfl,rfl⟩;go_wp2_with(fail);rw[Z.out,Q.out];go_ret;exact⟨rfl,X⟩
structure FM where
 bm:Nat
 g:Nat
 cap:Nat
 bs:List Nat
 no:Nat->Prop:=λ_=>False
def FM.sl(m:FM):dT:=σ (μ ⟨m.g,0,ν⟩) m.bs.length m.cap
def FM.row(m:FM):List dT:=m.bs.map λb=>Value.map (μ b)
structure FB(w:dR)(B:Nat)(m:FM)(n:Nat)(kn:Int->Option SV)(ow:Nat->Int->Option SV):Prop where
 nN:w.heap[B]? =μ (γ #[.map (μ m.bm),m.sl] 214 (0,0))
 row:Row w 1 m.sl m.bs.length m.row
 km:SMap w m.bm n kn
 om:∀i b,m.bs[i]? =μ b->SMap w b n (ow i)
 few:m.bs.length<=3
 nB:m.bm≠B/\m.g≠B/\m.bm≠m.g/\(∀b∈m.bs,b≠B/\b≠m.g/\b≠m.bm)
 nd:m.bs.Nodup
theorem FB.lt {m:FM} {kn:Int->Option SV} {ow:Nat->Int->Option SV} (h:FB w B m n kn ow):B<w.heap.size:=(aw.1 h.nN).1
theorem FB.c0 {m:FM} {kn:Int->Option SV} {ow:Nat->Int->Option SV} (h:FB w B m n kn ow):w.cell? ⟨B,0,ν⟩=μ (.map (μ m.bm)):=ax w B 0 _ _ (0,0) h.nN
theorem FB.c1 {m:FM} {kn:Int->Option SV} {ow:Nat->Int->Option SV} (h:FB w B m n kn ow):w.cell? ⟨B,1,ν⟩=μ m.sl:=ax w B 1 _ _ (0,0) h.nN
theorem FB.below {w w':dR} {B:Nat} {m:FM} {n:Nat} {kn:Int->Option SV} {ow:Nat->Int->Option SV} (h:FB w B m n kn ow)(hb:eh w w'):FB w' B m n kn ow:=
 ⟨(hb.block B h.lt).trans h.nN,h.row.below hb,h.km.below hb,λi b e=>(h.om i b e).below hb,h.few,h.nB,h.nd⟩
theorem FB.port {m:FM} {kn:Int->Option SV} {ow:Nat->Int->Option SV} (h:FB w B m n kn ow)(i:Nat)(b:Nat)(e:m.bs[i]? =μ b):w.cell? ⟨m.g,i,ν⟩=μ (.map (μ b)):=by
 refine Row.cell h.row i _ ?_;unfold FM.row;rw[bU,e];rfl
theorem Cd(B:Nat)(m:FM)(n:Nat)(kn:Int->Option SV)(ow:Nat->Int->Option SV)(port:Int)(w:dR)(h:FB w B m n kn ow):
 eT eU 176 #[π (μ ⟨B,0,ν⟩),ι κ port] w λe w'=>e=ρ (.bool (decide (0<=port)&&decide (port<(m.bs.length:Int))))/\w=w':=by
 have hl:=h.lt;have c1:w.cell? ⟨B,1,ν⟩=μ (σ (μ ⟨m.g,0,ν⟩) m.bs.length m.cap):=h.c1;have hf:=h.few;by_cases Z:0<=port
 ·by_cases Y:port<(m.bs.length:Int)
  ·have hv:(decide (0<=port)&&decide (port<(m.bs.length:Int)))=true:=by simp[Z,Y]
   rw[hv];clear hv h
   go_in
   go_wp2
   go_ret;exact⟨by first|rfl|(simp;omega),rfl⟩
  ·have hv:(decide (0<=port)&&decide (port<(m.bs.length:Int)))=false:=by simp[Y]
   rw[hv];clear hv h
   go_in
   go_wp2
   go_ret;exact⟨by first|rfl|(simp;omega),rfl⟩
 ·have hv:(decide (0<=port)&&decide (port<(m.bs.length:Int)))=false:=by simp[Z]
  rw[hv];clear hv h
  go_in
  go_wp2
  go_ret;exact⟨by first|rfl|(simp;omega),rfl⟩
def ve(acu:Nat)(port own seq:Int)(es:List jG):Nat:=if 0<=port/\port<(acu:Int)then oD own seq es else 1
theorem pZ(B:Nat)(m:FM)(k:Nat)(kn:Int->Option SV)(ow:Nat->Int->Option SV)(port own seq:Int)(a:Option dQ)(n cap:Nat)(es:List jG)(w:dR)(h:FB w B m k kn ow)(U:n<=maxLen)(V:iU w a n es):
 eT eU 216 #[π (μ ⟨B,0,ν⟩),ι κ port,.agg #[ι κ own,ι κ seq,σ a n cap]] w λe w'=>e=ρ (jb (ve m.bs.length port own seq es))/\eh w w':=by
 have Y:=gN w (γ #[ι κ own,ι κ seq,σ a n cap] 40);have hh:=Cd B m k kn ow port _ (h.below Y);have hc:=zI own seq a n cap es _ U (V.below Y);have X:Hid (jb 1=.iface 128 (ι κ 1)):=rfl;by_cases Z:0<=port/\port<(m.bs.length:Int)
 ·have hv:(decide (0<=port)&&decide (port<(m.bs.length:Int)))=true:=by simp[Z.1,Z.2]
  have hf:ve m.bs.length port own seq es=oD own seq es:=by rw[ve,ag Z]
  rw[hv]at hh;rw[hf];clear hv hf h
  go_in
  go_wp2_with(fail);refine hh.mono ?_;rintro e w1 ⟨rfl,rfl⟩;go_wp2_with(fail);refine hc.mono ?_;rintro e w2 ⟨rfl,k2⟩
  go_wp2
  go_ret;exact⟨rfl,fY Y k2⟩
 ·have hv:(decide (0<=port)&&decide (port<(m.bs.length:Int)))=false:=by
   simp only[Bool.and_eq_false_iff,decide_eq_false_iff_not];omega
  have hf:Hid (ve m.bs.length port own seq es=1):=by show _=_;rw[ve,ae Z]
  rw[hv]at hh;clear hv h
  go_in
  go_wp2_with(fail);refine hh.mono ?_;rintro e w1 ⟨rfl,rfl⟩;go_wp2_with(fail);rw[hf.out,X.out];go_ret;exact⟨rfl,Y⟩
theorem Ll(B:Nat)(m:FM)(k:Nat)(kn:Int->Option SV)(ow:Nat->Int->Option SV)(own seq:Int)(a:Option dQ)(n cap:Nat)(w:dR)(h:FB w B m k kn ow)(U:sv own)(V:kn own=ν):
 eT eU 217 #[π (μ ⟨B,0,ν⟩),.agg #[ι κ own,ι κ seq,σ a n cap]] w λe w'=>e=ρ (ι κ 1)/\eh w w':=by
 have hz:=oZ;have hb:=gN w (γ #[ι κ own,ι κ seq,σ a n cap] 40);have Y:=h.below hb;obtain⟨Z,X⟩:=fW (w.alloc (γ #[ι κ own,ι κ seq,σ a n cap] 40));have x0:Z.cell? ⟨w.heap.size,0,ν⟩=μ (ι κ own):=by rw[<-X];exact aj w #[ι κ own,ι κ seq,σ a n cap] 40 (0,0) 0
 rw[X]at hb Y;have T:Hid _:=X;clear X;have oQ:(e7 211 (.map (μ m.bm)) (ι κ own) true).run eU Z.drew=.ok (τ #[.agg #[ι κ 0,ι κ 0,σ ν 0 0],.bool false]) Z.drew:=by
  have:=Y.km.drew.look_ok own U;rw[V]at this;exact this
 have agI:(e7 211 (.map (μ m.bm)) (ι κ own) true).run eU (Z.alloc (γ #[ι κ 0,ι κ 0,σ ν 0 0] 40)).drew=.ok (τ #[.agg #[ι κ 0,ι κ 0,σ ν 0 0],.bool false]) (Z.alloc (γ #[ι κ 0,ι κ 0,σ ν 0 0] 40)).drew:=by
  have:=(Y.km.alloc (γ #[ι κ 0,ι κ 0,σ ν 0 0] 40)).drew.look_ok own U;rw[V]at this;exact this
 have c0:=Y.c0;have hl:=Y.lt;have hx:w.heap.size<Z.heap.size:=af Z _ x0;clear h Y V
 go_in
 go_wp2_with(fail);rw[T.out]
 go_region
 all_goals
  go_wp2
  go_ret;exact⟨rfl,below_drewN (hb.alloc hb.size _) 1⟩
theorem Lm(B:Nat)(m:FM)(k:Nat)(kn:Int->Option SV)(ow:Nat->Int->Option SV)(own seq:Int)(a:Option dQ)(n cap:Nat)(es:List jG)(t:SV)(fs:List jG)(w:dR)(h:FB w B m k kn ow)(H:sv own)(M:kn own=μ t)(G:iU w a n es)(y:n<=1000000)(J:iU w t.a t.n fs):
 eT eU 217 #[π (μ ⟨B,0,ν⟩),.agg #[ι κ own,ι κ seq,σ a n cap]] w λe w'=>e=ρ (ι κ (lr seq es t.seq fs))/\eh w w':=by
 obtain⟨X,ts,ta,tn,U⟩:=t;simp only at J;have hz:=oZ;have hb:=gN w (γ #[ι κ own,ι κ seq,σ a n cap] 40);have Y:=h.below hb;obtain⟨Z,T⟩:=fW (w.alloc (γ #[ι κ own,ι κ seq,σ a n cap] 40));have V:Z.heap[w.heap.size]? =μ (γ #[ι κ own,ι κ seq,σ a n cap] 40 (0,0)):=by rw[<-T];exact aW w _
 rw[T]at hb Y;have A:Hid _:=T;clear T;have x0:Z.cell? ⟨w.heap.size,0,ν⟩=μ (ι κ own):=ax Z _ 0 _ _ (0,0) V;have oQ:(e7 211 (.map (μ m.bm)) (ι κ own) true).run eU Z.drew=.ok (τ #[.agg #[ι κ X,ι κ ts,σ ta tn U],.bool true]) Z.drew:=by
  have:=Y.km.drew.look_ok own H;rw[M]at this;exact this
 have agI:(e7 211 (.map (μ m.bm)) (ι κ own) true).run eU (Z.alloc (γ #[ι κ 0,ι κ 0,σ ν 0 0] 40)).drew=.ok (τ #[.agg #[ι κ X,ι κ ts,σ ta tn U],.bool true]) (Z.alloc (γ #[ι κ 0,ι κ 0,σ ν 0 0] 40)).drew:=by
  have:=(Y.km.alloc (γ #[ι κ 0,ι κ 0,σ ν 0 0] 40)).drew.look_ok own H;rw[M]at this;exact this
 have c0:=Y.c0;have hl:=Y.lt;have hx:w.heap.size<Z.heap.size:=af Z _ x0;have Q:eh w ((Z.alloc (γ #[ι κ X,ι κ ts,σ ta tn U] 40)).drew):=below_drewN (hb.alloc hb.size _) 1;have D:=Fu own seq X ts a ta n tn cap U es fs _ (G.below Q) (J.below Q) y;have x1:Z.cell? ⟨w.heap.size,1,ν⟩=μ (ι κ seq):=ax Z _ 1 _ _ (0,0) V;have x2:Z.cell? ⟨w.heap.size,2,ν⟩=μ (σ a n cap):=ax Z _ 2 _ _ (0,0) V;clear h Y M J G V
 go_in
 go_wp2_with(fail);rw[A.out]
 go_region
 all_goals
  go_wp2_with(fail);refine D.mono ?_;rintro e w2 ⟨rfl,k2⟩
  go_wp2
  go_ret;exact⟨rfl,fY Q k2⟩
structure jr(w w':dR)(m:FM):Prop where
 os:w'.os=w.os
 tape:w'.tape=w.tape
 output:w'.output=w.output
 size:w.heap.size<=w'.heap.size
 block:∀i,i<w.heap.size->i≠m.bm->i∉m.bs->w'.heap[i]? =w.heap[i]?
theorem jr.iJ(m:FM)(h:eh w w'):jr w w' m:=⟨h.os,h.tape,h.output,h.size,λi hi _ _=>h.block i hi⟩
theorem jr.trans {a b c:dR} {m:FM} (h:jr a b m)(k:jr b c m):jr a c m:=
 ⟨k.os.trans h.os,k.tape.trans h.tape,k.output.trans h.output,Nat.le_trans h.size k.size,λi hi Y Z=>(k.block i (Nat.lt_of_lt_of_le hi h.size) Y Z).trans (h.block i hi Y Z)⟩
theorem jr.o9 {m:FM} (h:w.mapTurned w' b)(hb:b=m.bm \/b∈m.bs):jr w w' m:=by
 have g:=h.grown;refine⟨g.os,g.tape,g.output,g.size,λi hi Y Z=>g.block i hi (λe=> ?_)⟩;have:i=b:=by simpa using e
 subst this;rcases hb with hb|hb
 ·exact Y hb
 ·exact Z hb
theorem jr.below {a b:dR} {m:FM} (h:eh w a)(k:jr a b m)(h1:w.heap.size<=m.bm)(Z:∀x∈m.bs,w.heap.size<=x):eh w b:=
 ⟨k.os.trans h.os,k.tape.trans h.tape,k.output.trans h.output,Nat.le_trans h.size k.size,λi hi=>by
  rw[k.block i (Nat.lt_of_lt_of_le hi h.size) dU (λe=>by have:=Z i e;omega)];exact h.block i hi⟩
theorem np {x:Nat} (h:w.mapTurned w' b)(hx:x<w.heap.size)(Z:x≠b):w'.heap[x]? =w.heap[x]? :=h.grown.block x hx (λe=>Z (by simpa using e))
theorem FB.agJ {m:FM} {kn kn':Int->Option SV} {ow:Nat->Int->Option SV} (h:FB w B m n kn ow)(Z:w.mapTurned w' m.bm)(V:SMap w' m.bm n' kn')(U:n<=n'):FB w' B m n' kn' ow:=by
 refine⟨(np Z h.lt (λe=>h.nB.1 e.symm)).trans h.nN,h.row.keep Z.grown.size (λk Y=> ?_),V,λi b e=> ?_,h.few,h.nB,h.nd⟩
 ·have X:m.g=k:=by simpa[FM.sl,dV]using Y
  subst X;exact np Z (h.row.lt _ Y) (λe=>h.nB.2.2.1 e.symm)
 ·have hb:=h.nB.2.2.2 b (bz e);exact((h.om i b e).keep (np Z (h.om i b e).lt hb.2.2)).mono U
theorem FB.Ln {m:FM} {kn:Int->Option SV} {ow:Nat->Int->Option SV} {f:Int->Option SV} {i:Nat} (h:FB w B m n kn ow)(hi:m.bs[i]? =μ b)(Z:w.mapTurned w' b)(M:SMap w' b n' f)(V:n<=n'):FB w' B m n' kn (λj=>if j=i then f else ow j):=by
 have hb:=h.nB.2.2.2 b (bz hi);refine⟨(np Z h.lt (λe=>hb.1 e.symm)).trans h.nN,h.row.keep Z.grown.size (λk X=> ?_),(h.km.keep (np Z h.km.lt (λe=>hb.2.2 e.symm))).mono V,λj c e=> ?_,h.few,h.nB,h.nd⟩
 ·have Q:m.g=k:=by simpa[FM.sl,dV]using X
  subst Q;exact np Z (h.row.lt _ X) (λe=>hb.2.1 e.symm)
 ·by_cases Y:j=i
  ·subst Y;rw[hi]at e;obtain rfl:=Option.some.inj e;simp only[if_true];exact M
  ·rw[ae Y];have U:c≠b:=λT=>by
    subst T;exact Y ((List.getElem?_inj (aI.1 e).1 h.nd).1 (e.trans hi.symm))
   exact((h.om j c e).keep (np Z (h.om j c e).lt U)).mono V
def sN(f:Int->Option SV)(k:Int)(s:SV):Int->Option SV:=λx=>if x=k then μ s else f x
structure GZ(w w':dR)(B:Nat)(m:FM)(n:Nat)(kn:Int->Option SV)(ow:Nat->Int->Option SV)(own seq:Int)(es:List jG)(s:SV):Prop where
 so:s.own=own
 ss:s.seq=seq
 sn:s.n=es.length
 so2:iU w' s.a s.n es
 nil:kt s.a s.cap
 new:∀j,dV (σ s.a s.n s.cap)=μ j->w.heap.size<=j/\j<w'.heap.size
 fb:FB w' B m (n+1+m.bs.length) (sN kn own s) (λi=>if i<m.bs.length then sN (ow i) own s else ow i)
 kept:jr w w' m
theorem iU.RH {a:Option dQ} {cap:Nat} {os:List jG} {m:FM} (h:iU w a n os)(Y:jr w w' m)(hf:∀j,dV (σ a n cap)=μ j->j≠m.bm/\j∉m.bs):iU w' a n os:=by
 refine⟨h.1,?_⟩;rcases h.2 with Z|⟨b,off,rfl,Z⟩
 ·exact .inl Z
 ·refine .inr ⟨b,off,rfl,λj X=> ?_⟩;obtain⟨c1,c2⟩:=Z j X;obtain⟨f1,f2⟩:=hf b rfl;have e:=Y.block b (af w _ c1) f1 f2;exact⟨(ai (a:=⟨b,off+j*2,ν⟩) e).trans c1,(ai (a:=⟨b,off+j*2+1,ν⟩) e).trans c2⟩
theorem Fv(B:Nat)(m:FM)(k:Nat)(kn:Int->Option SV)(ow:Nat->Int->Option SV)(own seq:Int)(a:Option dQ)(n cap:Nat)(es:List jG)(w:dR)(h:FB w B m k kn ow)(hr:sv own)(ho:iU w a n es)(j5:kt a cap)(hn:n<=1000000)(hk:k<=1000000):
 eT eU 118 #[π (μ ⟨B,0,ν⟩),.agg #[ι κ own,ι κ seq,σ a n cap]] w λe w'=>e=ρ (τ #[])/\∃s,GZ w w' B m k kn ow own seq es s:=by
 have hb:=gN w (γ #[ι κ own,ι κ seq,σ a n cap] 40);have D:=h.below hb;obtain⟨W1,j0⟩:=fW (w.alloc (γ #[ι κ own,ι κ seq,σ a n cap] 40));have pO:W1.heap[w.heap.size]? =μ (γ #[ι κ own,ι κ seq,σ a n cap] 40 (0,0)):=by rw[<-j0];exact aW w _
 rw[j0]at hb D;have HW:Hid _:=j0;clear j0;have Ce:=CU own seq a n cap es W1 hn j5 (ho.below hb)
 go_in
 go_wp2_with(fail);rw[HW.out];refine Ce.mono ?_;rintro e Y ⟨⟨X,vc,rfl,vo,vn,vl,EL⟩,k2⟩;clear Ce;have H:=(k2.block _ (aw.1 pO).1).trans pO;have x0:Y.cell? ⟨w.heap.size,0,ν⟩=μ (ι κ own):=ax Y _ 0 _ _ (0,0) H;have x1:Y.cell? ⟨w.heap.size,1,ν⟩=μ (ι κ seq):=ax Y _ 1 _ _ (0,0) H;have x2:Y.cell? ⟨w.heap.size,2,ν⟩=μ (σ a n cap):=ax Y _ 2 _ _ (0,0) H;have fx:=λj=>bu Y w.heap.size j _ _ H;have xl:w.heap.size<Y.heap.size:=af Y _ x0
 go_upto_region 2 with fail
 obtain⟨Z,A⟩:=fW (((Y.setCell ⟨w.heap.size,0,ν⟩ (ι κ own)).setCell ⟨w.heap.size,1,ν⟩ (ι κ seq)).setCell ⟨w.heap.size,2,ν⟩ (σ X es.length vc));have sM:=fY hb k2;have b3:eh w Z:=by rw[<-A];exact((sM.setCell (Nat.le_refl _) _).setCell (Nat.le_refl _) _).setCell (Nat.le_refl _) _
 have yj:Z.heap[w.heap.size]? =μ (γ #[ι κ own,ι κ seq,σ X es.length vc] 40 (0,0)):=by
  rw[<-A];have s1:=cz Y w.heap.size #[ι κ own,ι κ seq,σ a n cap] (#[ι κ own,ι κ seq,σ a n cap].setIfInBounds 0 (ι κ own)) 40 (0,0) H;rw[<-bD Y w.heap.size 0 _ _ (0,0) _ H]at s1;have s2:=cz _ w.heap.size _ ((#[ι κ own,ι κ seq,σ a n cap].setIfInBounds 0 (ι κ own)).setIfInBounds 1 (ι κ seq)) 40 (0,0) s1;rw[<-bD _ w.heap.size 1 _ _ (0,0) _ s1]at s2;have s3:=cz _ w.heap.size _ (((#[ι κ own,ι κ seq,σ a n cap].setIfInBounds 0 (ι κ own)).setIfInBounds 1 (ι κ seq)).setIfInBounds 2 (σ X es.length vc)) 40 (0,0) s2;rw[<-bD _ w.heap.size 2 _ _ (0,0) _ s2]at s3;exact s3
 have acw:W1.heap.size=w.heap.size+1:=by have:=HW.out;rw[<-this];simp
 have vo3:iU Z X es.length es:=by
  refine vo.kept (cap:=vc) (λj hj=> ?_);have:=(EL j hj).1;rw[<-A,aq _ _ _ _ (by show j≠w.heap.size;omega),aq _ _ _ _ (by show j≠w.heap.size;omega),aq _ _ _ _ (by show j≠w.heap.size;omega)]
 have u:Y.heap.size=Z.heap.size:=by rw[<-A];simp
 rw[A];have M:=h.below b3;have Ni:eh w Z.drew:=below_drewN b3 1;have Y8:=h.below Ni;obtain⟨W4,hr4,S4,T4⟩:=Y8.km.store (by unfold maxLen;omega) own hr ⟨own,seq,X,es.length,vc⟩;have agM:(eY 211 (.map (μ m.bm)) (ι κ own) (.agg #[ι κ own,ι κ seq,σ X es.length vc])).run eU Z.drew=.ok () W4:=hr4;have Q:=Y8.agJ T4 S4 (Nat.le_succ _);have c0:=M.c0;have lB:=M.lt;have y0:Z.cell? ⟨w.heap.size,0,ν⟩=μ (ι κ own):=ax Z _ 0 _ _ (0,0) yj;have y1:Z.cell? ⟨w.heap.size,1,ν⟩=μ (ι κ seq):=ax Z _ 1 _ _ (0,0) yj;have y2:Z.cell? ⟨w.heap.size,2,ν⟩=μ (σ X es.length vc):=ax Z _ 2 _ _ (0,0) yj;have yl:w.heap.size<Z.heap.size:=af Z _ y0;clear x0 x1 x2 fx xl A hr4 S4
 go_region
 have y:jr Z.drew W4 m:=jr.o9 T4 (.inl rfl);have U:∀x,x=m.bm \/x∈m.bs->x<w.heap.size:=by
  intro x hx;rcases hx with rfl|hx
  ·exact h.km.lt
  ·obtain⟨i,hi⟩:=List.getElem?_of_mem hx;exact(h.om i x hi).lt
 have XP:∀V:dR,jr Z.drew V m->V.heap[w.heap.size]? =μ (γ #[ι κ own,ι κ seq,σ X es.length vc] 40 (0,0)):=λV hV=>
  (hV.block w.heap.size yl (λe=>by have:=U m.bm (.inl rfl);omega) (λe=>by have:=U _ (.inr e);omega)).trans yj
 obtain⟨s,hs⟩:∃s:SV,(⟨own,seq,X,es.length,vc⟩:SV)=s:=⟨_,rfl⟩
 have acy:FB W4 B m (k+1+0) (sN kn own s) (λi=>if i<0 then sN (ow i) own s else ow i):=by
  rw[<-hs];have e0:(λi=>if i<0 then sN (ow i) own ⟨own,seq,X,es.length,vc⟩else ow i)=ow:=by funext i;simp
  rw[e0];exact Q
 have ug:=h.few;have c1:W4.cell? ⟨B,1,ν⟩=μ (σ (μ ⟨m.g,0,ν⟩) m.bs.length m.cap):=Q.c1;have lB4:=Q.lt;have J:Hid _:=hs;have HX:Hid _:=XP;have H3:Hid (iU Z X es.length es/\eh w Z/\Y.heap.size=Z.heap.size/\W1.heap.size=w.heap.size+1):=⟨vo3,b3,u,acw⟩
 have Hbm:Hid _:=U;clear hs XP c0 lB y0 y1 y2 yl M Y8 Q agM T4 D H pO yj b3 Ni hb k2 sM U vo3 u acw vo
 go_wp2
 go_loopw [20] (λi wr=>∃j:Nat,j<=m.bs.length/\i=ι κ j/\FB wr B m (k+1+j) (sN kn own s) (λi=>if i<j then sN (ow i) own s else ow i)/\jr Z.drew wr m) (λi _=>m.bs.length-(eV i).toNat)
 case atStart=>exact⟨0,Nat.zero_le _,rfl,acy,y⟩
 case round=>
  clear acy y c1 lB4;obtain⟨j,hj,rfl,hF,G⟩:=hrel;by_cases ka:j<m.bs.length
  ·have m8:(j:Int)<(m.bs.length:Int):=dU;have hX:=HX.out wr G;have z0:wr.cell? ⟨w.heap.size,0,ν⟩=μ (ι κ own):=ax wr _ 0 _ _ (0,0) hX;have z1:wr.cell? ⟨w.heap.size,1,ν⟩=μ (ι κ seq):=ax wr _ 1 _ _ (0,0) hX;have z2:wr.cell? ⟨w.heap.size,2,ν⟩=μ (σ X es.length vc):=ax wr _ 2 _ _ (0,0) hX;have zl:w.heap.size<wr.heap.size:=af wr _ z0;have T:m.bs[j]? =μ m.bs[j] :=aA ka;have cp:=hF.port j _ T;have gl:m.g<wr.heap.size:=af wr _ cp;obtain⟨W5,Lp,S5,T5⟩:=(hF.om j _ T).store (by unfold maxLen;omega) own hr s;have F5:=hF.Ln T T5 S5 (Nat.le_succ _);have M5:jr Z.drew W5 m:=G.trans (jr.o9 T5 (.inr (aK _)));have F5':FB W5 B m (k+1+(j+1)) (sN kn own s) (λi=>if i<j+1 then sN (ow i) own s else ow i):=by
    have e:(λi=>if i<j+1 then sN (ow i) own s else ow i)=(λi=>if i=j then(λx=>if x=own then μ s else(if j<j then sN (ow j) own s else ow j) x)else(if i<j then sN (ow i) own s else ow i)):=by
     funext i
     by_cases D:i=j
     ·rw[D,ag (Nat.lt_succ_self j),ag rfl,ae (Nat.lt_irrefl j)];rfl
     ·by_cases h2:i<j
      ·rw[ag dU,ae D,ag h2]
      ·rw[ae dU,ae D,ae h2]
    rw[e];exact F5
   have agN:(eY 211 (.map (μ m.bs[j])) (ι κ own) (.agg #[ι κ own,ι κ seq,σ X es.length vc])).run eU wr=.ok () W5:=by
    have:=Lp;rw[<-J.out]at this;exact this
   generalize m.bs[j] =bj at cp agN;clear Lp S5 T5 F5 hF G T hX
   go_wp2
   go_roundw
   case rel=>exact⟨j+1,dU,by go_num,F5',M5⟩
   case measure=>simp[eV];omega
  ·have KO:j=m.bs.length:=dU;subst KO;have HF:Hid (∃s,GZ w wr B m k kn ow own seq es s):=by
    obtain⟨q1,q2,q3,q4⟩:=H3.out;have uh:∀x,dV (σ X es.length vc)=μ x->x≠m.bm/\x∉m.bs:=λx hx=>by
     have D:=(EL x hx).1;exact⟨λe=>by have:=Hbm.out m.bm (.inl rfl);omega,λe=>by have:=Hbm.out x (.inr e);omega⟩
    have o1:=(q1.drewN 1).RH (cap:=vc) G uh;have qX:=G.size;have alZ:Z.heap.size<=wr.heap.size:=qX;refine⟨s,?_,?_,?_,?_,?_,?_,hF,(jr.iJ m (below_drewN q2 1)).trans G⟩
    ·rw[<-J.out]
    ·rw[<-J.out]
    ·rw[<-J.out]
    ·rw[<-J.out];exact o1
    ·rw[<-J.out];exact vn
    ·rw[<-J.out];intro x hx;have:=EL x hx;omega
   clear hF G
   go_wp2
   first|go_end0|refine iC rfl rfl ?_
   exact⟨rfl,HF.out⟩
