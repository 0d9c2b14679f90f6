import Derived.Test.YtieklnlbljejdaaGreatDoorG00
open Go.Value renaming int → ι, slice → σ, nilIface → η
open Go.IntKind renaming i64 → κ
open Go.Ending renaming returned → ρ
open Go.Obj renaming cells → γ
open Option renaming none → ν, some → μ
open List renaming length_cons → eZ
open Go.Proofs.Tryz renaming prog → fk
open Go renaming World → eB, Calls → fj, Addr → eA, Value → eD
open Go.Value renaming ownBlock → eF
set_option maxRecDepth 100000
set_option maxHeartbeats 4000000
namespace Go.Proofs.YtieklnlbljejdaaGreatDoor
namespace St
variable {a b s1 s2:Int}
abbrev Ed:=Int×Int
def qt(own:Int):Int->List Ed->Nat
 |_,[] =>0
 |ah,e::r=>if e.1<1 \/6<e.1 \/e.2<1 \/20<e.2 then 1 else if e.1=own \/e.1<=ah then 3 else qt own e.1 r
def pj(own seq:Int)(es:List Ed):Nat:=if own<1 \/6<own \/seq<1 \/1000000<seq then 1 else if 6<es.length then 2 else qt own 0 es
theorem jT {own seq:Int} {es:List Ed} (h:pj own seq es=0):(1<=own/\own<=6)/\(1<=seq/\seq<=1000000)/\es.length<=6/\qt own 0 es=0:=by
 unfold pj at h;split at h
 ·simp at h
 ·split at h
  ·simp at h
  ·exact⟨eE,eE,eE,h⟩
theorem ru(own:Int):∀(es:List Ed) (ah:Int),qt own ah es=0->∀e∈es,(1<=e.1/\e.1<=6)/\(1<=e.2/\e.2<=20)
 |[],_,_,e,he=>by simp at he
 |x::r,ah,h,e,he=>by
  unfold qt at h;split at h
  ·simp at h
  ·split at h
   ·simp at h
   ·rcases bn.1 he with rfl|he
    ·omega
    ·exact ru own r _ h e he
def u8(x:Int):UInt8:=UInt8.ofNat x.toNat
theorem oN(x:Int)(h0:0<=x)(h1:x<=255):((u8 x).toNat:Int)=x:=by
 unfold u8;rw[UInt8.toNat_ofNat_of_lt' (by show x.toNat<256;omega)];omega
def JT(es:List Ed):List UInt8:=es.flatMap λo=>[u8 o.1,u8 o.2]
theorem Qz(os:List Ed)(o:Ed):JT (os++ [o])=JT os++ [u8 o.1,u8 o.2] :=by simp[JT]
theorem wO(os:List Ed):(JT os).length=2*os.length:=by
 induction os with
 |nil=>rfl
 |cons o r ih=>simp only[JT,List.flatMap_cons,List.length_append,eZ,List.length_nil]at ih⊢;omega
def sj(own seq:Int)(es:List Ed):List UInt8:=u8 own::u8 (seq%256)::u8 (seq/256%256)::u8 (seq/65536)::JT es
def pairs:List UInt8->List Ed
 |k::n::r=>((k.toNat:Int),(n.toNat:Int))::pairs r
 |_=>[]
theorem xN:∀l:List UInt8,(pairs l).length=l.length/2
 |[] =>rfl
 |[_] =>by simp[pairs]
 |a::b::r=>by
  have ih:=xN r;simp only[pairs,eZ,ih];omega
theorem Ej:∀(os:List Ed),(∀o∈os,(0<=o.1/\o.1<=255)/\(0<=o.2/\o.2<=255))->pairs (JT os)=os
 |[],_=>rfl
 |o::r,h=>by
  have e1:JT (o::r)=u8 o.1::u8 o.2::JT r:=by simp[JT]
  obtain⟨h1,h2⟩:=h o iC;rw[e1,pairs,oN o.1 h1.1 h1.2,oN o.2 h2.1 h2.2,Ej r (λx hx=>h x (by simp[hx]))]
def Hu(l:List UInt8):Int:=((l.getD 1 0).toNat:Int)+256*((l.getD 2 0).toNat:Int)+65536*((l.getD 3 0).toNat:Int)
def iT(l:List UInt8):Int×Int×List Ed×Nat:=
 if l.length<4 \/l.length%2=1 then(0,0,[],4)
 else if pj ((l.getD 0 0).toNat:Int) (Hu l) (pairs (l.drop 4))=0 then(((l.getD 0 0).toNat:Int),Hu l,pairs (l.drop 4),0)
 else(0,0,[],4)
theorem Hv(l:List UInt8)(h:16<l.length):iT l=(0,0,[],4):=by
 unfold iT;split
 ·rfl
 ·rename_i h1
  have hl:6<(pairs (l.drop 4)).length:=by rw[xN];simp;omega
  split
  ·rename_i h2
   have:=(jT h2).2.2.1;omega
  ·rfl
theorem uB(own seq:Int)(es:List Ed)(hf:pj own seq es=0):iT (sj own seq es)=(own,seq,es,0):=by
 obtain⟨p1,p2,p3,p4⟩:=jT hf;have oA:=ru own es 0 p4;have hl:(sj own seq es).length=4+2*es.length:=by
  unfold sj;simp only[eZ,wO];omega
 have g0:(sj own seq es).getD 0 0=u8 own:=rfl;have g3:(sj own seq es).drop 4=JT es:=rfl;have hs:Hu (sj own seq es)=seq:=by
  show((u8 (seq%256)).toNat:Int)+256*((u8 (seq/256%256)).toNat:Int)+65536*((u8 (seq/65536)).toNat:Int)=seq;rw[oN _ eE eE,oN _ eE eE,oN _ eE eE];omega
 unfold iT;rw[g0,g3,hs,oN own eE eE,Ej es (λo ho=>by have:=oA o ho;omega),hl,ae eE,ag hf]
def l5(a b:Int):Int:=if a<b then-1 else if b<a then 1 else 0
def wP(a b:Ed):Int:=if l5 a.1 b.1≠0 then l5 a.1 b.1 else l5 a.2 b.2
def lN:List Ed->List Ed->Int
 |[],[] =>0
 |[],_::_=> -1
 |_::_,[] =>1
 |a::r,b::q=>if wP a b≠0 then wP a b else lN r q
def mU(s1:Int)(e1:List Ed)(s2:Int)(e2:List Ed):Int:=if l5 s1 s2≠0 then l5 s1 s2 else lN e1 e2
theorem NL(a b:Int):l5 a b= -l5 b a:=by unfold l5;split<;>split<;>(try split)<;>omega
theorem m9:l5 a b=0↔a=b:=by unfold l5;constructor<;>intro h<;>(try split at h)<;>(try split at h)<;>(try split)<;>(try split)<;>omega
theorem Kc(a b:Int):l5 a b= -1 \/l5 a b=0 \/l5 a b=1:=by unfold l5;split<;>(try split)<;>simp
theorem sK:0<l5 a b↔b<a:=by unfold l5;split<;>(try split)<;>omega
theorem pU(a b:Ed):(wP a b=1/\(b.1<a.1 \/b.1=a.1/\b.2<a.2)) \/(wP a b= -1/\(a.1<b.1 \/a.1=b.1/\a.2<b.2)) \/(wP a b=0/\a=b):=by
 obtain⟨a1,a2⟩:=a;obtain⟨b1,b2⟩:=b;simp only[wP,l5,Prod.mk.injEq]
 repeat' split
 all_goals omega
theorem NM(a b:Ed):wP a b= -wP b a:=by
 obtain⟨a1,a2⟩:=a;obtain⟨b1,b2⟩:=b;simp only[wP,l5]
 repeat' split
 all_goals omega
theorem BH:∀a b:List Ed,lN a b= -1 \/lN a b=0 \/lN a b=1
 |[],[] =>by simp[lN]
 |[],_::_=>by simp[lN]
 |_::_,[] =>by simp[lN]
 |a::r,b::q=>by
  unfold lN;split
  ·rcases pU a b with h|h|h<;>simp[h.1]
  ·exact BH r q
theorem Ek:∀a b:List Ed,lN a b= -lN b a
 |[],[] =>by simp[lN]
 |[],_::_=>by simp[lN]
 |_::_,[] =>by simp[lN]
 |a::r,b::q=>by
  have h:=NM a b;have ih:=Ek r q;unfold lN;split<;>split<;>omega
theorem Em:∀ {a b:List Ed},lN a b=0↔a=b
 |[],[] =>by simp[lN]
 |[],_::_=>by simp[lN]
 |_::_,[] =>by simp[lN]
 |a::r,b::q=>by
  have ih:= @Em r q;unfold lN;rcases pU a b with h|h|h
  ·rw[ag eE,h.1];constructor
   ·intro e;simp at e
   ·intro e;obtain⟨a1,a2⟩:=a;obtain⟨b1,b2⟩:=b;simp at e h;omega
  ·rw[ag eE,h.1];constructor
   ·intro e;simp at e
   ·intro e;obtain⟨a1,a2⟩:=a;obtain⟨b1,b2⟩:=b;simp at e h;omega
  ·rw[ae eE,ih];simp[h.2]
theorem BI:∀ {a b c:List Ed},0<=lN a b->0<=lN b c->0<=lN a c/\(0<lN a b \/0<lN b c->0<lN a c)
 |[],[],[],_,_=>by simp[lN]
 |[],[],_::_,_,h=>by simp[lN]at h
 |[],_::_,_,h,_=>by simp[lN]at h
 |_::_,[],[],_,_=>by simp[lN]
 |_::_,[],_::_,_,h=>by simp[lN]at h
 |_::_,_::_,[],_,_=>by simp[lN]
 |a::r,b::q,c::s,h1,h2=>by
  have ih:= @BI r q s;unfold lN at h1 h2⊢;rcases pU a b with⟨e1,h3⟩|⟨e1,h3⟩|⟨e1,rfl⟩
  ·rcases pU b c with⟨e2,h4⟩|⟨e2,h4⟩|⟨e2,rfl⟩
   ·rcases pU a c with⟨e3,h5⟩|⟨e3,h5⟩|⟨e3,rfl⟩
    ·simp[e3]
    ·omega
    ·omega
   ·simp[e2]at h2
   ·simp[e1]
  ·simp[e1]at h1
  ·rcases pU a c with⟨e2,h4⟩|⟨e2,h4⟩|⟨e2,rfl⟩
   ·simp[e2]
   ·simp[e2]at h2
   ·simp only[e1]at h1 h2⊢;simp at h1 h2⊢;exact ih h1 h2
theorem NN(s1 s2:Int)(e1 e2:List Ed):mU s1 e1 s2 e2= -mU s2 e2 s1 e1:=by
 have h:=NL s1 s2;have ih:=Ek e1 e2;unfold mU;split<;>split<;>omega
theorem NP {e1 e2:List Ed}:mU s1 e1 s2 e2=0↔s1=s2/\e1=e2:=by
 unfold mU;split
 ·rename_i h
  constructor
  ·intro e;exact absurd e h
  ·intro⟨e,_⟩;exact absurd (m9.2 e) h
 ·rename_i h
  have:s1=s2:=m9.1 eE;rw[Em];simp[this]
theorem BJ(s1 s2:Int)(e1 e2:List Ed):mU s1 e1 s2 e2= -1 \/mU s1 e1 s2 e2=0 \/mU s1 e1 s2 e2=1:=by
 unfold mU;split
 ·rcases Kc s1 s2 with h|h|h<;>simp[h]
 ·exact BH e1 e2
theorem BK {s3:Int} {e1 e2 e3:List Ed} (h1:0<=mU s1 e1 s2 e2)(h2:0<=mU s2 e2 s3 e3):0<=mU s1 e1 s3 e3/\(0<mU s1 e1 s2 e2 \/0<mU s2 e2 s3 e3->0<mU s1 e1 s3 e3):=by
 unfold mU at h1 h2⊢;by_cases a:s1=s2
 ·by_cases b:s2=s3
  ·have c:s1=s3:=a.trans b;rw[ae (by simp[m9.2 a])]at h1;rw[ae (by simp[m9.2 b])]at h2;have ha:=m9.2 a;have hb:=m9.2 b;have hc:=m9.2 c;rw[ae (show¬l5 s1 s2≠0 by omega),ae (show¬l5 s2 s3≠0 by omega),ae (show¬l5 s1 s3≠0 by omega)];exact BI h1 h2
  ·have hb:l5 s2 s3≠0:=λe=>b (m9.1 e);rw[ag hb]at h2;have p:s3<s2:=sK.1 eE;have q:0<l5 s1 s3:=sK.2 eE;rw[ag (show l5 s1 s3≠0 by omega)];exact⟨eE,λ_=>q⟩
 ·have ha:l5 s1 s2≠0:=λe=>a (m9.1 e);rw[ag ha]at h1;have p:s2<s1:=sK.1 eE;have p2:s3<=s2:=by
   by_cases b:l5 s2 s3=0
   ·have:=m9.1 b;omega
   ·rw[ag b]at h2;have:=sK.1 (show 0<l5 s2 s3 by omega);omega
  have q:0<l5 s1 s3:=sK.2 eE;rw[ag (show l5 s1 s3≠0 by omega)];exact⟨eE,λ_=>q⟩
end St
open Go.RowKit St
theorem BL:(fk.info? 123).map (λi=>(i.zero,i.size,i.bytes))=μ (μ (.agg #[ι κ 0,ι κ 0]),2,16):=gT
theorem oT(w:eB):(zeroValue 40).run fk w=.ok (.agg #[ι κ 0,ι κ 0,σ ν 0 0]) w:=gT
def QA(n:Int):Bool:=decide (1<=n)&&decide (n<=6)
theorem tO(n:Int)(w:eB):fj fk 167 #[ι κ n] w λe w'=>e=ρ (.bool (QA n))/\w=w':=by
 by_cases h0:1<=n
 ·by_cases h1:n<=6
  ·have hb:QA n=true:=by simp[QA,h0,h1]
   rw[hb];clear hb
   go_in
   go_wp2
   go_ret;exact⟨by first|rfl|(simp;omega),rfl⟩
  ·have hb:QA n=false:=by simp[QA,h1]
   rw[hb];clear hb
   go_in
   go_wp2
   go_ret;exact⟨by first|rfl|(simp;omega),rfl⟩
 ·have hb:QA n=false:=by simp[QA,h0]
  rw[hb];clear hb
  go_in
  go_wp2
  go_ret;exact⟨by first|rfl|(simp;omega),rfl⟩
theorem BM(n:Int)(h0:¬n<1)(h1:¬6<n):QA n=true:=by simp[QA];omega
theorem yM(n:Int)(h:n<1 \/6<n):QA n=false:=by simp[QA];omega
theorem BN(own:Int)(a:Option eA)(n cap:Nat)(os:List j2)(w:eB)(hn:n<=1000000)(ho:jm w a n os):
 fj fk 168 #[ι κ own,σ a n cap] w λe w'=>e=ρ (jy (qt own 0 os))/\eN w w':=by
 have e0:jy 0=η:=rfl;have e1:jy 1=.iface 128 (ι κ 1):=rfl;have e3:jy 3=.iface 128 (ι κ 3):=rfl;have H0:Hid _:=e0;have H1:Hid _:=e1;have H3:Hid _:=e3;clear e0 e1 e3
 go_in
 go_wp2
 go_loopw [5,10] (λah i wr=>∃(k:Nat) (h:Int),k<=n/\ah=ι κ h/\i=ι κ k/\qt own 0 os=qt own h (os.drop k)/\eN w wr) (λ_ i _=>n-(intOf i).toNat)
 case atStart=>exact⟨0,0,Nat.zero_le _,rfl,rfl,rfl,au _ _⟩
 case round=>
  obtain⟨k,h,hk,rfl,rfl,Mp,ja⟩:=hrel;have HF:Hid _:=Mp;clear Mp;by_cases kH:k<n
  ·have Dz:=ho.below ja;rcases Dz.2 with h0|⟨b,off,rfl,hc⟩
   ·omega
   have pK:k<os.length:=by rw[ho.1];exact kH
   obtain⟨c1,c2⟩:=hc k pK;have HD:Hid (os.drop k=os[k] ::os.drop (k+1)):=aR pK;generalize os[k] =o at c1 c2 HD;clear hc Dz;have nG:(k:Int)<(n:Int):=eE;have kt:=ja.alloc ja.size (γ #[ι κ o.1,ι κ o.2] 123);have hr:=tO o.1 (wr.alloc (γ #[ι κ o.1,ι κ o.2] 123));have one:(o.1<1 \/6<o.1 \/o.2<1 \/20<o.2)->Hid (qt own 0 os=1):=λhh=>by
    show _=_;rw[HF.out,HD.out,qt,ag hh]
   by_cases r1:o.1<1 \/6<o.1
   ·have HZ:=one eE;rw[yM o.1 r1]at hr;clear one;go_wp2_with(fail);refine hr.mono ?_;rintro e w1 ⟨rfl,rfl⟩;go_wp2_with(fail);rw[HZ.out,H1.out];go_ret;exact⟨rfl,kt⟩
   rw[BM o.1 eE eE]at hr;by_cases r2:o.2<1
   ·have HZ:=one eE;clear one;go_wp2_with(fail);refine hr.mono ?_;rintro e w1 ⟨rfl,rfl⟩;go_wp2_with(fail);rw[HZ.out,H1.out];go_ret;exact⟨rfl,kt⟩
   by_cases r3:20<o.2
   ·have HZ:=one eE;clear one;go_wp2_with(fail);refine hr.mono ?_;rintro e w1 ⟨rfl,rfl⟩;go_wp2_with(fail);rw[HZ.out,H1.out];go_ret;exact⟨rfl,kt⟩
   have three:(o.1=own \/o.1<=h)->Hid (qt own 0 os=3):=λhh=>by
    show _=_;rw[HF.out,HD.out,qt,ae eE,ag hh]
   clear one;cases r4:(o.1==own)
   ·by_cases r5:o.1<=h
    ·have HZ:=three (.inr r5);clear three;go_wp2_with(fail);refine hr.mono ?_;rintro e w1 ⟨rfl,rfl⟩;go_wp2_with(fail);rw[HZ.out,H3.out];go_ret;exact⟨rfl,kt⟩
    ·have HN:Hid (qt own 0 os=qt own o.1 (os.drop (k+1))):=by
      show _=_;have r4':¬o.1=own:=by simpa using r4
      rw[HF.out,HD.out,qt,ae eE,ae eE]
     clear three;go_wp2_with(fail);refine hr.mono ?_;rintro e w1 ⟨rfl,rfl⟩
     go_wp2
     go_roundw
     case rel=>exact⟨k+1,_,eE,rfl,by go_num,HN.out,kt⟩
     case measure=>simp[intOf];omega
   ·have HZ:=three (.inl (by simpa using r4));clear three;go_wp2_with(fail);refine hr.mono ?_;rintro e w1 ⟨rfl,rfl⟩;go_wp2_with(fail);rw[HZ.out,H3.out];go_ret;exact⟨rfl,kt⟩
  ·have HZ:Hid (qt own 0 os=0):=by
    show _=_;rw[HF.out,aX (by rw[ho.1];omega),qt]
   go_wp2_with(fail);rw[HZ.out,H0.out];go_ret;exact⟨rfl,ja⟩
theorem wQ(own seq:Int)(a:Option eA)(n cap:Nat)(os:List j2)(w:eB)(hn:n<=1000000)(ho:jm w a n os):
 fj fk 117 #[.agg #[ι κ own,ι κ seq,σ a n cap]] w λe w'=>e=ρ (jy (pj own seq os))/\eN w w':=by
 have l7:=iB w (γ #[ι κ own,ι κ seq,σ a n cap] 40);have H1:Hid (jy 1=.iface 128 (ι κ 1)):=rfl;have H2:Hid (jy 2=.iface 128 (ι κ 2)):=rfl;have hl:=ho.1;have hr:=tO own (w.alloc (γ #[ι κ own,ι κ seq,σ a n cap] 40));have one:(own<1 \/6<own \/seq<1 \/1000000<seq)->Hid (pj own seq os=1):=λhh=>by show _=_;rw[pj,ag hh]
 by_cases r1:own<1 \/6<own
 ·have HZ:=one eE;rw[yM own r1]at hr;clear one
  go_in
  go_wp2_with(fail);refine hr.mono ?_;rintro e w1 ⟨rfl,rfl⟩;go_wp2_with(fail);rw[HZ.out,H1.out];go_ret;exact⟨rfl,l7⟩
 rw[BM own eE eE]at hr;by_cases r2:seq<1
 ·have HZ:=one eE;clear one
  go_in
  go_wp2_with(fail);refine hr.mono ?_;rintro e w1 ⟨rfl,rfl⟩;go_wp2_with(fail);rw[HZ.out,H1.out];go_ret;exact⟨rfl,l7⟩
 by_cases r3:1000000<seq
 ·have HZ:=one eE;clear one
  go_in
  go_wp2_with(fail);refine hr.mono ?_;rintro e w1 ⟨rfl,rfl⟩;go_wp2_with(fail);rw[HZ.out,H1.out];go_ret;exact⟨rfl,l7⟩
 clear one;by_cases r4:(6:Int)<(n:Int)
 ·have HZ:Hid (pj own seq os=2):=by show _=_;rw[pj,ae eE,ag eE]
  go_in
  go_wp2_with(fail);refine hr.mono ?_;rintro e w1 ⟨rfl,rfl⟩;go_wp2_with(fail);rw[HZ.out,H2.out];go_ret;exact⟨rfl,l7⟩
 ·have HZ:Hid (pj own seq os=qt own 0 os):=by show _=_;rw[pj,ae eE,ae eE]
  have hc:=BN own a n cap os _ hn (ho.below l7)
  go_in
  go_wp2_with(fail);refine hr.mono ?_;rintro e w1 ⟨rfl,rfl⟩;go_wp2_with(fail);refine hc.mono ?_;rintro e w2 ⟨rfl,k2⟩;go_wp2_with(fail);rw[HZ.out];go_ret;exact⟨rfl,iA l7 k2⟩
theorem afa {w w1:eB} {x y z:eD} {t:TypeId} (hb:Below (w.alloc (γ #[x,y,z] t)).heap.size (w.alloc (γ #[x,y,z] t)) w1):
 w1.cell? ⟨w.heap.size,0,ν⟩=μ x/\w1.cell? ⟨w.heap.size,1,ν⟩=μ y/\w1.cell? ⟨w.heap.size,2,ν⟩=μ z/\w.heap.size<w1.heap.size:=by
 have hz:w.heap.size<(w.alloc (γ #[x,y,z] t)).heap.size:=iC;have hA:=λj=>aq w #[x,y,z] t (0,0) j;exact⟨(hb.cell (p:=⟨w.heap.size,0,ν⟩) hz).trans (hA 0),(hb.cell (p:=⟨w.heap.size,1,ν⟩) hz).trans (hA 1),(hb.cell (p:=⟨w.heap.size,2,ν⟩) hz).trans (hA 2),Nat.lt_of_lt_of_le hz hb.size⟩
def ahead(os:List j2)(k:Nat):Int:=if k=0 then 0 else(os.getD (k-1) (0,0)).1
theorem FF(a:Int)(w:eB):fj fk 222 #[ι κ a] w λe w'=>e=ρ (.bool false)/\w=w':=by
 have h:(a !=a)=false:=iC
 go_in
 go_wp2
 go_ret;exact⟨rfl,rfl⟩
theorem rQ(a b:Int)(w:eB):fj fk 204 #[ι κ a,ι κ b] w λe w'=>e=ρ (ι κ (l5 a b))/\w=w':=by
 by_cases h1:a<b
 ·have hv:l5 a b= -1:=by simp[l5,h1]
  rw[hv];clear hv
  go_in
  go_wp2_with(go_at_call 222;refine(FF _ _).mono ?_;rintro e w1 ⟨rfl,rfl⟩);go_ret;exact⟨rfl,rfl⟩
 ·by_cases h2:b<a
  ·have hv:l5 a b=1:=by simp[l5,h1,h2]
   rw[hv];clear hv
   go_in
   go_wp2_with(go_at_call 222;refine(FF _ _).mono ?_;rintro e w1 ⟨rfl,rfl⟩);go_ret;exact⟨rfl,rfl⟩
  ·have hv:l5 a b=0:=by simp[l5,h1,h2]
   rw[hv];clear hv
   go_in
   go_wp2_with(go_at_call 222;refine(FF _ _).mono ?_;rintro e w1 ⟨rfl,rfl⟩);go_ret;exact⟨rfl,rfl⟩
theorem X3(g cap:Nat)(x y:Int)(w:eB)(h0:w.cell? ⟨g,0,ν⟩=μ (ι κ x))(h1:w.cell? ⟨g,1,ν⟩=μ (ι κ y)):
 fj fk 215 #[σ (μ ⟨g,0,ν⟩) 2 cap] w λe w'=>e=ρ (ι κ (if x≠0 then x else y))/\w=w':=by
 have hg:g<w.heap.size:=af w _ h0;cases q:(x !=0)
 ·have hx:x=0:=by simpa using q
  cases q2:(y !=0)
  ·have hy:y=0:=by simpa using q2
   have hv:(if x≠0 then x else y)=0:=by simp[hx,hy]
   rw[hv];clear hv hx hy
   go_in
   go_wp2_with(fail);refine b9 3 ?_;rw[bO];go_wp2_with(fail);rw[bO];go_wp2_with(fail);rw[bO]
   go_wp2
   go_ret;exact⟨rfl,rfl⟩
  ·have hv:(if x≠0 then x else y)=y:=by simp[hx]
   rw[hv];clear hv hx
   go_in
   go_wp2_with(fail);refine b9 3 ?_;rw[bO];go_wp2_with(fail);rw[bO]
   go_wp2
   go_ret;exact⟨rfl,rfl⟩
 ·have hx:¬x=0:=by simpa using q
  have hv:(if x≠0 then x else y)=x:=by simp[hx]
  rw[hv];clear hv hx
  go_in
  go_wp2_with(fail);refine b9 3 ?_;rw[bO]
  go_wp2
  go_ret;exact⟨rfl,rfl⟩
theorem Mq(W:eB)(x y:eD)(t:TypeId)(g:Nat)(hg:W.heap.size=g):(W.alloc (γ #[x,y] t)).drew.cell? ⟨g,0,ν⟩=μ x/\(W.alloc (γ #[x,y] t)).drew.cell? ⟨g,1,ν⟩=μ y:=by
 subst hg;exact⟨aq W #[x,y] t (0,0) 0,aq W #[x,y] t (0,0) 1⟩
theorem QB(a b c d:Int)(w:eB):fj fk 214 #[.agg #[ι κ a,ι κ b],.agg #[ι κ c,ι κ d]] w λe w'=>e=ρ (ι κ (wP (a,b) (c,d)))/\eN w w':=by
 have pN:eN w ((w.alloc (γ #[ι κ a,ι κ b] 123)).alloc (γ #[ι κ c,ι κ d] 123)):=(iB _ _).alloc iC _;obtain⟨p,hp⟩:=gH (l5 a c);obtain⟨q,hq⟩:=gH (l5 b d);have hv:wP (a,b) (c,d)=if p≠0 then p else q:=by simp[wP,hp,hq]
 have h3:=λ(g cap:Nat) (W:eB) h0 h1=>X3 g cap p q W h0 h1;rw[hv];generalize (if p≠0 then p else q)=r at h3;have H3:Hid _:=h3;clear h3;have h1:=λW=>rQ a c W;have h2:=λW=>rQ b d W;rw[hp]at h1;rw[hq]at h2;clear hv hp hq
 go_in
 go_wp2_with(fail);obtain⟨W0,nL⟩:=gH ((w.alloc (γ #[ι κ a,ι κ b] 123)).alloc (γ #[ι κ c,ι κ d] 123));have hs:W0.heap.size=w.heap.size+1+1:=by rw[<-nL];simp
 have x0:W0.cell? ⟨w.heap.size,0,ν⟩=μ (ι κ a):=by rw[<-nL];exact((iB _ _).cell (p:=⟨w.heap.size,0,ν⟩) iC).trans (aq w #[ι κ a,ι κ b] 123 (0,0) 0)
 have x1:W0.cell? ⟨w.heap.size,1,ν⟩=μ (ι κ b):=by rw[<-nL];exact((iB _ _).cell (p:=⟨w.heap.size,1,ν⟩) iC).trans (aq w #[ι κ a,ι κ b] 123 (0,0) 1)
 have y0:W0.cell? ⟨w.heap.size+1,0,ν⟩=μ (ι κ c):=by rw[<-nL];simp
 have y1:W0.cell? ⟨w.heap.size+1,1,ν⟩=μ (ι κ d):=by rw[<-nL];simp
 have xl:w.heap.size<W0.heap.size:=af W0 _ x0;have yl:w.heap.size+1<W0.heap.size:=af W0 _ y0;rw[nL]at pN⊢;have HS:Hid _:=hs;clear nL hs;obtain⟨X,hX⟩:=gH (w.heap.size);have HX:Hid _:=hX;rw[hX]at x0 x1 y0 y1 xl yl⊢;clear hX;have F0:W0.drew.cell? ⟨X,0,ν⟩=μ (ι κ a)/\W0.drew.cell? ⟨X,1,ν⟩=μ (ι κ b)/\W0.drew.cell? ⟨X+1,0,ν⟩=μ (ι κ c)/\W0.drew.cell? ⟨X+1,1,ν⟩=μ (ι κ d):=⟨x0,x1,y0,y1⟩
 go_region_held3(λx=>x.cell? ⟨X,0,ν⟩=μ (ι κ a)/\x.cell? ⟨X,1,ν⟩=μ (ι κ b)/\x.cell? ⟨X+1,0,ν⟩=μ (ι κ c)/\x.cell? ⟨X+1,1,ν⟩=μ (ι κ d))
  (first|assumption|exact F0|go_keep)
  (first
   |(go_at_call_of 204 a;refine(h1 _).mono ?_;rintro e w1 ⟨rfl,rfl⟩)
   |(go_at_call_of 204 b;refine(h2 _).mono ?_;rintro e w1 ⟨rfl,rfl⟩)
   |(go_at_call 215;refine(H3.out _ _ _ (Mq _ _ _ _ _ (by rfl)).1 (Mq _ _ _ _ _ (by rfl)).2).mono ?_;rintro e w1 ⟨rfl,rfl⟩))
 all_goals
  go_wp2
  go_ret;exact⟨rfl,below_drewN (pN.alloc pN.size _) 1⟩
theorem AF(a b:Option eA)(n m ca cb:Nat)(es fs:List j2)(w:eB)(ha:jm w a n es)(hb:jm w b m fs)(hn:n<=1000000):
 fj fk 213 #[σ a n ca,σ b m cb,.func (.func 214) #[] #[]] w λe w'=>e=ρ (ι κ (lN es fs))/\eN w w':=by
 have hla:=ha.1;have T9:=hb.1
 go_in
 go_wp2
 go_loopw [13] (λi wr=>∃k:Nat,k<=n/\k<=m/\i=ι κ k/\lN es fs=lN (es.drop k) (fs.drop k)/\eN w wr) (λi _=>n-(intOf i).toNat)
 case atStart=>exact⟨0,Nat.zero_le _,Nat.zero_le _,rfl,rfl,au _ _⟩
 case round=>
  obtain⟨k,hk,hkm,rfl,Mp,ja⟩:=hrel;have HF:Hid _:=Mp;clear Mp;by_cases kH:k<n
  ·have nG:(k:Int)<(n:Int):=eE;rcases(ha.below ja).2 with h0|⟨b1,o1,rfl,hA⟩
   ·omega
   obtain⟨c1,c2⟩:=hA k eE;have H1:Hid (es.drop k=es[k]'(by omega)::es.drop (k+1)):=aR eE;generalize es[k]'(by omega)=o at c1 c2 H1;clear hA;have kt:=ja.alloc ja.size (γ #[ι κ o.1,ι κ o.2] 123);by_cases hlm:k<m
   ·have afb:¬(m:Int)<=(k:Int):=eE;have akb:(k:Int)<(m:Int):=eE;rcases(hb.below kt).2 with h0|⟨b2,o2,rfl,hB⟩
    ·omega
    obtain⟨c3,c4⟩:=hB k eE;have H2:Hid (fs.drop k=fs[k]'(by omega)::fs.drop (k+1)):=aR eE;generalize fs[k]'(by omega)=q at c3 c4 H2;clear hB;have mf:=kt.alloc kt.size (γ #[ι κ q.1,ι κ q.2] 123);have hc:=λW=>QB o.1 o.2 q.1 q.2 W;have HS:Hid (lN es fs=if wP (o.1,o.2) (q.1,q.2)≠0 then wP (o.1,o.2) (q.1,q.2)else lN (es.drop (k+1)) (fs.drop (k+1))):=by
     show _=_;rw[HF.out,H1.out,H2.out,lN]
    generalize wP (o.1,o.2) (q.1,q.2)=r at hc HS;cases hr:(r !=0)
    ·have BO:Hid (lN es fs=lN (es.drop (k+1)) (fs.drop (k+1))):=by
      show _=_;have UI:r=0:=by simpa using hr
      rw[HS.out,UI];simp
     go_wp2_with(fail);refine(hc _).mono ?_;rintro e w1 ⟨rfl,k1⟩;have sL:=iA mf k1;clear hc
     go_wp2
     go_roundw
     case rel=>exact⟨k+1,eE,eE,by go_num,BO.out,sL⟩
     case measure=>simp[intOf];omega
    ·have BO:Hid (lN es fs=r):=by
      show _=_;have UI:¬r=0:=by simpa using hr
      rw[HS.out,ag UI]
     go_wp2_with(fail);refine(hc _).mono ?_;rintro e w1 ⟨rfl,k1⟩;have sL:=iA mf k1;clear hc;go_wp2_with(fail);rw[BO.out];go_ret;exact⟨rfl,sL⟩
   ·have afb:(m:Int)<=(k:Int):=eE;have HS:Hid (lN es fs=1):=by
     show _=_;rw[HF.out,H1.out,aX (show fs.length<=k by omega),lN]
    go_wp2_with(fail);rw[HS.out];go_ret;exact⟨rfl,kt⟩
  ·have yG:¬(k:Int)<(n:Int):=eE;have H1:es.drop k=[] :=aX eE;by_cases Mr:(n:Int)<(m:Int)
   ·have HS:Hid (lN es fs= -1):=by
     show _=_;rw[HF.out,H1,aR (show k<fs.length by omega),lN]
    clear H1;go_wp2_with(fail);rw[HS.out];go_ret;exact⟨rfl,ja⟩
   ·have HS:Hid (lN es fs=0):=by
     show _=_;rw[HF.out,H1,aX (show fs.length<=k by omega),lN]
    clear H1;go_wp2_with(fail);rw[HS.out];go_ret;exact⟨rfl,ja⟩
theorem En(o1 s1 o2 s2:Int)(a b:Option eA)(n m ca cb:Nat)(es fs:List j2)(w:eB)(ha:jm w a n es)(hb:jm w b m fs)(hn:n<=1000000):
 fj fk 189 #[.agg #[ι κ o1,ι κ s1,σ a n ca],.agg #[ι κ o2,ι κ s2,σ b m cb]] w λe w'=>e=ρ (ι κ (mU s1 es s2 fs))/\eN w w':=by
 have pN:eN w ((w.alloc (γ #[ι κ o1,ι κ s1,σ a n ca] 40)).alloc (γ #[ι κ o2,ι κ s2,σ b m cb] 40)):=(iB _ _).alloc iC _;have h1:=rQ s1 s2 ((w.alloc (γ #[ι κ o1,ι κ s1,σ a n ca] 40)).alloc (γ #[ι κ o2,ι κ s2,σ b m cb] 40));have h2:=AF a b n m ca cb es fs _ (ha.below pN) (hb.below pN) hn;have hv:mU s1 es s2 fs=if l5 s1 s2≠0 then l5 s1 s2 else lN es fs:=rfl
 rw[hv];clear hv;generalize lN es fs=q at h2;generalize l5 s1 s2=r at h1;cases hr:(r !=0)
 ·have UI:(if r≠0 then r else q)=q:=by simp at hr;simp[hr]
  rw[UI];clear UI
  go_in
  go_wp2_with(fail);refine h1.mono ?_;rintro e w1 ⟨rfl,rfl⟩;clear h1;go_wp2_with(fail);refine h2.mono ?_;rintro e w2 ⟨rfl,k2⟩;clear h2
  go_wp2
  go_ret;exact⟨rfl,iA pN k2⟩
 ·have UI:(if r≠0 then r else q)=r:=by simp at hr;simp[hr]
  rw[UI];clear UI h2
  go_in
  go_wp2_with(fail);refine h1.mono ?_;rintro e w1 ⟨rfl,rfl⟩;clear h1
  go_wp2
  go_ret;exact⟨rfl,pN⟩
theorem Hw(a:eA)(n cap:Nat)(w:eB):(binOp .eql 38 (σ (μ a) n cap) (σ ν 0 0)).run fk w=.ok (.bool false) w:=gT
theorem UJ(w:eB):(binOp .eql 38 (σ ν 0 0) (σ ν 0 0)).run fk w=.ok (.bool true) w:=gT
theorem zP(a:eA)(cap:Nat)(w:eB):
 fj fk 206 #[σ (μ a) 0 cap] w λe w'=>∃(v:eD),e=ρ v/\Made w w' v [] :=by
 have hq:=Hw
 go_in
 go_wp2
 go_ret;exact⟨_,rfl,⟨Row.made w 2 _ #[] (0,0) 0 0 [] rfl rfl (Nat.le_refl _) eH (.inl rfl) iC,λj hj=>kG (Nat.le_refl _) hj,iB _ _⟩⟩
theorem Kd(w:eB):
 fj fk 206 #[σ ν 0 0] w λe w'=>∃(v:eD),e=ρ v/\Made w w' v [] :=by
 have hq:=UJ
 go_in
 go_wp2
 go_ret;exact⟨_,rfl,⟨Row.nil w 2,λj hj=>mZ hj,au _ _⟩⟩
theorem Hx(b off n cap:Nat)(os:List j2)(w:eB)(hn:n<=1000000)(sJ:0<n)(ho:jm w (μ ⟨b,off,ν⟩) n os):
 fj fk 206 #[σ (μ ⟨b,off,ν⟩) n cap] w λe w'=>∃(v:eD),e=ρ v/\Made w w' v os:=by
 obtain⟨i0,hi,oz,mW,nT⟩:=aW BL;have hq:=Hw;have pN:eN w (w.alloc (γ #[] 123)):=iB _ _;have hl:=ho.1;have ji:Row (w.alloc (γ #[] 123)) 2 (σ (μ ⟨w.heap.size,0,ν⟩) 0 0) 0 [] :=Row.made w 2 _ #[] (0,0) 0 0 [] rfl rfl (Nat.le_refl _) eH (.inl rfl) iC
 go_in
 go_wp2_with(at_builtin;go_must(refine iX _ rfl (.tmp 5) (.tmp 6) 38 rfl 123 i0 (.agg #[ι κ 0,ι κ 0]) 2 16 cW hi oz mW nT rfl eH (σ (μ ⟨w.heap.size,0,ν⟩) 0 0) 0 [] rfl ji _ n cap (jh os) rfl (by rw[lI];omega) sJ ((ho.below pN).cells sJ) (He _) (by unfold maxLen;omega) eE ?_));intro g1 AB w1 kU ki jD;have kt:=lJ pN ki (λj hj=>kG (Nat.le_refl _) hj);have mM:=nE (B:=w.heap.size) jD eE (λj hj=>kG (Nat.le_refl _) hj);clear ki jD
 go_wp2
 go_ret;refine⟨_,rfl,⟨?_,λj hj=>kG mM hj,kt⟩⟩;rw[hl];exact kU
theorem Ke(a:Option eA)(n cap:Nat)(os:List j2)(w:eB)(hn:n<=1000000)(kj:kM a cap)(ho:jm w a n os):
 fj fk 206 #[σ a n cap] w λe w'=>∃(v:eD),e=ρ v/\Made w w' v os:=by
 rcases ho.2 with h0|⟨b,off,rfl,hc⟩
 ·subst h0;have DA:os=[] :=aG ho.1;subst DA;cases a with
  |none=>
   obtain rfl:=kj rfl;exact Kd w
  |some a=>exact zP a cap w
 ·by_cases sJ:0<n
  ·exact Hx b off n cap os w hn sJ ho
  ·have h0:n=0:=eE;subst h0;have DA:os=[] :=aG ho.1;subst DA;exact zP _ cap w
structure QC(w w':eB)(e:Ending)(own seq:Int)(os:List j2):Prop where
 out:∃(a:Option eA) (cap:Nat),e=ρ (.agg #[ι κ own,ι κ seq,σ a os.length cap])/\jm w' a os.length os/\kM a cap/\os.length<=cap/\(∀j,eF (σ a os.length cap)=μ j->w.heap.size<=j/\j<w'.heap.size)
 below:eN w w'
theorem BP(own seq:Int)(a:Option eA)(n cap:Nat)(os:List j2)(w:eB)(hn:n<=1000000)(kj:kM a cap)(ho:jm w a n os):
 fj fk 169 #[.agg #[ι κ own,ι κ seq,σ a n cap]] w λe w'=>QC w w' e own seq os:=by
 have hz:=oT;have pN:eN w ((w.alloc (γ #[ι κ own,ι κ seq,σ a n cap] 40)).alloc (γ #[ι κ 0,ι κ 0,σ ν 0 0] 40)):=(iB _ _).alloc iC _;obtain⟨W0,nL⟩:=gH ((w.alloc (γ #[ι κ own,ι κ seq,σ a n cap] 40)).alloc (γ #[ι κ 0,ι κ 0,σ ν 0 0] 40));have X4:W0.heap[w.heap.size]? =μ (γ #[ι κ own,ι κ seq,σ a n cap] 40 (0,0)):=by
  rw[<-nL,aT _ _ _ iC];exact aV w _
 have hY0:W0.heap[w.heap.size+1]? =μ (γ #[ι κ 0,ι κ 0,σ ν 0 0] 40 (0,0)):=by
  have h:=aV (w.alloc (γ #[ι κ own,ι κ seq,σ a n cap] 40)) (γ #[ι κ 0,ι κ 0,σ ν 0 0] 40);rw[nL]at h;simpa using h
 rw[nL]at pN;have tN:=Ke a n cap os W0 hn kj (ho.below pN);have HW:Hid _:=nL;clear nL
 go_in
 go_wp2_with(fail);rw[HW.out];refine tN.mono ?_;rintro e w1 ⟨v,rfl,hM⟩;clear tN;obtain⟨va,vc,rfl,vn,vl⟩:=hM.shape;have k1:=hM.below;have Ms:=(k1.block _ (aw.1 X4).1).trans X4;have hY1:=(k1.block _ (aw.1 hY0).1).trans hY0;have x0:w1.cell? ⟨w.heap.size,0,ν⟩=μ (ι κ own):=av w1 _ 0 _ _ (0,0) Ms;have x1:w1.cell? ⟨w.heap.size,1,ν⟩=μ (ι κ seq):=av w1 _ 1 _ _ (0,0) Ms;have x2:w1.cell? ⟨w.heap.size,2,ν⟩=μ (σ a n cap):=av w1 _ 2 _ _ (0,0) Ms;have y0:w1.cell? ⟨w.heap.size+1,0,ν⟩=μ (ι κ 0):=av w1 _ 0 _ _ (0,0) hY1;have y1:w1.cell? ⟨w.heap.size+1,1,ν⟩=μ (ι κ 0):=av w1 _ 1 _ _ (0,0) hY1;have y2:w1.cell? ⟨w.heap.size+1,2,ν⟩=μ (σ ν 0 0):=av w1 _ 2 _ _ (0,0) hY1;have fx:=λj=>bw w1 w.heap.size j _ _ Ms;have fy:=λj=>bw w1 (w.heap.size+1) j _ _ hY1;have lx:w.heap.size<w1.heap.size:=af w1 _ x0;have ly:w.heap.size+1<w1.heap.size:=af w1 _ y0;have hk:=iA pN k1;have jw:∀j,eF (σ va os.length vc)=μ j->w.heap.size+2<=j:=λj hj=>by
  have h1:=hM.new j hj;have h2:w.heap.size+1<W0.heap.size:=(aw.1 hY0).1;omega
 have kH:∀j,eF (σ va os.length vc)=μ j->j<w1.heap.size:=hM.row.lt;have AG:=hM.opts.2;have HC:Hid (∀u v x y:eD,QC w ((((w1.setCell ⟨w.heap.size,2,ν⟩ u).setCell ⟨w.heap.size+1,0,ν⟩ v).setCell ⟨w.heap.size+1,1,ν⟩ x).setCell ⟨w.heap.size+1,2,ν⟩ y) (ρ (.agg #[ι κ own,ι κ seq,σ va os.length vc])) own seq os):=by
  intro u v x y;refine⟨⟨va,vc,rfl,?_,vn,vl,λj hj=>⟨by have:=jw j hj;omega,by simpa using kH j hj⟩⟩,(((hk.setCell (Nat.le_refl _) _).setCell (by show _<=w.heap.size+1;omega) _).setCell (by show _<=w.heap.size+1;omega) _).setCell (by show _<=w.heap.size+1;omega) _⟩;refine⟨rfl,?_⟩;rcases AG.2 with h0|⟨b,off,rfl,hc⟩
  ·exact .inl h0
  ·refine .inr ⟨b,off,rfl,λj hj=> ?_⟩;have hb:w.heap.size+2<=b:=jw b rfl;have e1:∀o,((((w1.setCell ⟨w.heap.size,2,ν⟩ u).setCell ⟨w.heap.size+1,0,ν⟩ v).setCell ⟨w.heap.size+1,1,ν⟩ x).setCell ⟨w.heap.size+1,2,ν⟩ y).cell? ⟨b,o,ν⟩=w1.cell? ⟨b,o,ν⟩:=λo=>by
    apply ai;rw[ak _ _ _ _ (by show b≠w.heap.size+1;omega),ak _ _ _ _ (by show b≠w.heap.size+1;omega),ak _ _ _ _ (by show b≠w.heap.size+1;omega),ak _ _ _ _ (by show b≠w.heap.size;omega)]
   rw[e1,e1];exact hc j hj
 clear hM k1 Ms hY1 jw kH AG hk X4 hY0;go_wp2_with(fail);refine aj (v:=.agg #[ι κ own,ι κ seq,σ va os.length vc]) (by simp[results,Tryz.results169,go_sem,y0,y1,y2]) rfl ?_;exact HC.out _ _ _ _
open Go.ChangeShapes Go.WideShapes Go.ChangeAt
theorem yN(own seq:Int)(a:Option eA)(n cap:Nat)(os:List j2)(w:eB)(hn:n<=maxLen)(ho:jm w a n os):
 fj fk 117 #[.agg #[ι κ own,ι κ seq,σ a n cap]] w λe w'=>e=ρ (jy (pj own seq os))/\eN w w':=by
 by_cases h6:n<=6
 ·exact wQ own seq a n cap os w eE ho
 unfold maxLen at hn;have l7:=iB w (γ #[ι κ own,ι κ seq,σ a n cap] 40);have H1:Hid (jy 1=.iface 128 (ι κ 1)):=rfl;have H2:Hid (jy 2=.iface 128 (ι κ 2)):=rfl;have hl:=ho.1;have hr:=tO own (w.alloc (γ #[ι κ own,ι κ seq,σ a n cap] 40));have one:(own<1 \/6<own \/seq<1 \/1000000<seq)->Hid (pj own seq os=1):=λhh=>by show _=_;rw[pj,ag hh]
 by_cases r1:own<1 \/6<own
 ·have HZ:=one eE;rw[yM own r1]at hr;clear one
  go_in
  go_wp2_with(fail);refine hr.mono ?_;rintro e w1 ⟨rfl,rfl⟩;go_wp2_with(fail);rw[HZ.out,H1.out];go_ret;exact⟨rfl,l7⟩
 rw[BM own eE eE]at hr;by_cases r2:seq<1
 ·have HZ:=one eE;clear one
  go_in
  go_wp2_with(fail);refine hr.mono ?_;rintro e w1 ⟨rfl,rfl⟩;go_wp2_with(fail);rw[HZ.out,H1.out];go_ret;exact⟨rfl,l7⟩
 by_cases r3:1000000<seq
 ·have HZ:=one eE;clear one
  go_in
  go_wp2_with(fail);refine hr.mono ?_;rintro e w1 ⟨rfl,rfl⟩;go_wp2_with(fail);rw[HZ.out,H1.out];go_ret;exact⟨rfl,l7⟩
 clear one;have r4:(6:Int)<(n:Int):=eE;have HZ:Hid (pj own seq os=2):=by show _=_;rw[pj,ae eE,ag eE]
 go_in
 go_wp2_with(fail);refine hr.mono ?_;rintro e w1 ⟨rfl,rfl⟩;go_wp2_with(fail);rw[HZ.out,H2.out];go_ret;exact⟨rfl,l7⟩
end Go.Proofs.YtieklnlbljejdaaGreatDoor
