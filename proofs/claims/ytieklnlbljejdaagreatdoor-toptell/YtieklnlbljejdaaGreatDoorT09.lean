import Derived.Test.YtieklnlbljejdaaGreatDoorT07
import Derived.Test.YtieklnlbljejdaaGreatDoorT08
open Go.Value renaming int → ι, slice → σ, pointer → π, tuple → τ, nilIface → η
open Go.IntKind renaming i64 → κ
open Go.Ending renaming returned → ρ
open Go.Obj renaming cells → γ
open Option renaming none → ν, some → μ
open List renaming range → fG, length_cons → eE, length_nil → eQ, foldl_nil → fI, nil_append → fJ
open Go renaming Value → dO, World → dN, Calls → eM
open Go.Proofs.Tryz renaming prog → eN
open Go.RowKit renaming wrap64 → fH, intOf → eP
open ByteArray renaming empty → fa
open Go.Value renaming ownBlock → dQ
open Go.IntKind renaming i64 → fC
set_option maxRecDepth 100000
set_option maxHeartbeats 8000000
namespace Go.Proofs.YtieklnlbljejdaaGreatDoor
open Go.RowKit
variable {B C g o:Nat} {F:Nat->Value} {a b w w':World} {d e:Bool} {l:List UInt8} {pre ss:List SV} {s:LS} {v:Value} {x:SV}
def TL:List UInt8->Int->Int
 |[],x=>x
 |c::r,x=>TL r (if c=105 then 4 else if c=122 then 0 else if c=114 then x-1 else if c=116 then x-1 else x)
def TM:List UInt8->Int->Int
 |[],x=>x
 |c::r,x=>TM r (if c=105 then x else if c=122 then 3 else if c=114 then 3 else if c=116 then 3 else x)
theorem DA:∀(L:List UInt8) (s:LS),0<=s.ow->s.ow<=255->(pw L s).st=s.st/\(pw L s).sz=s.sz/\(pw L s).fs=s.fs/\(pw L s).fm=s.fm/\(pw L s).ns=s.ns/\(pw L s).nm=s.nm/\(pw L s).lf=TL L s.lf/\(pw L s).wt=TM L s.wt/\0<=(pw L s).ow/\(pw L s).ow<=255
 |[],s,h1,h2=>⟨rfl,rfl,rfl,rfl,rfl,rfl,rfl,rfl,h1,h2⟩
 |c::r,s,h1,h2=>by
  have e:pw (c::r) s=pw r (oG c s):=rfl;have V:(oG c s).st=s.st/\(oG c s).sz=s.sz/\(oG c s).fs=s.fs/\(oG c s).fm=s.fm/\(oG c s).ns=s.ns/\(oG c s).nm=s.nm/\(oG c s).lf=(if c=105 then 4 else if c=122 then 0 else if c=114 then s.lf-1 else if c=116 then s.lf-1 else s.lf)/\(oG c s).wt=(if c=105 then s.wt else if c=122 then 3 else if c=114 then 3 else if c=116 then 3 else s.wt)/\0<=(oG c s).ow/\(oG c s).ow<=255:=by
   by_cases c1:c=105
   ·subst c1;exact⟨rfl,rfl,rfl,rfl,rfl,rfl,rfl,rfl,h1,h2⟩
   ·by_cases c2:c=122
    ·subst c2;exact⟨rfl,rfl,rfl,rfl,rfl,rfl,rfl,rfl,h1,h2⟩
    ·by_cases c3:c=114
     ·subst c3;exact⟨rfl,rfl,rfl,rfl,rfl,rfl,rfl,rfl,by show 0<=(s.ow+1) %256;omega,by show(s.ow+1) %256<=255;omega⟩
     ·by_cases c4:c=116
      ·subst c4;exact⟨rfl,rfl,rfl,rfl,rfl,rfl,rfl,rfl,by show 0<=(s.ow+1) %256;omega,by show(s.ow+1) %256<=255;omega⟩
      ·have X:oG c s=s:=by simp[oG,c1,c2,c3,c4]
       rw[X,ae c1,ae c2,ae c3,ae c4,ae c1,ae c2,ae c3,ae c4];exact⟨rfl,rfl,rfl,rfl,rfl,rfl,rfl,rfl,h1,h2⟩
  obtain⟨U,T,p3,S,Q,M,J,H,G,Z⟩:=V;obtain⟨q1,q2,E,D,A,q6,y,u,t,Y⟩:=DA r (oG c s) G Z;rw[e];exact⟨q1.trans U,q2.trans T,E.trans p3,D.trans S,A.trans Q,q6.trans M,by rw[y,J];rfl,by rw[u,H];rfl,t,Y⟩
def vq(st lf wt:Int):Bool:=decide (0<=st)&&decide (st<=9)&&decide (0<=lf)&&decide (lf<=4)&& (!(decide (st=7)||decide (st=9))||decide (lf=4))&&decide (0<=wt)&&decide (wt<=3)&& (!(decide (4<=st)&&decide (st<=8))||decide (1<=wt))
theorem rV(st lf wt:Int):vq st lf wt=true↔(0<=st/\st<=9/\0<=lf/\lf<=4/\(st=7 \/st=9->lf=4)/\0<=wt/\wt<=3/\(4<=st/\st<=8->1<=wt)):=by
 simp only[vq,Bool.and_eq_true,Bool.or_eq_true,Bool.not_eq_true',decide_eq_true_eq,decide_eq_false_iff_not,Bool.or_eq_false_iff,Bool.and_eq_false_iff];constructor
 ·rintro⟨⟨⟨⟨⟨⟨⟨a,b⟩,c⟩,d⟩,e⟩,f⟩,g⟩,h⟩;exact⟨a,b,c,d,dP,f,g,dP⟩
 ·rintro⟨a,b,c,d,e,f,g,h⟩;exact⟨⟨⟨⟨⟨⟨⟨a,b⟩,c⟩,d⟩,dP⟩,f⟩,g⟩,dP⟩
theorem Xg:((fG 12).all λe=>(fG 10).all λs=>(fG 5).all λl=>(fG 4).all λt=> !(e !=4&&e !=5&&vq (s:Int) (l:Int) (t:Int)&& ((kF s e).2.2==0))||vq (kF s e).2.1 (TL (kF s e).1 (l:Int)) (TM (kF s e).1 (t:Int)))=true:=by decide+kernel
theorem Qk(e:Nat)(T:e<12)(s:Nat)(hs:s<10)(l:Nat)(hl:l<5)(t:Nat)(S:t<4)(h:e≠4/\e≠5/\vq (s:Int) (l:Int) (t:Int)=true/\(kF s e).2.2=0):vq (kF s e).2.1 (TL (kF s e).1 (l:Int)) (TM (kF s e).1 (t:Int))=true:=by
 have Z:=a6.1 (a6.1 (a6.1 (a6.1 Xg e (aY.2 T)) s (aY.2 hs)) l (aY.2 hl)) t (aY.2 S);obtain⟨Y,X,V,U⟩:=h;have b4:(e !=4)=true:=by simpa using Y
 have b5:(e !=5)=true:=by simpa using X
 have b7:((kF s e).2.2==0)=true:=by simpa using U
 rw[b4,b5,V,b7]at Z;simpa using Z
theorem GZ:∀s:Nat,s<10->∀l:Nat,l<5->(4<=s/\s<=8/\1<=l/\vq (s:Int) (l:Int) 1=true)->vq (kF s 4).2.1 (TL (kF s 4).1 (l:Int)) (TM (kF s 4).1 0)=true:=by decide+kernel
theorem G0:∀s:Nat,s<10->(4<=s/\s<=8/\vq (s:Int) 0 1=true)->vq (kF s 5).2.1 (TL (kF s 5).1 0) (TM (kF s 5).1 0)=true:=by decide+kernel
structure yb(s:LS):Prop where
 ok:vq s.st s.lf s.wt=true
 o1:0<=s.ow
 o2:s.ow<=255
 m1:0<=s.nm
 m2:s.nm<=255
 f1:0<=s.fm
 f2:s.fm<=255
theorem yb.bd(h:yb s):Bd s 100:=by
 obtain⟨a,b,c,d,_⟩:=(rV _ _ _).1 h.ok;exact⟨h.o1,h.o2,dP,dP⟩
theorem yb.wt {s:LS} (h:yb s):0<=s.wt/\s.wt<=3:=by
 obtain⟨_,_,_,_,_,a,b,_⟩:=(rV _ _ _).1 h.ok;exact⟨a,b⟩
theorem wh(h1:0<=s.ow)(h2:s.ow<=255)(m1:0<=s.nm)(m2:s.nm<=255)(f1:0<=s.fm)(f2:s.fm<=255)(ev:Int)(Z:vq (iN s.st ev).2.1 (TL (iN s.st ev).1 s.lf) (TM (iN s.st ev).1 s.wt)=true):yb (mX s ev):=by
 unfold mX;obtain⟨D,nx,f,U⟩:∃D nx f,iN s.st ev=(D,nx,f):=⟨_,_,_,rfl⟩
 rw[U]at Z⊢;simp only at Z⊢;have T:(s.next nx).st=nx/\(s.next nx).lf=s.lf/\(s.next nx).wt=s.wt/\(s.next nx).ow=s.ow/\(s.next nx).fm=s.fm/\((s.next nx).nm=s.nm \/(s.next nx).nm=s.fm):=by
  unfold LS.next;split
  ·exact⟨rfl,rfl,rfl,rfl,rfl,.inr rfl⟩
  ·exact⟨rfl,rfl,rfl,rfl,rfl,.inl rfl⟩
 obtain⟨n1,S,n3,n4,X,n6⟩:=T;obtain⟨q1,_,_,V,_,q6,Q,M,J,Y⟩:=DA D (s.next nx) dP dP;refine⟨by rw[q1,Q,M,n1,S,n3];exact Z,J,Y,?_,?_,by rw[V,X];exact f1,by rw[V,X];exact f2⟩
 ·rw[q6];rcases n6 with e|e<;>rw[e] <;>assumption
 ·rw[q6];rcases n6 with e|e<;>rw[e] <;>assumption
theorem yb.ev(h:yb s)(e:Nat)(Z:e<12)(U:e≠4)(T:e≠5)(vX:kr):yb (qU s e vX).1:=by
 by_cases hf:(iN s.st e).2.2=0
 ·rw[rF _ hf];obtain⟨a,b,c,d,_,f,g,_⟩:=(rV _ _ _).1 h.ok;refine wh h.o1 h.o2 h.m1 h.m2 h.f1 h.f2 e ?_;have V:=h.ok;obtain⟨st,Y⟩:∃st:Nat,s.st=st:=⟨s.st.toNat,dP⟩
  obtain⟨l,hl⟩:∃l:Nat,s.lf=l:=⟨s.lf.toNat,dP⟩
  obtain⟨t,X⟩:∃t:Nat,s.wt=t:=⟨s.wt.toNat,dP⟩
  rw[Y]at hf;rw[mC st e dP Z]at hf;rw[Y,hl,X,mC st e dP Z];rw[Y,hl,X]at V;exact Qk e Z st dP l dP t dP ⟨U,T,V,hf⟩
 ·rw[tV _ hf];exact h
theorem yb.ko {s:LS} (h:yb s)(ev:Int):yb (ko s ev).1:=by
 unfold Go.Proofs.YtieklnlbljejdaaGreatDoor.ko;split
 ·rename_i Z
  rcases Z with rfl|rfl|rfl|rfl
  ·exact h.ev 0 dS dS dS _
  ·exact h.ev 1 dS dS dS _
  ·exact h.ev 2 dS dS dS _
  ·exact h.ev 3 dS dS dS _
 ·exact h
theorem yb.tick(h:yb s):yb (j5 s):=by
 obtain⟨a,b,c,d,J,f,g,M⟩:=(rV _ _ _).1 h.ok;unfold j5;by_cases Q:4<=s.st/\s.st<=8
 ·rw[ae (by simp;omega)];by_cases X:0<s.wt-1
  ·rw[ag X];exact⟨(rV _ _ _).2 ⟨a,b,c,d,J,by show 0<=s.wt-1;omega,by show s.wt-1<=3;omega,λ_=>by show 1<=s.wt-1;omega⟩,h.o1,h.o2,h.m1,h.m2,h.f1,h.f2⟩
  ·rw[ae X];have U:s.wt=1:=by have:=M Q;omega
   have T:s.wt-1=0:=dP;have Z:=h.ok;obtain⟨st,Y⟩:∃st:Nat,s.st=st:=⟨s.st.toNat,dP⟩
   obtain⟨l,hl⟩:∃l:Nat,s.lf=l:=⟨s.lf.toNat,dP⟩
   by_cases V:0<s.lf
   ·rw[ag V];refine wh (s:={s with wt:=s.wt-1}) h.o1 h.o2 h.m1 h.m2 h.f1 h.f2 4 ?_;show vq (iN s.st 4).2.1 (TL (iN s.st 4).1 s.lf) (TM (iN s.st 4).1 (s.wt-1))=true;rw[T,Y,hl,show(4:Int)=((4:Nat):Int)from rfl,mC st 4 dP dS];rw[Y,hl,U]at Z;exact GZ st dP l dP ⟨dP,dP,dP,Z⟩
   ·rw[ae V];refine wh (s:={s with wt:=s.wt-1}) h.o1 h.o2 h.m1 h.m2 h.f1 h.f2 5 ?_;show vq (iN s.st 5).2.1 (TL (iN s.st 5).1 s.lf) (TM (iN s.st 5).1 (s.wt-1))=true;have S:s.lf=0:=dP;rw[T,Y,S,show(5:Int)=((5:Nat):Int)from rfl,mC st 5 dP dS];rw[Y,S,U]at Z;exact G0 st dP ⟨dP,dP,Z⟩
 ·rw[ag (by simp;omega)];exact h
theorem Bk:∀(os seen:List jv),oK seen os=0->∀o∈os,vU o.1=true/\vU o.2=true
 |[],_,_=>λo Y=>by simp at Y
 |o::r,seen,h=>by
  unfold oK at h;split at h
  ·simp at h
  ·rename_i Z
   split at h
   ·simp at h
   ·intro x hx;rcases a7.1 hx with rfl|hx
    ·simpa using Z
    ·exact Bk r (seen++ [o]) h x hx
theorem G4 {code id:Int} {os:List jv} (h:ju code id os=0):∀o∈os,vU o.1=true/\vU o.2=true:=by
 unfold ju at h;split at h
 ·simp at h
 ·split at h
  ·simp at h
  ·split at h
   ·simp at h
   ·exact Bk os [] h
theorem Lv(code:Int):∀(os:List jv) (p:Int×Int),(∀o∈os,vU o.1=true/\vU o.2=true)->0<=p.2->p.2<=255->0<=(nX code os p).2/\(nX code os p).2<=255
 |[],_,_,h1,h2=>⟨h1,h2⟩
 |o::r,p,hb,h1,h2=>by
  have e:nX code (o::r) p=nX code r (jL code p o):=rfl;rw[e];have Y:=(Al o.2).1 (hb o gN).2;have Z:0<=(jL code p o).2/\(jL code p o).2<=255:=by
   unfold jL;split
   ·split
    ·exact⟨h1,h2⟩
    ·split
     ·exact⟨Int.le_refl _,show(0:Int)<=255 by decide⟩
     ·exact⟨h1,h2⟩
   ·split
    ·split
     ·exact⟨h1,h2⟩
     ·split
      ·exact Y
      ·exact⟨h1,h2⟩
    ·exact⟨h1,h2⟩
  exact Lv code r _ (λx hx=>hb x (by simp[hx])) Z.1 Z.2
theorem yb.sized {s:LS} (h:yb s)(os:List jv):yb (s.sized os):=by
 unfold LS.sized;split
 ·exact⟨h.ok,h.o1,h.o2,h.m1,h.m2,h.f1,h.f2⟩
 ·exact h
theorem yb.jD {s:LS} (h:yb s)(p:kr):yb (jD s p).1:=by
 unfold Go.Proofs.YtieklnlbljejdaaGreatDoor.jD;split
 ·exact h
 ·rename_i X
  have Z:ju p.1 p.2.1 p.2.2=0:=by simpa using X
  split
  ·unfold rT;split
   ·split
    ·exact(h.ev 6 dS dS dS _).sized _
    ·exact h.ev 6 dS dS dS _
   ·exact h.ev 7 dS dS dS _
  ·split
   ·exact h.ev 10 dS dS dS _
   ·split
    ·exact h.ev 11 dS dS dS _
    ·unfold rG;split
     ·exact h
     ·split
      ·split
       ·exact h
       ·exact h.ev 8 dS dS dS _
      ·have Y:yb (s.tell p.1 p.2.2):=by
        unfold LS.tell;split
        ·have:=Lv p.1 p.2.2 (s.ns,s.nm) (G4 Z) h.m1 h.m2;exact⟨h.ok,h.o1,h.o2,this.1,this.2,h.f1,h.f2⟩
        ·exact h
       exact Y.ev 9 dS dS dS _
open Plain
structure Ao(F:Nat->dO)(l:List UInt8)(e d:Bool):Prop where
 len:l.length<=62
 live:∀i:Nat,i<62->∃x:Int,F i=.int .u8 x
 body:∀(i:Nat) (h:i<l.length),F i=.int .u8 (l[i].toNat:Int)
 many:F 62=ι κ (l.length:Int)
 esc:F 63=.bool e
 bad:F 64=.bool d
def Rd(w:dN)(g o:Nat)(l:List UInt8)(e d:Bool):Prop:=∃F,oV w g o 65 F/\Ao F l e d
theorem Ao.EW(h:Ao F l e d)(d':Bool):Ao (qV F 64 (.bool d')) l e d':=by
 have hlen:=h.len;refine⟨hlen,λi hi=> ?_,λi hi=> ?_,?_,?_,ot _ _ _⟩
 ·obtain⟨x,hx⟩:=h.live i hi;exact⟨x,by rw[jn _ _ dP];exact hx⟩
 ·rw[jn _ _ dP];exact h.body i hi
 ·rw[jn _ _ dP];exact h.many
 ·rw[jn _ _ dP];exact h.esc
theorem Ao.JK(h:Ao F l e d)(e':Bool):Ao (qV F 63 (.bool e')) l e' d:=by
 have hlen:=h.len;refine⟨hlen,λi hi=> ?_,λi hi=> ?_,?_,ot _ _ _,?_⟩
 ·obtain⟨x,hx⟩:=h.live i hi;exact⟨x,by rw[jn _ _ dP];exact hx⟩
 ·rw[jn _ _ dP];exact h.body i hi
 ·rw[jn _ _ dP];exact h.many
 ·rw[jn _ _ dP];exact h.bad
theorem Ao.push(h:Ao F l e d)(hl:l.length<62)(c:UInt8):
 Ao (qV (qV F l.length (.int .u8 (c.toNat:Int))) 62 (ι κ ((l.length:Int)+1))) (l++ [c]) e d:=by
 refine⟨by simp;omega,λi hi=> ?_,λi hi=> ?_,?_,?_,?_⟩
 ·rw[jn _ _ dP];by_cases Z:i=l.length
  ·rw[Z,ot];exact⟨_,rfl⟩
  ·rw[jn _ _ Z];exact h.live i hi
 ·have kV:i<l.length+1:=by simpa using hi
  rw[jn _ _ dP];by_cases Z:i=l.length
  ·subst Z;rw[ot];simp
  ·rw[jn _ _ Z,h.body i dP,List.getElem_append_left dP]
 ·rw[ot];simp
 ·rw[jn _ _ dP,jn _ _ dP];exact h.esc
 ·rw[jn _ _ dP,jn _ _ dP];exact h.bad
def qg:List UInt8×Bool×Bool->UInt8->List UInt8×Bool×Bool
 |(l,e,d),c=>
  if c<32 \/(c=125/\e=true)then(l,e,true)
  else if c=125 then(l,true,d)
  else if l.length=62 then(l,false,true)
  else(l++ [if e then c^^^32 else c],false,d)
theorem Ql(g o:Nat)(l:List UInt8)(e d:Bool)(c:UInt8)(w:dN)(h:Rd w g o l e d):
 eM eN 182 #[π (μ ⟨g,o,ν⟩),.int .u8 (c.toNat:Int)] w λe' w'=>e'=ρ (τ #[])/\Rd w' g o (qg (l,e,d) c).1 (qg (l,e,d) c).2.1 (qg (l,e,d) c).2.2/\kB w w' g o 65:=by
 obtain⟨F,hC,M⟩:=h;have V:Hid _:=M;have hlen:=M.len;have S:c<32↔(c.toNat:Int)<32:=by rw[UInt8.lt_iff_toNat_lt];show c.toNat<32↔_;omega
 have T:c=125↔((c.toNat:Int)==125)=true:=by
  rw[<-UInt8.toNat_inj,dJ];show c.toNat=125↔_;omega
 have aaQ:w.cell? ⟨g,o+62,ν⟩=μ (ι κ (l.length:Int)):=(hC.cell 62 dS).trans (congrArg μ M.many);have afb:w.cell? ⟨g,o+63,ν⟩=μ (.bool e):=(hC.cell 63 dS).trans (congrArg μ M.esc);have tX:w.cell? ⟨g,o+64,ν⟩=μ (.bool d):=(hC.cell 64 dS).trans (congrArg μ M.bad);have Y:∀i,i<65->w.frozen? ⟨g,o+i,ν⟩=false:=λi hi=>hC.fz i hi;have f62:=Y 62 dS;have f63:=Y 63 dS;have f64:=Y 64 dS;have I8:=hC.lt dS;have X:Hid (oV w g o 65 F):=hC;clear hC M;by_cases A:(c.toNat:Int)<32
 ·have Z:qg (l,e,d) c=(l,e,true):=by simp[qg,S.mpr A]
  rw[Z];clear S T Y
  go_in
  go_wp2
  first|go_end0|refine iq rfl rfl ?_
  exact⟨rfl,⟨_,X.out.set 64 dS _,V.out.EW true⟩,(kB.refl _ _ _ _).set _ dP dP _⟩
 ·have Q:¬c<32:=λx=>A (S.mp x);by_cases J:((c.toNat:Int)==125)=true
  ·have H:c=125:=T.mpr J;cases e
   ·have Z:qg (l,false,d) c=(l,true,d):=by simp[qg,H]
    rw[Z];clear S T H Q Y
    go_in
    go_wp2
    first|go_end0|refine iq rfl rfl ?_
    exact⟨rfl,⟨_,X.out.set 63 dS _,V.out.JK true⟩,(kB.refl _ _ _ _).set _ dP dP _⟩
   ·have Z:qg (l,true,d) c=(l,true,true):=by simp[qg,H]
    rw[Z];clear S T H Q Y
    go_in
    go_wp2
    first|go_end0|refine iq rfl rfl ?_
    exact⟨rfl,⟨_,X.out.set 64 dS _,V.out.EW true⟩,(kB.refl _ _ _ _).set _ dP dP _⟩
  ·have yo:((c.toNat:Int)==125)=false:=by simpa using J
   have G:¬c=125:=λx=>J (T.mp x);have hx:=Vo c;by_cases E:((l.length:Int)==62)=true
   ·have U:l.length=62:=by have:=dJ.mp E;omega
    have Z:qg (l,e,d) c=(l,false,true):=by simp[qg,G,Q,U]
    rw[Z];have L62:Hid _:=U;clear S T G Q U J Y;cases e
    ·go_in
     go_wp2
     first|go_end0|refine iq rfl rfl ?_
     exact⟨rfl,⟨_,X.out.set 64 dS _,V.out.EW true⟩,(kB.refl _ _ _ _).set _ dP dP _⟩
    ·go_in
     go_wp2
     first|go_end0|refine iq rfl rfl ?_
     exact⟨rfl,⟨_,(X.out.set 63 dS _).set 64 dS _,(V.out.JK false).EW true⟩,((kB.refl _ _ _ _).set _ dP dP _).set _ dP dP _⟩
   ·have rE:((l.length:Int)==62)=false:=by simpa using E
    have U:l.length<62:=by
     have:¬(l.length:Int)=62:=λe=>E (by simp[e]);omega
    have ahQ:(l.length:Int)<62:=dP;have Z:qg (l,e,d) c=(l++ [if e then c^^^32 else c],false,d):=by simp[qg,G,Q,Nat.ne_of_lt U]
    rw[Z];obtain⟨x,D⟩:=V.out.live _ U;have hcell:w.cell? ⟨g,o+l.length,ν⟩=μ (.int .u8 x):=(X.out.cell _ dP).trans (congrArg μ D);have fl:=Y l.length dP;clear S T G Q J E D Y;cases e
    ·go_in
     go_wp2
     go_region
     go_wp2_with(fail)
     go_end0
     exact⟨rfl,⟨_,(X.out.set _ dP _).set 62 dS _,V.out.push U c⟩,(((kB.refl _ _ _ _).set _ dP dP _).set _ dP dP _).drew⟩
    ·go_in
     go_wp2
     go_region
     go_wp2_with(fail)
     go_end0
     refine⟨rfl,⟨_,((X.out.set 63 dS _).set _ dP _).set 62 dS _,?_⟩,((((kB.refl _ _ _ _).set _ dP dP _).set _ dP dP _).set _ dP dP _).drew⟩;have y:=(V.out.JK false).push U (c^^^32);rw[UInt8.toNat_xor]at y;exact y
def mG(l:List UInt8)(e d:Bool):List UInt8×Bool×Nat:=
 if d=true \/e=true then([],true,4)
 else if l.length=0 then([],false,0)
 else if l.length<2 then([],true,4)
 else if(Plain.sum (l.take (l.length-2)):Int)=((l.getD (l.length-2) 0).toNat:Int)+256*((l.getD (l.length-1) 0).toNat:Int)then(l.take (l.length-2),true,0)
 else([],true,5)
theorem aaR(s:ByteArray)(w:dN)(hs:s.size<=maxLen):
 eM eN 210 #[.string s] w λe w'=>e=ρ (ι κ (Plain.sum s.data.toList:Nat))/\w'=w:=(K8 s w hs).mono λ_ _ ⟨a,b⟩=>⟨a,b.symm⟩
theorem Lw(a b:UInt8):fH (fH (a.toNat:Int)+fH (256*fH (b.toNat:Int)))=(a.toNat:Int)+256*(b.toNat:Int):=by
 have ha:=a.toNat_lt;have hb:=b.toNat_lt;rw[cr (a.toNat:Int) ⟨dP,dP⟩,cr (b.toNat:Int) ⟨dP,dP⟩,cr (256*(b.toNat:Int)) ⟨dP,dP⟩,cr _ ⟨dP,dP⟩]
theorem JM(l:List UInt8)(U:¬l.length<2)
 (Z:(((Plain.sum (l.take (l.length-2)):Nat):Int) !=fH (fH ((l[l.length-2]'(by omega)).toNat:Int)+fH (256*fH ((l[l.length-1]'(by omega)).toNat:Int))))=true):mG l false false=([],true,5):=by
 rw[Lw]at Z;have Y:¬((Plain.sum (l.take (l.length-2)):Nat):Int)=((l[l.length-2]'(by omega)).toNat:Int)+256*((l[l.length-1]'(by omega)).toNat:Int):=by simpa using Z
 have X:l.getD (l.length-2) 0=l[l.length-2]'(by omega):=by simp[show l.length-2<l.length by omega]
 have V:l.getD (l.length-1) 0=l[l.length-1]'(by omega):=by simp[show l.length-1<l.length by omega]
 unfold mG;rw[ae gN,ae dP,ae U,X,V,ae Y]
theorem G5(l:List UInt8)(U:¬l.length<2)
 (Z:(((Plain.sum (l.take (l.length-2)):Nat):Int) !=fH (fH ((l[l.length-2]'(by omega)).toNat:Int)+fH (256*fH ((l[l.length-1]'(by omega)).toNat:Int))))=false):mG l false false=(l.take (l.length-2),true,0):=by
 rw[Lw]at Z;have Y:((Plain.sum (l.take (l.length-2)):Nat):Int)=((l[l.length-2]'(by omega)).toNat:Int)+256*((l[l.length-1]'(by omega)).toNat:Int):=by simpa using Z
 have X:l.getD (l.length-2) 0=l[l.length-2]'(by omega):=by simp[show l.length-2<l.length by omega]
 have V:l.getD (l.length-1) 0=l[l.length-1]'(by omega):=by simp[show l.length-1<l.length by omega]
 unfold mG;rw[ae gN,ae dP,ae U,X,V,ag Y]
theorem xu:eN.arrayLen 137=62:=gJ
theorem Bl:eN.underlying 137=μ (.array (eN.arrayLen 137) (eN.elem 137)):=gJ
theorem JN(w:dN):(sizeOf (eN.elem 137)).run eN w=.ok 1 w:=gJ
theorem M4(g o:Nat)(l:List UInt8)(e d:Bool)(w:dN)(h:Rd w g o l e d):
 eM eN 183 #[π (μ ⟨g,o,ν⟩)] w λe' w'=>e'=ρ (τ #[.string ⟨(mG l e d).1.toArray⟩,.bool (mG l e d).2.1,iP (mG l e d).2.2])/\∃n,w'=w.drewN n:=by
 obtain⟨F,hC,X⟩:=h;have hlen:=X.len;have aaQ:w.cell? ⟨g,o+62,ν⟩=μ (ι κ (l.length:Int)):=(hC.cell 62 dS).trans (congrArg μ X.many);have afb:w.cell? ⟨g,o+63,ν⟩=μ (.bool e):=(hC.cell 63 dS).trans (congrArg μ X.esc);have tX:w.cell? ⟨g,o+64,ν⟩=μ (.bool d):=(hC.cell 64 dS).trans (congrArg μ X.bad);have Y:∀i (h:i<l.length),w.cell? ⟨g,o+i,ν⟩=μ (.int .u8 (l[i].toNat:Int)):=λi h=>(hC.cell i dP).trans (congrArg μ (X.body i h));have I8:=hC.lt dS;clear hC X;by_cases hd:d=true \/e=true
 ·have Z:mG l e d=([],true,4):=by simp[mG,hd]
  rw[Z];clear Z Y;rcases hd with rfl|rfl
  ·go_in
   go_wp2
   go_ret3
   exact⟨rfl,0,rfl⟩
  ·cases d
   ·go_in
    go_wp2
    go_ret3
    exact⟨rfl,0,rfl⟩
   ·go_in
    go_wp2
    go_ret3
    exact⟨rfl,0,rfl⟩
 ·obtain⟨rfl,rfl⟩:d=false/\e=false:=by cases d<;>cases e<;>simp_all
  by_cases V:l.length=0
  ·have Z:mG l false false=([],false,0):=by simp[mG,V]
   rw[Z];have U:((l.length:Int)==0)=true:=by simp[V]
   have H0:Hid _:=V;clear Z Y V hd
   go_in
   go_wp2
   go_ret3
   exact⟨rfl,0,rfl⟩
  ·have U:((l.length:Int)==0)=false:=by rw[cE];omega
   by_cases T:l.length<2
   ·have Z:mG l false false=([],true,4):=by simp[mG,V,T]
    rw[Z];clear Z Y hd
    go_in
    go_wp2
    go_ret3
    exact⟨rfl,0,rfl⟩
   ·have hsl:∀W:dN,(Instr.sliceAt 137 (π (μ ⟨g,o,ν⟩)) ν (μ (ι κ ((l.length:Int)-2))) ν).run eN W=.ok (σ (μ ⟨g,o,ν⟩) (l.length-2) 62) W:=by
     intro W;rw[run_sliceAt_array_h W 137 ⟨g,o,ν⟩ Bl .i64 _ dP (by rw[xu];omega),JN,xu];have M:((l.length:Int)-2).toNat=l.length-2:=dP;simp[slicedAt,Result.andThen,M,lW]
    have tU:(convert 140 9 (σ (μ ⟨g,o,ν⟩) (l.length-2) 62)).run eN w=.ok (.string ⟨(l.take (l.length-2)).toArray⟩) w:=by
     have Q:(l.take (l.length-2)).length=l.length-2:=gN;have:=dB (P:=eN) w 140 9 5 ⟨g,o,ν⟩ 62 (l.take (l.length-2)) bF du bT (λj hj=>by
      rw[lW,Y j dP];simp)
     rw[Q]at this;exact this
    have hA:=Y (l.length-2) dP;have hB:=Y (l.length-1) dP;have tA:(((l.length:Int)-2).toNat)=l.length-2:=dP;have tB:(((l.length:Int)-2+1).toNat)=l.length-1:=dP;have J:(ByteArray.mk (l.take (l.length-2)).toArray).size<=maxLen:=by
     show(l.take (l.length-2)).toArray.size<=maxLen;unfold maxLen;simp;omega
    go_in
    go_wp2
    go_quiet((go_at_call 210;exact Calls.quiet_of_same (aaR _ _ J)))
    go_wp2_with(fail)
    ·have S:=JM l T iL;rw[S]
     go_ret3
     exact⟨rfl,_,rfl⟩
    ·have S:=G5 l T iL;rw[S]
     go_ret3
     exact⟨rfl,_,rfl⟩
def DC:Array dO:= #[] ++Array.replicate 62 (.int .u8 0)++ #[ι κ 0,.bool false,.bool false]
theorem Xj:(eN.info? 139).map (λi=>(i.zero,i.size))=μ (μ (.agg DC),65):=gJ
theorem Qm:(∀w,(zeroValue 139).run eN w=.ok (.agg DC) w)/\(eN.info? 139).map (·.size)=μ 65:=bS Xj
theorem xw:DC.size=65:=dS
def JO(j:Nat):dO:=DC.getD j (.bool false)
theorem Ao.zero:Ao JO [] false false:=by
 refine⟨gN,λi hi=>⟨0,?_⟩,λi hi=>by simp at hi,gJ,gJ,gJ⟩;have h:DC[i]? =μ (.int .u8 0):=by
  unfold DC;rw[cC (by simp;omega)];simp[hi]
 unfold JO;rw[de,h];rfl
theorem TR:∀v∈DC.toList,v.oneCell'=true:=by
 have:DC.toList.all (·.oneCell')=true:=gJ;exact a6.mp this
theorem Bm(h:oV w g o 65 F):
 (storeCells ⟨g,o,ν⟩ DC.toList).run eN w=.ok () (w.setCells g o DC.toList)/\oV (w.setCells g o DC.toList) g o 65 JO/\kB w (w.setCells g o DC.toList) g o 65:=by
 have hl:DC.toList.length=65:=by simp[xw]
 have V:=run_storeCells_cells (P:=eN) g o DC.toList 0 w (λj Z=>by rw[Nat.add_zero,h.cell j dP];rfl) (λj Z=>by rw[Nat.add_zero];exact h.fz j dP) TR;have T:∀(vs:List dO) (o:Nat) (w:dN),(w.setCells g o vs).heap.size=w.heap.size/\(w.setCells g o vs).os=w.os/\(w.setCells g o vs).tape=w.tape/\(w.setCells g o vs).output=w.output/\∀k,k≠g->(w.setCells g o vs).heap[k]? =w.heap[k]? :=by
  intro vs
  induction vs with
  |nil=>intro o w;exact⟨rfl,rfl,rfl,rfl,λ_ _=>rfl⟩
  |cons u r ih=>
   intro o w;have:=ih (o+1) (w.setCell ⟨g,o,ν⟩ u);have b1:Below 0 w (w.setCell ⟨g,o,ν⟩ u):=(aq 0 w).setCell (Nat.zero_le _) _;refine⟨this.1.trans gN,this.2.1.trans b1.os,this.2.2.1.trans b1.tape,this.2.2.2.1.trans b1.output,λk Y=>(this.2.2.2.2 k Y).trans (ak _ _ _ k Y)⟩
 have B:=T DC.toList o w;refine⟨by simpa using V,λj Z=>⟨?_,?_⟩,⟨B.2.1,B.2.2.1,B.2.2.2.1,by rw[B.1];exact Nat.le_refl _,λi _ U=>B.2.2.2.2 i U,λj Z=>bg g _ _ _ _ (λ_ _=>by show j<o \/o+DC.toList.length<=j;omega),λj=>bL g _ _ _ _⟩⟩
 ·have X:=bw g DC.toList o w (λk Y=>by rw[h.cell k dP];rfl) j dP;rw[X];unfold JO;rw[de,Array.getElem?_eq_getElem (by rw[xw];exact Z)];simp
 ·exact(bL g _ _ _ _).trans (h.fz j Z)
def oL(l:List UInt8)(e d:Bool)(c:UInt8):List UInt8×Bool×Bool:=if c=126 then([],false,false)else qg (l,e,d) c
def oM(l:List UInt8)(e d:Bool)(c:UInt8):List UInt8×Bool×Nat:=if c=126 then mG l e d else([],false,0)
theorem M6(g o:Nat)(l:List UInt8)(e d:Bool)(c:UInt8)(w:dN)(h:Rd w g o l e d):
 eM eN 132 #[π (μ ⟨g,o,ν⟩),.int .u8 (c.toNat:Int)] w λe' w'=>e'=ρ (τ #[.string ⟨(oM l e d c).1.toArray⟩,.bool (oM l e d c).2.1,iP (oM l e d c).2.2])/\
  Rd w' g o (oL l e d c).1 (oL l e d c).2.1 (oL l e d c).2.2/\kB w w' g o 65:=by
 have X:c=126↔((c.toNat:Int)==126)=true:=by
  rw[<-UInt8.toNat_inj,dJ];show c.toNat=126↔_;omega
 by_cases hc:c=126
 ·have M:((c.toNat:Int) !=126)=false:=by rw[bne,X.mp hc];rfl
  have Z:oM l e d c=mG l e d:=by simp[oM,hc]
  have Y:oL l e d c=([],false,false):=by simp[oL,hc]
  rw[Z,Y];clear Z Y X hc;have S:=M4 g o l e d w h;obtain⟨F,hC,V⟩:=h;have jX:∀n,(storeCells ⟨g,o,ν⟩ DC.toList).run eN (w.drewN n)=.ok () ((w.drewN n).setCells g o DC.toList):=λn=>(Bm (w:=w.drewN n) (F:=F) hC).1;have hz:=Qm.1;have hZ:=xw;have T:Hid (oV w g o 65 F):=hC;clear V hC
  go_in
  go_wp2_with(go_at_call 183;refine S.mono ?_;rintro e' w' ⟨rfl,n,rfl⟩)
  go_ret3
  have U:=Bm (w:=w.drewN n) (F:=F) T.out;exact⟨rfl,⟨JO,U.2.1,Ao.zero⟩,((kB.refl w g o 65).drewN n).trans U.2.2⟩
 ·have M:((c.toNat:Int) !=126)=true:=by
   rw[bne];cases J:((c.toNat:Int)==126)
   ·rfl
   ·exact absurd (X.mpr J) hc
  have Z:oM l e d c=([],false,0):=by simp[oM,hc]
  have Y:oL l e d c=qg (l,e,d) c:=by simp[oL,hc]
  rw[Z,Y];clear Z Y X hc
  go_in
  go_wp2_with(go_at_call 182;refine(Ql g o l e d c _ h).mono ?_;rintro e' w' ⟨rfl,V,Q⟩)
  go_ret3
  exact⟨rfl,V,Q⟩
abbrev jY:=List UInt8×Bool×Bool
def lD(a:List (List UInt8)×Nat×jY)(c:UInt8):List (List UInt8)×Nat×jY:=
 let t:=oM a.2.2.1 a.2.2.2.1 a.2.2.2.2 c
 let r:=oL a.2.2.1 a.2.2.2.1 a.2.2.2.2 c
 if t.2.2≠0 then(a.1,a.2.1+1,r)else if t.2.1=true then(a.1++ [t.1],a.2.1,r)else(a.1,a.2.1,r)
def j2(st:jY)(l:List UInt8):List (List UInt8)×Nat×jY:=l.foldl lD ([],0,st)
def strs(l:List (List UInt8)):List dO:=l.map λs=>Value.string ⟨s.toArray⟩
theorem M7(st:jY)(l:List UInt8)(c:UInt8):j2 st (l++ [c])=lD (j2 st l) c:=by simp[j2]
theorem Qn(a:List (List UInt8)×Nat×jY)(c:UInt8):(lD a c).1.length+(lD a c).2.1<=a.1.length+a.2.1+1:=by
 unfold lD;simp only;split
 ·simp only;omega
 ·split
  ·simp only[List.length_append,eE,eQ];omega
  ·simp only;omega
theorem G6:∀(l:List UInt8) (a:List (List UInt8)×Nat×jY),(l.foldl lD a).1.length+(l.foldl lD a).2.1<=a.1.length+a.2.1+l.length
 |[],a=>gN
 |c::l,a=>by
  have h1:=G6 l (lD a c);have h2:=Qn a c;simp only[List.foldl_cons,eE];omega
theorem Ap(st:jY)(l:List UInt8):(j2 st l).1.length+(j2 st l).2.1<=l.length:=by
 have:=G6 l ([],0,st);unfold j2;simp only[eQ]at this;omega
theorem TU:(eN.info? 9).map (λi=>(i.zero,i.size,i.bytes))=μ (μ (.string fa),1,16):=gJ
theorem Qo {w1 w2:dN} {ob:Obj} {g2 n cap2:Nat} (U:g<w.heap.size)(S:∀k,v.ownBlock=μ k->w.heap.size<=k)(Q:Rd w1 g o l e d)(Z:kB w w1 g o 65)
 (X:(w1.alloc ob).grownBy w2 v.ownBlock) (J:v.ownBlock=μ g2 \/w1.heap.size+1<=g2):
 (∀k,dQ (σ (μ ⟨g2,0,ν⟩) n cap2)=μ k->w.heap.size<=k)/\Rd w2 g o l e d/\kB w w2 g o 65:=by
 have hs:=Z.size;have Bf:(w1.alloc ob).heap.size=w1.heap.size+1:=gN;have Y:∀k,k<w.heap.size->w2.heap[k]? =w1.heap[k]? :=λk Y=>by
  rw[X.block k dP (λe=>by have:=S k e.symm;omega)];exact aQ w1 ob k dP
 refine⟨λk Y=> ?_,?_,⟨X.os.trans Z.os,X.tape.trans Z.tape,X.output.trans Z.output,by have:=X.size;omega,λk T V=>(Y k T).trans (Z.block k T V),λj M=>(ai (a:=⟨g,j,ν⟩) (Y g U)).trans (Z.cell j M),λj=>(aH (a:=⟨g,j,ν⟩) (Y g U)).trans (Z.fz j)⟩⟩
 ·have:g2=k:=by simpa[dQ]using Y
  rcases J with h|h
  ·have:=S g2 h;omega
  ·omega
 ·obtain⟨F,hC,V⟩:=Q;exact⟨F,hC.keep (Y g U),V⟩
theorem Qp(g o:Nat)(st:jY)(s:ByteArray)(w:dN)(h:Rd w g o st.1 st.2.1 st.2.2)(hs:s.size<=100000):
 eM eN 78 #[π (μ ⟨g,o,ν⟩),.string s] w λe w'=>∃v,e=ρ (τ #[v,ι κ ((j2 st s.data.toList).2.1:Int)])/\
  Row w' 1 v (j2 st s.data.toList).1.length (strs (j2 st s.data.toList).1)/\(∀k,v.ownBlock=μ k->w.heap.size<=k)/\((j2 st s.data.toList).1=[]->v=σ ν 0 0)/\
  Rd w' g o (j2 st s.data.toList).2.2.1 (j2 st s.data.toList).2.2.2.1 (j2 st s.data.toList).2.2.2.2/\kB w w' g o 65:=by
 obtain⟨i0,hi,nH,l8,mZ⟩:=aT TU;have wQ:g<w.heap.size:=by
  obtain⟨F,hC,_⟩:=h;exact hC.lt dS
 go_in
 go_wp2
 go_loopw [4,5,12] (λv n i wr=>∃(k:Nat) (A:List (List UInt8)×Nat×jY),A=j2 st (s.data.toList.take k)/\k<=s.size/\i=ι κ k/\n=ι κ (A.2.1:Int)/\
  Row wr 1 v A.1.length (strs A.1)/\(∀k,v.ownBlock=μ k->w.heap.size<=k)/\(A.1=[]->v=σ ν 0 0)/\Rd wr g o A.2.2.1 A.2.2.2.1 A.2.2.2.2/\kB w wr g o 65)
  (λ_ _ i _=>s.size-(eP i).toNat)
 case atStart=>exact⟨0,_,rfl,Nat.zero_le _,rfl,rfl,Row.nil _ _,λk hk=>by simp[dQ]at hk,λ_=>rfl,h,kB.refl _ _ _ _⟩
 case round=>
  obtain⟨k,A,hA,hk,rfl,rfl,J,S,VJ,y,hg⟩:=hrel;have jS:Hid _:=VJ;clear VJ;have G:Hid (A.1.length+A.2.1<=k):=by
   have:=Ap st (s.data.toList.take k);rw[<-hA]at this;have h2:(s.data.toList.take k).length<=k:=bV _ _;exact(by omega:A.1.length+A.2.1<=k)
  have HA:Hid _:=hA;clear hA h;by_cases kc:k<s.size
  ·obtain⟨t,dn,Z,hT⟩:∃t dn Z,oM A.2.2.1 A.2.2.2.1 A.2.2.2.2 s[k] =(t,dn,Z):=⟨_,_,_,rfl⟩
   obtain⟨R',H⟩:∃R',oL A.2.2.1 A.2.2.2.1 A.2.2.2.2 s[k] =R':=⟨_,rfl⟩
   have Q:eM eN 132 #[π (μ ⟨g,o,ν⟩),.int .u8 (s[k].toNat:Int)] wr λe' w'=>e'=ρ (τ #[.string ⟨t.toArray⟩,.bool dn,iP Z])/\
    Row w' 1 u4 A.1.length (strs A.1)/\Rd w' g o R'.1 R'.2.1 R'.2.2/\kB w w' g o 65:=by
    have hq:=M6 g o A.2.2.1 A.2.2.2.1 A.2.2.2.2 s[k] wr y;rw[hT,H]at hq;refine hq.mono λe' w' ⟨h1,h2,D⟩=>⟨h1,J.keep D.size (λj hj=>D.block j (J.lt j hj) (λe1=>by have:=S j hj;omega)),h2,hg.trans D⟩
   have U:(j2 st (s.data.toList.take (k+1))=if Z≠0 then(A.1,A.2.1+1,R')else if dn=true then(A.1++ [t],A.2.1,R')else(A.1,A.2.1,R')):=by
    have:s.data.toList.take (k+1)=s.data.toList.take k++ [s[k]] :=Di s k kc;rw[this,M7,<-HA.out];unfold lD;simp only[hT,H]
   have E:Hid _:=U;clear U;have hn:A.2.1<=100000:=by have:=G.out;omega
   clear hT H J y hg;by_cases Y:Z=0
   ·subst Y;have T:iP 0=η:=rfl;rw[T]at Q;clear T;cases dn
    ·go_wp2_with(go_at_call 132;refine Q.mono ?_;rintro e w1 ⟨rfl,M,X,V⟩);go_roundw
     case rel=>exact⟨k+1,_,E.out.symm,dP,by go_num,rfl,M,S,jS.out,X,V⟩
     case measure=>simp[eP];omega
    ·have m1:A.1.length+1<=maxLen:=by have:=G.out;unfold maxLen;omega
     have b1:(A.1.length+1)*16<=140737488355328:=by have:=G.out;omega
     go_wp2_with(first
      |(go_at_call 132;refine Q.mono ?_;rintro e w1 ⟨rfl,M,X,V⟩)
      |(at_builtin;go_must(refine iu _ rfl (.tmp 29) (.tmp 31) 164 rfl 9 i0 (.string fa) 1 16 Tryz.underlying164 hi nH l8 mZ rfl dS u4 A.1.length (strs A.1) rfl (Row.alloc iL _) _ 1 1 [.string ⟨t.toArray⟩] rfl rfl dS (pg _ _ _) (Jf _) m1 b1 ?_)))
     intro g2 cap2 w2 sv qI kj;have u:=Qo (n:=A.1.length+1) (cap2:=cap2) wQ S X V qI kj;clear qI kj M X V
     go_wp2
     go_roundw
     case rel=>exact⟨k+1,(A.1++ [t],A.2.1,R'),by rw[E.out];rfl,dP,by go_num,rfl,by simpa[strs]using sv,u.1,λh=>by simp at h,u.2.1,u.2.2⟩
     case measure=>simp[eP];omega
   ·have T:iP Z=.iface 128 (ι κ (Z:Int)):=by simp[iP,Y]
    rw[T]at Q;clear T;go_wp2_with(go_at_call 132;refine Q.mono ?_;rintro e w1 ⟨rfl,M,X,V⟩);go_roundw
    case rel=>exact⟨k+1,(A.1,A.2.1+1,R'),by rw[E.out,ag Y],dP,by go_num,by go_num,M,S,jS.out,X,V⟩
    case measure=>simp[eP];omega
  ·go_wp2
   have hA:j2 st s.data.toList=A:=by
    rw[HA.out,aC];show s.size<=k;omega
   rw[hA]
   go_ret2
   exact⟨u4,rfl,J,S,jS.out,y,hg⟩
theorem tY(s:ByteArray)(a b:Nat):(s.extract a b).data.toList=(s.data.toList.take b).drop a:=by
 rw[ByteArray.data_extract];simp[List.drop_take]
theorem M8:∀c:UInt8,pZ c=true->(c^^^32≠126/\¬c^^^32<32/\c^^^32≠125)/\c^^^32^^^32=c:=by
 have h:∀n:Fin 256,pZ (UInt8.ofNat n)=true->(UInt8.ofNat n^^^32≠126/\¬UInt8.ofNat n^^^32<32/\UInt8.ofNat n^^^32≠125)/\UInt8.ofNat n^^^32^^^32=UInt8.ofNat n:=by decide+kernel
 intro c;have:=h ⟨c.toNat,c.toNat_lt⟩;simpa using this
theorem G8:∀c:UInt8,pZ c=false->c≠126/\¬c<32/\c≠125:=by
 intro c h;unfold pZ at h;simp at h;exact⟨h.1.1,by rw[UInt8.lt_iff_toNat_lt];have:=h.2;rw[UInt8.le_iff_toNat_le]at this;omega,h.1.2⟩
theorem yy:∀(l:List UInt8) (o:List (List UInt8)) (n:Nat) (st:jY),l.foldl lD (o,n,st)=(o++(l.foldl lD ([],0,st)).1,n+(l.foldl lD ([],0,st)).2.1,(l.foldl lD ([],0,st)).2.2)
 |[],o,n,st=>gN
 |c::l,o,n,st=>by
  have key:∀(o:List (List UInt8)) (n:Nat),lD (o,n,st) c=(o++(lD ([],0,st) c).1,n+(lD ([],0,st) c).2.1,(lD ([],0,st) c).2.2):=by
   intro o n;unfold lD;simp only;split
   ·simp
   ·split<;>simp
  rw[bJ,bJ,key o n,yy l (o++_) _ _];obtain⟨x,y,z,e⟩:∃x y z,lD ([],0,st) c=(x,y,z):=⟨_,_,_,rfl⟩
  rw[e];simp only;rw[yy l x y z];simp[Nat.add_assoc]
theorem pM(st:jY)(a b:List UInt8):j2 st (a++b)=((j2 st a).1++(j2 (j2 st a).2.2 b).1,(j2 st a).2.1+(j2 (j2 st a).2.2 b).2.1,(j2 (j2 st a).2.2 b).2.2):=by
 unfold j2;rw[cO];exact yy b _ _ _
theorem Bn(o:List (List UInt8))(n:Nat)(l:List UInt8)(e d:Bool)(c:UInt8)(h:c≠126):lD (o,n,(l,e,d)) c=(o,n,qg (l,e,d) c):=by
 simp[lD,oM,oL,h]
theorem M9(o:List (List UInt8))(n:Nat)(l:List UInt8)(c:UInt8)(h:l.length<62):(zP c).foldl lD (o,n,(l,false,false))=(o,n,(l++ [c],false,false)):=by
 unfold zP;by_cases hc:pZ c=true
 ·obtain⟨⟨Y,X,V⟩,T⟩:=M8 c hc;rw[ag hc,bJ,bJ,fI,Bn o n l false false 125 dS];have U:qg (l,false,false) 125=(l,true,false):=by simp[qg]
  rw[U,Bn _ _ _ _ _ _ Y];have Z:qg (l,true,false) (c^^^32)=(l++ [c^^^32^^^32],false,false):=by
   simp[qg,X,V,Nat.ne_of_lt h]
  rw[Z,T]
 ·have S:pZ c=false:=by simpa using hc
  obtain⟨Y,X,V⟩:=G8 c S;rw[ae hc,bJ,fI,Bn _ _ _ _ _ _ Y];have Z:qg (l,false,false) c=(l++ [c],false,false):=by
   simp[qg,X,V,Nat.ne_of_lt h]
  rw[Z]
theorem DE(o:List (List UInt8))(n:Nat):∀(m l:List UInt8),l.length+m.length<=62->(qD m).foldl lD (o,n,(l,false,false))=(o,n,(l++m,false,false))
 |[],l,_=>by simp[qD]
 |c::m,l,h=>by
  have h':l.length+(m.length+1)<=62:=by simpa using h
  have e:qD (c::m)=zP c++qD m:=by simp[qD]
  rw[e,cO,M9 o n l c dP,DE o n m (l++ [c]) (by simp;omega)];simp
theorem EX(l:List UInt8):mG (la l) false false=(l,true,0):=by
 have hl:(la l).length=l.length+2:=oI l;have X:(la l).take ((la l).length-2)=l:=by rw[hl];simp[la]
 have Z:(la l).getD ((la l).length-2) 0=Ga l:=by
  rw[hl];simp[la]
 have Y:(la l).getD ((la l).length-1) 0=Gb l:=by
  rw[hl];simp[la]
 unfold mG;rw[ae gN,ae dP,ae dP,Z,Y,X,ag];rw[Dj,Dk];omega
theorem JQ(l:List UInt8)(h:l.length<=60):j2 ([],false,false) (mD l)=([l],0,([],false,false)):=by
 unfold j2 mD;rw[bJ,cO];have Z:lD ([],0,([],false,false)) 126=([],0,([],false,false)):=by simp[lD,oM,oL,mG]
 rw[Z,DE [] 0 (la l) [] (by rw[oI];simp;omega)];simp[lD,oM,oL,EX]
theorem CZ(l:List UInt8):(mD l).length=(qD (la l)).length+2:=by simp[mD]
theorem Na(l:List UInt8)(h:l.length<=60):(mD l).length<=126:=by
 rw[CZ];have:=EC (la l);rw[oI]at this;omega
open St
structure SR(w:dN)(g C:Nat)(ss:List SV):Prop where
 lt:g<w.heap.size
 cell:∀j s,ss[j]? =μ s->w.cell? ⟨g,j*3,ν⟩=μ (ι κ s.own)/\w.cell? ⟨g,j*3+1,ν⟩=μ (ι κ s.seq)/\w.cell? ⟨g,j*3+2,ν⟩=μ (σ s.a s.n s.cap)
 sp:∀j,j<C*3->(w.cell? ⟨g,j,ν⟩).isSome=true/\w.frozen? ⟨g,j,ν⟩=false
 le:ss.length<=C
 cm:C<=maxLen
theorem SR.fz(h:SR w g C ss)(j:Nat)(hj:j<ss.length*3):w.frozen? ⟨g,j,ν⟩=false:=(h.sp j (by have:=h.le;omega)).2
theorem SR.below(h:SR w g C ss)(hb:dV w w'):SR w' g C ss:=
 ⟨Nat.lt_of_lt_of_le h.lt hb.size,λj s e=>by
  obtain⟨c0,c1,c2⟩:=h.cell j s e;exact⟨(hb.cell (p:=⟨g,j*3,ν⟩) h.lt).trans c0,(hb.cell (p:=⟨g,j*3+1,ν⟩) h.lt).trans c1,(hb.cell (p:=⟨g,j*3+2,ν⟩) h.lt).trans c2⟩,λj Z=>⟨by rw[hb.cell (p:=⟨g,j,ν⟩) h.lt];exact(h.sp j Z).1,(hb.frozen (p:=⟨g,j,ν⟩) h.lt).trans (h.sp j Z).2⟩,h.le,h.cm⟩
theorem SR.drewN {w:dN} {g C:Nat} {ss:List SV} (h:SR w g C ss)(n:Nat):SR (w.drewN n) g C ss:=h.below (below_drewN (aq _ _) n)
def JR(w:dN)(g k:Nat)(s:SV):dN:=((w.setCell ⟨g,k*3,ν⟩ (ι κ s.own)).setCell ⟨g,k*3+1,ν⟩ (ι κ s.seq)).setCell ⟨g,k*3+2,ν⟩ (σ s.a s.n s.cap)
theorem SR.put(h:SR w g C ss)(k:Nat)(S:k<ss.length)(s:SV):SR (JR w g k s) g C (ss.set k s):=by
 have X:∀j,j<ss.length*3->(w.cell? ⟨g,j,ν⟩).isSome=true:=by
  intro j Z;have hl:j/3<ss.length:=dP;obtain⟨c0,c1,c2⟩:=h.cell (j/3) ss[j/3] (av hl);rcases(show j=j/3*3 \/j=j/3*3+1 \/j=j/3*3+2 by omega)with e|e|e
  ·rw[e,c0];rfl
  ·rw[e,c1];rfl
  ·rw[e,c2];rfl
 have V:JR w g k s=w.setCells g (k*3) [ι κ s.own,ι κ s.seq,σ s.a s.n s.cap] :=rfl;have Y:=bw g [ι κ s.own,ι κ s.seq,σ s.a s.n s.cap] (k*3) w (λj Z=>X _ (by simp at Z;omega));refine⟨by unfold JR;simpa using h.lt,λj s' e=> ?_,λj Z=> ?_,by simpa using h.le,h.cm⟩
 ·by_cases T:j=k
  ·subst T;rw[List.getElem?_set_self S]at e;obtain rfl:=Option.some.inj e;rw[V];exact⟨Y 0 gN,Y 1 gN,Y 2 gN⟩
  ·rw[List.getElem?_set_ne (λe=>T e.symm)]at e;obtain⟨c0,c1,c2⟩:=h.cell j s' e;have U:∀o,o<3->(w.setCells g (k*3) [ι κ s.own,ι κ s.seq,σ s.a s.n s.cap]).cell? ⟨g,j*3+o,ν⟩=w.cell? ⟨g,j*3+o,ν⟩:=λo ho=>bg g _ _ _ _ (λ_ _=>by show j*3+o<k*3 \/k*3+3<=j*3+o;omega);rw[V];exact⟨(U 0 dS).trans c0,(U 1 dS).trans c1,(U 2 dS).trans c2⟩
 ·rw[V,bL];refine⟨?_,(h.sp j Z).2⟩;by_cases hq:k*3<=j/\j<k*3+3
  ·have:=Y (j-k*3) (by simp;omega);rw[show k*3+(j-k*3)=j by omega]at this;rw[this];rfl
  ·rw[bg g _ _ _ _ (λ_ _=>by show j<k*3 \/k*3+3<=j;omega)];exact(h.sp j Z).1
theorem DF(w:dN)(g k:Nat)(s:SV):w.grownBy (JR w g k s) (μ g):=by
 unfold JR;exact nJ (nJ (nJ ⟨rfl,rfl,rfl,Nat.le_refl _,λ_ _ _=>rfl⟩ _ _) _ _) _ _
def JT(l:List SV):Prop:=l.Pairwise (λx y=>x.own<y.own)
theorem Qq(x y:SV)(w:dN):eM eN 203 #[.agg #[ι κ x.own,ι κ x.seq,σ x.a x.n x.cap],.agg #[ι κ y.own,ι κ y.seq,σ y.a y.n y.cap]] w λe w'=>e=ρ (ι κ (ln x.own y.own))/\dV w w':=by
 have Y:dV w ((w.alloc (γ #[ι κ x.own,ι κ x.seq,σ x.a x.n x.cap] 40)).alloc (γ #[ι κ y.own,ι κ y.seq,σ y.a y.n y.cap] 40)):=(gM _ _).alloc gN _;have Z:=qZ x.own y.own ((w.alloc (γ #[ι κ x.own,ι κ x.seq,σ x.a x.n x.cap] 40)).alloc (γ #[ι κ y.own,ι κ y.seq,σ y.a y.n y.cap] 40))
 go_in
 go_wp2_with(fail);refine Z.mono ?_;rintro e w1 ⟨rfl,rfl⟩
 go_wp2
 go_ret;exact⟨rfl,Y⟩
structure Down(w wr:dN)(g cap n i:Nat)(ss pre mid post:List SV)(x:SV):Prop where
 sr:SR wr g cap (pre++x::(mid++post))
 perm:(pre++x::(mid++post)).Perm ss
 Nb:JT (pre++mid)
 low:∀y∈mid,x.own<y.own
 len:pre.length+mid.length=i
 grown:w.grownBy wr (μ g)
theorem Lx {mid:List SV} (h:JT (pre++mid))(X:∀y∈pre,y.own<x.own)(Y:∀y∈mid,x.own<y.own):JT (pre++x::mid):=by
 unfold JT at*;rw[aZ]at h⊢;refine⟨h.1,bZ.2 ⟨Y,h.2.1⟩,λa Z b hb=> ?_⟩;rcases a7.1 hb with rfl|hb
 ·exact X a Z
 ·exact h.2.2 a Z b hb
theorem Qr {y:SV} (h:JT (pre++ [y]))(hy:y.own<x.own):∀z∈pre++ [y],z.own<x.own:=by
 intro z Z;rcases aF.1 Z with Z|Z
 ·have:=(aZ.1 h).2.2 z Z y gN;omega
 ·have:z=y:=by simpa using Z
  rw[this];exact hy
theorem rj(h:w.grownBy a (μ g))(k:dV a b):w.grownBy b (μ g):=
 ⟨k.os.trans h.os,k.tape.trans h.tape,k.output.trans h.output,Nat.le_trans h.size k.size,λi hi Z=>(k.block i (Nat.lt_of_lt_of_le hi h.size)).trans (h.block i hi Z)⟩
theorem zp(h:w.grownBy a (μ g))(k:a.grownBy b (μ g)):w.grownBy b (μ g):=
 ⟨k.os.trans h.os,k.tape.trans h.tape,k.output.trans h.output,Nat.le_trans h.size k.size,λi hi Z=>(k.block i (Nat.lt_of_lt_of_le hi h.size) Z).trans (h.block i hi Z)⟩
theorem aaT {a b c d e f:Nat} {u0 u1 u2 u3 u4 u5:dO} (k:dV w w')(Z:g<w.heap.size)
 (h:w.cell? ⟨g,a,ν⟩=μ u0/\w.cell? ⟨g,b,ν⟩=μ u1/\w.cell? ⟨g,c,ν⟩=μ u2/\w.cell? ⟨g,d,ν⟩=μ u3/\w.cell? ⟨g,e,ν⟩=μ u4/\w.cell? ⟨g,f,ν⟩=μ u5):
 w'.cell? ⟨g,a,ν⟩=μ u0/\w'.cell? ⟨g,b,ν⟩=μ u1/\w'.cell? ⟨g,c,ν⟩=μ u2/\w'.cell? ⟨g,d,ν⟩=μ u3/\w'.cell? ⟨g,e,ν⟩=μ u4/\w'.cell? ⟨g,f,ν⟩=μ u5:=
 ⟨(k.cell (p:=⟨g,a,ν⟩) Z).trans h.1,(k.cell (p:=⟨g,b,ν⟩) Z).trans h.2.1,(k.cell (p:=⟨g,c,ν⟩) Z).trans h.2.2.1,(k.cell (p:=⟨g,d,ν⟩) Z).trans h.2.2.2.1,(k.cell (p:=⟨g,e,ν⟩) Z).trans h.2.2.2.2.1,(k.cell (p:=⟨g,f,ν⟩) Z).trans h.2.2.2.2.2⟩
theorem JU(g n cap:Nat)(ss:List SV)(w:dN)(h:SR w g cap ss)(hl:ss.length=n)(hn:n<=12)(hd:ss.Pairwise (λx y=>x.own≠y.own)):
 eM eN 232 #[σ (μ ⟨g,0,ν⟩) n cap,ι κ 0,ι κ (n:Int),.func (.func 203) #[] #[]] w λe w'=>e=ρ (τ #[])/\∃ts,SR w' g cap ts/\ts.Perm ss/\JT ts/\w.grownBy w' (μ g):=by
 go_in
 go_wp2
 go_loopw [8] (λi wr=>∃(k:Nat) (ts:List SV),1<=k/\(k<=n \/k=1)/\i=ι κ k/\SR wr g cap ts/\ts.Perm ss/\JT (ts.take k)/\w.grownBy wr (μ g)) (λi _=>n-(eP i).toNat)
 case atStart=>exact⟨1,ss,Nat.le_refl _,.inr rfl,rfl,h,List.Perm.refl _,by unfold JT;cases ss<;>simp,⟨rfl,rfl,rfl,Nat.le_refl _,λ_ _ _=>rfl⟩⟩
 case round=>
  obtain⟨k,ts,SQ,Gs,rfl,hS,U,hR,t⟩:=hrel;have Zw:ts.length=n:=by rw[U.length_eq,hl]
  by_cases kc:k<n
  ·have nh:(k:Int)<(n:Int):=dP;have A:Hid (Down w wr g cap n k ss (ts.take k) [] (ts.drop (k+1)) (ts[k]'(by omega))):=by
    have e:ts.take k++(ts[k]'(by omega))::([] ++ts.drop (k+1))=ts:=by
     rw[fJ,<-aO dP,bO]
    refine⟨by rw[e];exact hS,by rw[e];exact U,by rw[aL];exact hR,gN,by simp;omega,t⟩
   obtain⟨wo,rfl⟩:∃wo,wo=wr:=⟨_,rfl⟩
   clear hS U hR t
   go_wp2
   go_loopw [9] (λj wr=>∃(pre mid post:List SV) (x:SV),j=ι κ (pre.length:Int)/\Down w wr g cap n k ss pre mid post x) (λj _=>(eP j).toNat)
   case atStart=>exact⟨_,_,_,_,by simp;omega,A.out⟩
   case round=>
    clear A;obtain⟨pre,mid,post,x,rfl,Y⟩:=hrel;have hlen:pre.length+mid.length+post.length+1=n:=by
     have:=Y.perm.length_eq;simp at this;omega
    rcases List.eq_nil_or_concat pre with rfl|⟨Z,y,tj⟩
    ·have E:Hid (∃ts:List SV,SR wr g cap ts/\ts.Perm ss/\JT (ts.take (k+1))/\w.grownBy wr (μ g)):=by
      refine⟨_,Y.sr,Y.perm,?_,Y.grown⟩;have hm:=Y.len;simp only[fJ,eQ,Nat.zero_add]at hm⊢;have e:(x::(mid++post)).take (k+1)=x::mid:=by
       rw[List.take_succ_cons,<-hm,List.take_left]
      rw[e];exact Lx (pre:=[]) Y.Nb gN Y.low
     clear Y;simp only[eQ,Int.natCast_zero]
     go_wp2
     go_quiet(fail)
     go_wp2
     go_roundw
     case rel=>
      obtain⟨us,q1,q2,q3,q4⟩:=E.out;exact⟨k+1,us,dP,.inl dP,by go_num,SR.drewN q1 _,q2,q3,rj q4 (below_drewN (aq _ _) _)⟩
     case measure=>simp[eP];omega
    ·rw[List.concat_eq_append]at tj;subst tj;obtain⟨P,U⟩:=fP (Z.length);have T:(Z++ [y]).length=P+1:=by simp[U]
     have gx:((Z++ [y])++x::(mid++post))[P+1]? =μ x:=by rw[<-T];simp
     have gy:((Z++ [y])++x::(mid++post))[P]? =μ y:=by rw[<-U];simp
     obtain⟨x0,x1,x2⟩:=Y.sr.cell _ _ gx;obtain⟨y0,y1,y2⟩:=Y.sr.cell _ _ gy;have gl:=Y.sr.lt;have hPn:P+1<n:=by
      rw[T]at hlen;omega
     have b0:(0:Int)<=(P:Int):=dP;have b1:(P:Int)<(n:Int):=dP;have b2:(P:Int)+1<(n:Int):=dP;have b3:(0:Int)<=(P:Int)+1:=dP;have b4:(0:Int)<(P:Int)+1:=dP;have b5:fC.wrap ((P:Int)+1-1)=(P:Int):=by rw[show(P:Int)+1-1=(P:Int) by omega];exact aM _ ⟨dP,dP⟩
     have b6:fC.wrap (P:Int)=(P:Int):=aM _ ⟨dP,dP⟩;have D:¬x.own=y.own:=by
      have Ly:=(Y.perm.pairwise_iff (λ{a b} (xk:a.own≠b.own)=>λe=>xk e.symm)).2 hd;have h3:=(aZ.1 Ly).2.2 y gN x gN;exact λe=>h3 e.symm
     have eJ:(((Z++ [y]).length:Nat):Int)=(P:Int)+1:=by rw[T];rfl
     rw[eJ];have HD:Hid _:=Y;have HP:Hid _:=U;have HN:Hid _:=D;clear Y U D eJ T gx gy hlen;have J:wr.drew.cell? ⟨g,(P+1)*3,ν⟩=μ (ι κ x.own)/\wr.drew.cell? ⟨g,(P+1)*3+1,ν⟩=μ (ι κ x.seq)/\wr.drew.cell? ⟨g,(P+1)*3+2,ν⟩=μ (σ x.a x.n x.cap)/\wr.drew.cell? ⟨g,P*3,ν⟩=μ (ι κ y.own)/\wr.drew.cell? ⟨g,P*3+1,ν⟩=μ (ι κ y.seq)/\wr.drew.cell? ⟨g,P*3+2,ν⟩=μ (σ y.a y.n y.cap):=⟨x0,x1,x2,y0,y1,y2⟩
     have G:=Qq x y wr.drew;obtain⟨cx,X⟩:=fP (ln x.own y.own);rw[X]at G;by_cases Xk:x.own<y.own
     ·have P8:cx= -1:=by rw[<-X,ln,ag Xk]
      subst P8;clear X
      go_wp2
      go_region_held3(λv=>v.cell? ⟨g,(P+1)*3,ν⟩=μ (ι κ x.own)/\v.cell? ⟨g,(P+1)*3+1,ν⟩=μ (ι κ x.seq)/\v.cell? ⟨g,(P+1)*3+2,ν⟩=μ (σ x.a x.n x.cap)/\v.cell? ⟨g,P*3,ν⟩=μ (ι κ y.own)/\v.cell? ⟨g,P*3+1,ν⟩=μ (ι κ y.seq)/\v.cell? ⟨g,P*3+2,ν⟩=μ (σ y.a y.n y.cap))
       (first|assumption|exact J|exact H)
       ((go_at_call 203;refine G.mono ?_;rintro e M ⟨rfl,Q⟩;have H:=aaT Q gl J))
      have V:dV wr M:=gD (below_drewN (aq _ _) 1) Q;have S5:=HD.out.sr.below V;obtain⟨z0,z1,z2,z3,z4,z5⟩:=H;have gl5:=S5.lt;have S:∀o,o<(P+2)*3->M.frozen? ⟨g,o,ν⟩=false:=λo ho=>S5.fz o (by have:=HP.out;simp;omega);have f0:=S ((P+1)*3) dP;have f1:=S ((P+1)*3+1) dP;have f2:=S ((P+1)*3+2) dP;have f3:=S (P*3) dP;have f4:=S (P*3+1) dP;have f5:=S (P*3+2) dP;clear S G J x0 x1 x2 y0 y1 y2 Q;have hD6:Hid (Down w (JR (JR M g (P+1) y) g P x).drew g cap n k ss Z (y::mid) post x):=by
       have hd:=HD.out;have hp:=HP.out;have afd:((((Z++ [y])++x::(mid++post)).set (P+1) y).set P x)=Z++x::((y::mid)++post):=by
        subst hp;rw[az,dH _ _ dP,show Z.length+1-Z.length=1 by omega];simp only[List.singleton_append,List.set_cons_succ,List.set_cons_zero];rw[dH _ _ dP,Nat.sub_self];rfl
       have hlen:((Z++ [y])++x::(mid++post)).length=Z.length+mid.length+post.length+2:=by simp;omega
       have s6:=((S5.put (P+1) (by rw[hlen];omega) y).put P (by rw[List.length_set,hlen];omega) x).drewN 1;rw[afd]at s6;refine⟨s6,?_,?_,?_,?_,?_⟩
       ·refine List.Perm.trans ?_ hd.perm;rw[az];exact List.Perm.append_left Z (by simpa using List.Perm.swap y x (mid++post))
       ·have:=hd.Nb;rw[az]at this;exact this
       ·intro z hz;rcases a7.1 hz with rfl|hz
        ·exact Xk
        ·exact hd.low z hz
       ·have:=hd.len;simp at this⊢;omega
       ·exact rj (zp (zp (rj hd.grown V) (DF _ g (P+1) y)) (DF _ g P x)) (below_drewN (aq _ _) 1)
      go_wp2
      go_region
      go_wp2_with(fail);refine⟨⟨Z,y::mid,post,x,?_,?_⟩,?_⟩
      ·rw[HP.out]
      ·exact hD6.out
      ·simp[eP]
     ·have u:y.own<x.own:=by
       have h9:¬x.own=y.own:=HN.out;omega
      have P8:cx=1:=by rw[<-X,ln,ae Xk,ag u]
      subst P8;clear X
      go_wp2
      go_region_held3(λv=>v.cell? ⟨g,(P+1)*3,ν⟩=μ (ι κ x.own)/\v.cell? ⟨g,(P+1)*3+1,ν⟩=μ (ι κ x.seq)/\v.cell? ⟨g,(P+1)*3+2,ν⟩=μ (σ x.a x.n x.cap)/\v.cell? ⟨g,P*3,ν⟩=μ (ι κ y.own)/\v.cell? ⟨g,P*3+1,ν⟩=μ (ι κ y.seq)/\v.cell? ⟨g,P*3+2,ν⟩=μ (σ y.a y.n y.cap))
       (first|assumption|exact J|exact H)
       ((go_at_call 203;refine G.mono ?_;rintro e M ⟨rfl,Q⟩;have H:=aaT Q gl J))
      have V:dV wr M:=gD (below_drewN (aq _ _) 1) Q;have E:Hid (∃ts:List SV,SR M g cap ts/\ts.Perm ss/\JT (ts.take (k+1))/\w.grownBy M (μ g)):=by
       have hd:=HD.out;refine⟨_,hd.sr.below V,hd.perm,?_,rj hd.grown V⟩;have hm:=hd.len;have e:((Z++ [y])++x::(mid++post)).take (k+1)=(Z++ [y])++x::mid:=by
        rw[show(Z++ [y])++x::(mid++post)=((Z++ [y])++x::mid)++post by simp];rw[List.take_left' (by simp at hm⊢;omega)]
       rw[e];exact Lx hd.Nb (Qr (aZ.1 hd.Nb).1 u) hd.low
      clear G J H x0 x1 x2 y0 y1 y2 Q
      go_wp2
      go_roundw
      case rel=>
       obtain⟨us,q1,q2,q3,q4⟩:=E.out;exact⟨k+1,us,dP,.inl dP,by go_num,q1,q2,q3,q4⟩
      case measure=>simp[eP];omega
  ·have E:Hid (∃ts,SR wr g cap ts/\ts.Perm ss/\JT ts/\w.grownBy wr (μ g)):=by
    refine⟨ts,hS,U,?_,t⟩;have:ts.take k=ts:=aC dP
    rwa [this]at hR
   clear hS U hR t;have zN:¬(k:Int)<(n:Int):=dP
   go_wp2
   first|go_end0|refine iq rfl rfl ?_
   exact⟨rfl,E.out⟩
theorem Lz(n:Nat)(hn:n<=6)(w:dN):eM eN 221 #[.int .u64 (n:Int)] w λe w'=>∃r:Int,e=ρ (ι κ r)/\w=w':=by
 have Z:∀W:dN,eM eN 241 #[.int .u64 (n:Int)] W λe w'=>∃r:Int,e=ρ (ι κ r)/\W=w':=by
  intro W;rcases(show n=0 \/n=1 \/n=2 \/n=3 \/n=4 \/n=5 \/n=6 by omega)with rfl|rfl|rfl|rfl|rfl|rfl|rfl
  all_goals
   go_in
   go_wp2
   go_ret;exact⟨_,rfl,rfl⟩
 go_in
 go_wp2_with(fail);refine(Z _).mono ?_;rintro e w1 ⟨r,rfl,rfl⟩
 go_wp2
 go_ret;exact⟨_,rfl,rfl⟩
theorem TV(g n cap:Nat)(L:Int)(ss:List SV)(w:dN)(h:SR w g cap ss)(hl:ss.length=n)(X:n<=12)(hd:ss.Pairwise (λx y=>x.own≠y.own)):
 eM eN 220 #[σ (μ ⟨g,0,ν⟩) n cap,ι κ 0,ι κ (n:Int),ι κ L,.func (.func 203) #[] #[]] w λe w'=>e=ρ (τ #[])/\∃ts,SR w' g cap ts/\ts.Perm ss/\JT ts/\w.grownBy w' (μ g):=by
 have hc:=JU g n cap ss w h hl X hd;have h12:(n:Int)<=12:=dP
 go_in
 go_wp2_with(fail);refine bQ 1 ?_;rw[bH];go_wp2_with(fail);refine hc.mono ?_;rintro e w1 ⟨rfl,Z⟩;have Y:Hid _:=Z;clear Z hc
 go_wp2
 first|go_end0|refine iq rfl rfl ?_
 exact⟨rfl,Y.out⟩
theorem Qs(g n cap:Nat)(ss:List SV)(w:dN)(h:SR w g cap ss)(hl:ss.length=n)(V:n<=6)(hd:ss.Pairwise (λx y=>x.own≠y.own)):
 eM eN 202 #[σ (μ ⟨g,0,ν⟩) n cap,.func (.func 203) #[] #[]] w λe w'=>e=ρ (τ #[])/\∃ts,SR w' g cap ts/\ts.Perm ss/\JT ts/\w.grownBy w' (μ g):=by
 have Z:=Lz n V w;have h12:(n:Int)<=6:=dP
 go_in
 go_wp2_with(fail);refine Z.mono ?_;rintro e w1 ⟨r,rfl,rfl⟩;go_wp2_with(fail);refine(TV g n cap r ss w h hl dP hd).mono ?_;rintro e w2 ⟨rfl,Y⟩;have X:Hid _:=Y;clear Y Z
 go_wp2
 first|go_end0|refine iq rfl rfl ?_
 exact⟨rfl,X.out⟩
theorem Qt(w:dN):(zeroValue 254).run eN w=.ok (.agg #[ι κ 0,ι κ 0,ι κ 0,ι κ 0,ι κ 0,ι κ 0,ι κ 0,ι κ 0,ι κ 0,ι κ 0,ι κ 0,σ ν 0 0]) w:=gJ
theorem zW(w:dN)(o:Obj):(w.alloc o).heap[w.heap.size]? =μ o:=aS w o
theorem TW(S M:Int)(w:dN)(X:¬S<40)(V:¬255<S)(U:¬M<1)(T:¬255<M):
 eM eN 119 #[ι κ S,ι κ M] w λe w'=>∃B,e=ρ (τ #[π (μ ⟨B,0,ν⟩),η])/\Lk w' B (Pp S M S M 0 0 0 255 0 0 0 (σ ν 0 0))/\w.heap.size<=B/\dV w w':=by
 have hz:=wW;have hzl:=Qt;have Q:=WB S M w X V U T;clear X V U T
 go_in
 go_wp2_with(fail);refine Q.mono ?_;rintro e Z ⟨rfl,hb⟩;have hs:=hb.size;have D:=(hb.alloc hb.size (γ #[ι κ S,ι κ M] 252))
 have J:=gD D (gM _ (γ (Pp S M S M 0 0 0 255 0 0 0 (σ ν 0 0)) 254));have Y:=zW (Z.alloc (γ #[ι κ S,ι κ M] 252)) (γ (Pp S M S M 0 0 0 255 0 0 0 (σ ν 0 0)) 254);have E:(Z.alloc (γ #[ι κ S,ι κ M] 252)).heap.size=Z.heap.size+1:=gN;rw[E]at Y;have G:Hid _:=Y;have H:Hid _:=J;clear Y J Q
 go_wp2
 go_ret2
 exact⟨Z.heap.size+1,rfl,G.out,dP,H.out⟩
theorem pK.rest(h:Lk w B (s.c (σ ν 0 0))):pK w B (λk=>k<w.heap.size) s (σ ν 0 0) [] :=
 ⟨h,Row.nil _ 3,λg Z=>by simp[dQ]at Z,h.lt,λ_ Y=>Y,λp X=>by simp at X⟩
def JV(S M:Int):LS:=⟨S,M,S,M,0,0,0,255,0,0,0⟩
theorem Bo(S M:Int):(ko {JV S M with st:=1} 0).2.2=0/\(ko {JV S M with st:=1} 0).1.st=6/\(ko {JV S M with st:=1} 0).2.1.length=1:=⟨gJ,gJ,gJ⟩
theorem pK.far {M:Nat} {X:Nat->Prop} {ps:List PV} (h:pK w B X s v ps)(k:Kept w w' M ν)(U:X M)(J:B≠M):pK w' B X s v ps:=by
 have hb:∀j,j<w.heap.size->j≠M->w'.heap[j]? =w.heap[j]? :=λj Z S=>k.block j Z S gN;refine⟨h.lk.keep (hb B h.lk.lt J),h.row.keep k.size (λj Z=>hb j (h.row.lt j Z) (λe=>h.own j Z (by rw[e];exact U))),h.own,h.self,λj Z=>Nat.lt_of_lt_of_le (h.old j Z) k.size,λp Q=> ?_⟩;obtain⟨o,z,l,f,fr⟩:=h.pk p Q;exact⟨o.K7 (λj Z=>by obtain⟨Y,_,V⟩:=fr j Z;exact hb j V (λe=>Y (by rw[e];exact U))),z,l,f,λj Z=>by obtain⟨Y,T,V⟩:=fr j Z;exact⟨Y,T,Nat.lt_of_lt_of_le V k.size⟩⟩
theorem Bp:∀(L:List UInt8) (s:LS) (a:kr),(vY L s a).length<=L.length
 |[],_,_=>Nat.le_refl _
 |c::r,s,a=>by
  have e:vY (c::r) s a=CV c s a++vY r (oG c s) a:=rfl;have h1:=Bp r (oG c s) a;have h2:=GG c s a;rw[e,ay,cS];omega
theorem rk(s:LS)(ev:Int)(a:kr):(qU s ev a).2.1.length<=4:=by
 by_cases hf:(iN s.st ev).2.2=0
 ·rw[rF _ hf];have h1:=Bp (iN s.st ev).1 (s.next (iN s.st ev).2.1) a;have h2:=yt s.st ev;show(oA s ev a).length<=4;unfold oA;omega
 ·rw[tV _ hf];simp
theorem xx(s:LS)(ev:Int):(ko s ev).2.1.length<=4:=by
 unfold ko;split
 ·exact rk _ _ _
 ·simp
theorem DG(s:LS):(lO s).length<=4:=by
 have hc:∀(s:LS) (ev:Int),(oA s ev (0,0,[])).length<=4:=λs ev=>by
  have h1:=Bp (iN s.st ev).1 (s.next (iN s.st ev).2.1) (0,0,[]);have h2:=yt s.st ev;unfold oA;omega
 unfold lO;split
 ·simp
 ·split
  ·simp
  ·split
   ·exact hc _ _
   ·exact hc _ _
theorem DH(s:LS)(p:kr):(jD s p).2.1.length<=4:=by
 unfold jD;split
 ·simp
 ·split
  ·unfold rT;split
   ·split
    ·exact rk _ _ _
    ·exact rk _ _ _
   ·exact rk _ _ _
  ·split
   ·exact rk _ _ _
   ·split
    ·exact rk _ _ _
    ·unfold rG;split
     ·simp
     ·split
      ·split
       ·simp
       ·exact rk _ _ _
      ·exact rk _ _ _
