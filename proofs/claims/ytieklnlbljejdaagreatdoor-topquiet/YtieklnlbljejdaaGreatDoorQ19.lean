import Derived.Test.YtieklnlbljejdaaGreatDoorQ18
open Option renaming none → ν, some → μ
open List renaming flatMap → ig
namespace Go.Proofs.YtieklnlbljejdaaGreatDoor
open Go.RowKit St
namespace Rt
variable {F Fi Fo G em l ps:List kM} {L L' M:LS} {X Y:Int->Bool} {a:AN} {b:Bool} {c d d' t:Nat} {code g g' h i id ow:Int} {x:kM}
def nF(g:Int):List jG:=[(1,255),(5,g)]
structure LI(g:Int)(L:LS):Prop where
 fs:L.fs=255
 fm:L.fm=g
 ns:L.ns=255
 nm:L.nm=g
 q:6<=L.st->L.qs=255/\L.qm=g
 st:L.st=1 \/(6<=L.st/\L.st<=9)
 k:yK L
theorem Gs {s:LS} {ev:Int} {l:List UInt8} {nx:Int} (yG:kG)(h:ja s.st ev=(l,nx,0)):r7 s ev yG=(qb l (s.next nx),xJ l (s.next nx) yG,0):=by
 rw[sP yG (by rw[h])];unfold nD pg;rw[h]
theorem yg:(ja 6 6=([97],8,0)/\ja 7 6=([97,117],9,0)/\ja 8 6=([97],8,0)/\ja 9 6=([100,114,97],8,0))/\(ja 6 8=([105],7,0)/\ja 8 8=([105,117],9,0))/\(ja 6 4=([114],6,0)/\ja 7 4=([114],6,0)/\ja 8 4=([114],8,0))/\(ja 6 5=([102],3,0)/\ja 7 5=([102],3,0)/\ja 8 5=([102],3,0))/\(ja 3 1=([115],1,0)/\ja 1 0=([105,114],6,0))/\(ja 6 1=([],1,0)/\ja 7 1=([],1,0)/\ja 8 1=([],1,0)/\ja 9 1=([100],1,0)):=by
 refine⟨⟨?_,?_,?_,?_⟩,⟨?_,?_⟩,⟨?_,?_,?_⟩,⟨?_,?_,?_⟩,⟨?_,?_⟩,?_,?_,?_,?_⟩<;>rfl
theorem Ig(hg:1<=g/\g<=255):nL 255 g=nF g:=by
 unfold nL nF;rw[ag dX,ag dU];rfl
theorem Oc {x:Int} (h:6<=x/\x<=9):x=6 \/x=7 \/x=8 \/x=9:=dU
theorem YL(T:1<=g/\g<=255)(h:LI g L)(U:L.st=1):LI g (kL L 0).1/\(kL L 0).2.1=[(1,(L.ow+1) %256,nF g)] /\(kL L 0).1.ow=(L.ow+1) %256/\(kL L 0).1.st=6/\(kL L 0).1.wt=3:=by
 have Z:=h.k.kL 0;have e:kL L 0=r7 L 0 (0,0,[]):=rfl;have V:ja L.st 0=([105,114],6,0):=by rw[U];exact yg.2.2.2.2.1.2
 rw[e,Gs _ V]at Z⊢;have en:L.next 6={L with st:=6}:=by unfold LS.next;rw[ae dX]
 rw[en]at Z⊢;refine⟨⟨h.fs,h.fm,h.ns,h.nm,λ_=>⟨h.ns,h.nm⟩,.inr ⟨by show(6:Int)<=6;decide,by show(6:Int)<=9;decide⟩,Z⟩,?_,rfl,rfl,rfl⟩;show [(1,(L.ow+1) %256,nL L.ns L.nm)] =_;rw[h.ns,h.nm,Ig T]
theorem Xn(h:LI g L)(T:6<=L.st):LI g (kL L 1).1/\(kL L 1).1.st=1/\(kL L 1).1.ow=L.ow:=by
 have Z:=h.k.kL 1;have e:kL L 1=r7 L 1 (0,0,[]):=rfl;obtain⟨a,b,c,d⟩:=yg.2.2.2.2.2;have U:=Oc ⟨T,by have:=h.st;omega⟩;have hl:∃l,ja L.st 1=(l,1,0)/\(l=[] \/l=[100]):=by
  rcases U with g|g|g|g<;>rw[g]
  ·exact⟨_,a,.inl rfl⟩
  ·exact⟨_,b,.inl rfl⟩
  ·exact⟨_,c,.inl rfl⟩
  ·exact⟨_,d,.inr rfl⟩
 obtain⟨l,Q,J⟩:=hl;rw[e,Gs _ Q]at Z⊢;have en:L.next 1={L with st:=1,ns:=L.fs,nm:=L.fm,sz:=255}:=by unfold LS.next;rw[ag dX]
 have V:qb l (L.next 1)=L.next 1:=by rcases J with rfl|rfl<;>rfl
 rw[V,en]at Z;rw[V,en];exact⟨⟨h.fs,h.fm,h.fs,h.fm,λh=>absurd h (by show¬(6:Int)<=1;decide),.inl rfl,Z⟩,rfl,rfl⟩
structure aeP(g:Int)(L L':LS)(out:List kG):Prop where
 li:LI g L'
 or:(out=[] /\L'.ow=L.ow/\L'.st=L.st/\(L.st=1 \/L.st=9->L'=L)/\(6<=L.st/\L.st<=8->1<L.wt/\L'.wt=L.wt-1)) \/((6<=L.st/\L.st<=8)/\L.wt=1/\out=[(1,(L.ow+1) %256,nF g)] /\L'.ow=(L.ow+1) %256/\L'.wt=3/\(L'.st=6 \/(L.st=8/\L'.st=8)))
theorem Ih(hg:1<=g/\g<=255)(h:LI g L):aeP g L (iW L).1 (iW L).2:=by
 obtain⟨o1,o2,o3,o4,o5,o6,o7,o8⟩:=(rN _ _ _).1 h.k.ok;by_cases u:6<=L.st/\L.st<=8
 ·have hb:¬(decide (4<=L.st)&&decide (L.st<=8))=false:=by simp;omega
  by_cases H:0<L.wt-1
  ·have Z:j6 L={L with wt:=L.wt-1}:=by unfold j6;rw[ae hb,ag H]
   have U:lh L=[] :=by unfold lh;rw[ae hb,ag H]
   have A:=h.k.tick;have J:iW L=({L with wt:=L.wt-1},[]):=by
    unfold iW;rw[Z,U,ae (show¬L.st=3 by omega)]
   rw[Z]at A;rw[J];exact⟨⟨h.fs,h.fm,h.ns,h.nm,h.q,h.st,A⟩,.inl ⟨rfl,rfl,rfl,λh=>dU,λ_=>⟨dU,rfl⟩⟩⟩
  ·have mb:L.wt=1:=dU;by_cases hf:0<L.lf
   ·have y:∃nx,ja L.st 4=([114],nx,0)/\(nx=6 \/(L.st=8/\nx=8)):=by
     obtain⟨a,b,c⟩:=yg.2.2.1;have:L.st=6 \/L.st=7 \/L.st=8:=dU;rcases this with g|g|g<;>rw[g]
     ·exact⟨_,a,.inl rfl⟩
     ·exact⟨_,b,.inl rfl⟩
     ·exact⟨_,c,.inr ⟨rfl,rfl⟩⟩
    obtain⟨nx,l9,uU⟩:=y;have A:=h.k.tick;have en:({L with wt:=L.wt-1}:LS).next nx={L with wt:=L.wt-1,st:=nx}:=by unfold LS.next;rw[ae dU]
    have Z:j6 L=qb [114] {L with wt:=L.wt-1,st:=nx}:=by
     unfold j6;rw[ae hb,ae H,ag hf];unfold nD;rw[show({L with wt:=L.wt-1}:LS).st=L.st from rfl,l9];simp only;rw[en]
    have U:lh L=[(1,(L.ow+1) %256,nL L.ns L.nm)] :=by
     unfold lh;rw[ae hb,ae H,ag hf];unfold pg;rw[show({L with wt:=L.wt-1}:LS).st=L.st from rfl,l9];simp only;rw[en];rfl
    have J:iW L=(j6 L,lh L):=by
     unfold iW;rw[ae (by rw[Z];show¬nx=3;omega)]
    rw[J];refine⟨⟨?_,?_,?_,?_,?_,?_,A⟩,.inr ⟨u,mb,?_,?_,?_,?_⟩⟩
    ·rw[Z];exact h.fs
    ·rw[Z];exact h.fm
    ·rw[Z];exact h.ns
    ·rw[Z];exact h.nm
    ·rw[Z];exact λ_=>⟨h.ns,h.nm⟩
    ·rw[Z];show nx=1 \/(6<=nx/\nx<=9);omega
    ·show lh L=_;rw[U,h.ns,h.nm,Ig hg]
    ·rw[Z];rfl
    ·rw[Z];rfl
    ·rw[Z];exact uU
   ·have y:ja L.st 5=([102],3,0):=by
     obtain⟨a,b,c⟩:=yg.2.2.2.1;have:L.st=6 \/L.st=7 \/L.st=8:=dU;rcases this with g|g|g<;>rw[g] <;>assumption
    have en:({L with wt:=L.wt-1}:LS).next 3={L with wt:=L.wt-1,st:=3,ns:=L.fs,nm:=L.fm,sz:=255}:=by unfold LS.next;rw[ag dX]
    have Z:j6 L={L with wt:=L.wt-1,st:=3,ns:=L.fs,nm:=L.fm,sz:=255}:=by
     unfold j6;rw[ae hb,ae H,ae hf];unfold nD;rw[show({L with wt:=L.wt-1}:LS).st=L.st from rfl,y];simp only;rw[en];rfl
    have U:lh L=[] :=by
     unfold lh;rw[ae hb,ae H,ae hf];unfold pg;rw[show({L with wt:=L.wt-1}:LS).st=L.st from rfl,y];simp only;rw[en];rfl
    obtain⟨L3,T⟩:∃L3:LS,({L with wt:=L.wt-1,st:=3,ns:=L.fs,nm:=L.fm,sz:=255}:LS)=L3:=⟨_,rfl⟩
    rw[T]at Z;have k3:yK L3:=by rw[<-Z];exact h.k.tick
    have D:L3.st=3:=by rw[<-T]
    have d1:kL L3 1=({L3 with st:=1,ns:=L3.fs,nm:=L3.fm,sz:=255},[],0):=by
     show r7 L3 1 (0,0,[])=_;rw[Gs _ (show ja L3.st 1=_ by rw[D];exact yg.2.2.2.2.1.1)];have:L3.next 1={L3 with st:=1,ns:=L3.fs,nm:=L3.fm,sz:=255}:=by unfold LS.next;rw[ag dX]
     rw[this];rfl
    have k1:=k3.kL 1;obtain⟨L1,Q⟩:=fW ((kL L3 1).1);rw[Q]at k1;have V:L1={L3 with st:=1,ns:=L3.fs,nm:=L3.fm,sz:=255}:=by rw[<-Q,d1]
    have j:LI g L1:=by
     refine⟨?_,?_,?_,?_,?_,?_,k1⟩
     ·rw[V,<-T];exact h.fs
     ·rw[V,<-T];exact h.fm
     ·rw[V,<-T];exact h.fs
     ·rw[V,<-T];exact h.fm
     ·rw[V];exact λh=>absurd h (by show¬(6:Int)<=1;decide)
     ·rw[V];exact .inl rfl
    have how:L1.ow=L.ow:=by rw[V,<-T]
    obtain⟨u1,u2,u3,u4,u5⟩:=YL hg j (by rw[V]);have J:iW L=((kL L1 0).1,(kL L1 0).2.1):=by
     unfold iW;rw[Z,ag D,U,Q,d1];rfl
    rw[J];exact⟨u1,.inr ⟨u,mb,by rw[u2,how],by rw[u3,how],u5,.inl u4⟩⟩
 ·have hb:(decide (4<=L.st)&&decide (L.st<=8))=false:=by
   have:=h.st;simp only[Bool.and_eq_false_iff,decide_eq_false_iff_not];omega
  have Z:j6 L=L:=by unfold j6;rw[ag hb]
  have U:lh L=[] :=by unfold lh;rw[ag hb]
  have J:iW L=(L,[]):=by
   unfold iW;rw[Z,U,ae (show¬L.st=3 by have:=h.st;omega)]
  rw[J];exact⟨h,.inl ⟨rfl,rfl,rfl,λ_=>rfl,λh=>absurd h u⟩⟩
theorem Es {x:Int} (h0:0<=x)(h1:x<=255):xI x=true:=by
 unfold xI;simp;omega
theorem zo(hc:code=1 \/code=2)(hi:0<=id/\id<=255)(J:1<=g/\g<=255):jJ code id (nF g)=0:=by
 have Q:=Es hi.1 hi.2;have V:xI g=true:=Es dU J.2;unfold jJ nF;rw[ae (by rw[Q];simp;omega),ae gO,ae dU];have T:xI 1=true:=Es dX dX;have U:xI 5=true:=Es dX dX;have Z:xI 255=true:=Es dX dX;simp[pD,T,U,Z,V]
theorem Xo(hg:1<=g'/\g'<=255)(jm:g'≠g):lM g (nF g')=(2,nF g'):=by
 unfold lM nF sK qA IQ wO;rw[ae gO,ae];simp;omega
structure ai7(g:Int)(L L':LS)(out:List kG)(a:kG):Prop where
 li:LI g L'
 or:(L.st=9/\out=[(1,(L.ow+1) %256,nF g),a] /\L'.st=8/\L'.ow=(L.ow+1) %256/\L'.wt=3) \/(L.st=7/\out=[a] /\L'.st=9/\L'.ow=L.ow) \/((L.st=6 \/L.st=8)/\out=[a] /\L'.st=8/\L'.ow=L.ow/\L'.wt=L.wt)
theorem UF(A:1<=g/\g<=255)(U:1<=g'/\g'<=255)(Q:g'≠g)(hi:0<=id/\id<=255)(h:LI g L)(V:6<=L.st):ai7 g L (jA L (1,id,nF g')).1 (jA L (1,id,nF g')).2.1 (2,id,nF g'):=by
 have Z:=h.k.jA (1,id,nF g');have j:jA L (1,id,nF g')=tH L id (nF g'):=by
  unfold jA;rw[ae (by rw[zo (.inl rfl) hi U];simp),ag rfl]
 rw[j]at Z⊢;have J:=Oc ⟨V,by have:=h.st;omega⟩;have hj:(lM L.nm (nF g')).1=2:=by rw[h.nm,Xo U Q]
 obtain⟨u,t7,t8,t9⟩:=yg.1;have key:∀(l:List UInt8) (nx:Int),ja L.st 6=(l,nx,0)->tH L id (nF g')=((qb l (L.next nx)).sized (nF g'),xJ l (L.next nx) (2,id,nF g'),0):=λl nx hs=>by
  unfold tH;rw[ag hj,Gs _ hs,ag rfl]
 have nx:∀n:Int,¬n<=3->L.next n={L with st:=n}:=λn hn=>by unfold LS.next;rw[ae hn]
 have sz:∀s:LS,(s.sized (nF g')).fs=s.fs/\(s.sized (nF g')).fm=s.fm/\(s.sized (nF g')).ns=s.ns/\(s.sized (nF g')).nm=s.nm/\(s.sized (nF g')).qs=s.qs/\(s.sized (nF g')).qm=s.qm/\(s.sized (nF g')).st=s.st/\(s.sized (nF g')).ow=s.ow/\(s.sized (nF g')).wt=s.wt:=λs=>by
  unfold LS.sized;split<;>exact⟨rfl,rfl,rfl,rfl,rfl,rfl,rfl,rfl,rfl⟩
 have build:∀s:LS,yK (s.sized (nF g'))->s.fs=L.fs->s.fm=L.fm->s.ns=L.ns->s.nm=L.nm->(s.qs=255/\s.qm=g)->(6<=s.st/\s.st<=9)->LI g (s.sized (nF g')):=λs Z a b c d e f=>by
  obtain⟨H,T,z3,z4,z5,y,D,_,_⟩:=sz s;exact⟨by rw[H,a,h.fs],by rw[T,b,h.fm],by rw[z3,c,h.ns],by rw[z4,d,h.nm],λ_=>by rw[z5,y];exact e,by rw[D];exact .inr f,Z⟩
 rcases J with hs|hs|hs|hs
 ·have e:=key [97] 8 (by rw[hs];exact u);rw[e,nx 8 dX]at Z;rw[e,nx 8 dX];refine⟨build (qb [97] {L with st:=8}) Z rfl rfl rfl rfl (h.q V) ⟨by show(6:Int)<=8;decide,by show(8:Int)<=9;decide⟩,.inr (.inr ⟨.inl hs,rfl,?_,?_,?_⟩)⟩
  ·exact(sz _).2.2.2.2.2.2.1
  ·exact(sz _).2.2.2.2.2.2.2.1
  ·exact(sz _).2.2.2.2.2.2.2.2
 ·have e:=key [97,117] 9 (by rw[hs];exact t7);rw[e,nx 9 dX]at Z;rw[e,nx 9 dX];refine⟨build (qb [97,117] {L with st:=9}) Z rfl rfl rfl rfl (h.q V) ⟨by show(6:Int)<=9;decide,by show(9:Int)<=9;decide⟩,.inr (.inl ⟨hs,rfl,?_,?_⟩)⟩
  ·exact(sz _).2.2.2.2.2.2.1
  ·exact(sz _).2.2.2.2.2.2.2.1
 ·have e:=key [97] 8 (by rw[hs];exact t8);rw[e,nx 8 dX]at Z;rw[e,nx 8 dX];refine⟨build (qb [97] {L with st:=8}) Z rfl rfl rfl rfl (h.q V) ⟨by show(6:Int)<=8;decide,by show(8:Int)<=9;decide⟩,.inr (.inr ⟨.inr hs,rfl,?_,?_,?_⟩)⟩
  ·exact(sz _).2.2.2.2.2.2.1
  ·exact(sz _).2.2.2.2.2.2.2.1
  ·exact(sz _).2.2.2.2.2.2.2.2
 ·have e:=key [100,114,97] 8 (by rw[hs];exact t9);rw[e,nx 8 dX]at Z;rw[e,nx 8 dX];refine⟨build (qb [100,114,97] {L with st:=8}) Z rfl rfl rfl rfl ⟨h.ns,h.nm⟩ ⟨by show(6:Int)<=8;decide,by show(8:Int)<=9;decide⟩,.inl ⟨hs,?_,?_,?_,?_⟩⟩
  ·show [(1,(L.ow+1) %256,nL L.ns L.nm),(2,id,nF g')] =_;rw[h.ns,h.nm,Ig A]
  ·exact(sz _).2.2.2.2.2.2.1
  ·exact(sz _).2.2.2.2.2.2.2.1
  ·exact(sz _).2.2.2.2.2.2.2.2
theorem abk(Z:1<=g/\g<=255)(hi:0<=id/\id<=255)(V:id≠L.ow):jA L (2,id,nF g)=(L,[],6):=by
 unfold jA;rw[ae (by rw[zo (.inr rfl) hi Z];simp),ae (by show¬(2:Int)=1;decide),ae (by show¬(2:Int)=5;decide),ae (by show¬(2:Int)=6;decide)];unfold sQ;rw[ag V]
theorem UG(T:1<=g/\g<=255)(h:LI g L)(U:L.st=6 \/L.st=8):LI g (jA L (2,L.ow,nF g)).1/\(jA L (2,L.ow,nF g)).2.1=[] /\(jA L (2,L.ow,nF g)).1.ow=L.ow/\(jA L (2,L.ow,nF g)).1.wt=L.wt/\(jA L (2,L.ow,nF g)).1.st=L.st+1:=by
 have Z:=h.k.jA (2,L.ow,nF g);have V:=h.q dU;have J:jA L (2,L.ow,nF g)=r7 L 8 (0,L.ow,[]):=by
  unfold jA;rw[ae (by rw[zo (.inr rfl) ⟨h.k.o1,h.k.o2⟩ T];simp),ae (by show¬(2:Int)=1;decide),ae (by show¬(2:Int)=5;decide),ae (by show¬(2:Int)=6;decide)];unfold sQ;rw[ae gO,ag rfl,ae (by rw[V.1,V.2,Ig T];simp)]
 rw[J]at Z⊢;obtain⟨Q,H⟩:=yg.2.1;have nx:∀n:Int,¬n<=3->L.next n={L with st:=n}:=λn D=>by unfold LS.next;rw[ae D]
 rcases U with hs|hs
 ·rw[Gs _ (show ja L.st 8=_ by rw[hs];exact Q),nx 7 dX]at Z⊢;exact⟨⟨h.fs,h.fm,h.ns,h.nm,λ_=>V,.inr ⟨by show(6:Int)<=7;decide,by show(7:Int)<=9;decide⟩,Z⟩,rfl,rfl,rfl,by show(7:Int)=_;omega⟩
 ·rw[Gs _ (show ja L.st 8=_ by rw[hs];exact H),nx 9 dX]at Z⊢;exact⟨⟨h.fs,h.fm,h.ns,h.nm,λ_=>V,.inr ⟨by show(6:Int)<=9;decide,by show(9:Int)<=9;decide⟩,Z⟩,rfl,rfl,rfl,by show(9:Int)=_;omega⟩
def l5(g id:Int):kM:=76::lR 1 id (nF g)
def nK(g id:Int):kM:=76::lR 2 id (nF g)
theorem UH(code id g:Int):(lR code id (nF g)).length=7:=by
 unfold lR;simp only[List.length_cons,rh];rfl
theorem zp(hc:code=1 \/code=2)(hi:0<=id/\id<=255)(Z:1<=g/\g<=255):iM (lR code id (nF g))=(code,id,nF g,0):=by
 have e:lR code id (nF g)=[jO code,jO id,2,1,255,5,jO g] :=rfl;have Q:l7 [1,255,5,jO g] =nF g:=by
  have V:l7 [1,255,5,jO g] =[(1,255),(5,((jO g).toNat:Int))] :=rfl;rw[V,mV g dU Z.2];rfl
 have T:=mV code dU dU;have U:=mV id hi.1 hi.2;rw[e];unfold iM;rw[ae gO];show(if jJ ((jO code).toNat:Int) ((jO id).toNat:Int) (l7 [1,255,5,jO g])=0 then(((jO code).toNat:Int),((jO id).toNat:Int),l7 [1,255,5,jO g],0)else(0,0,[],4))=_;rw[Q,T,U,ag (zo hc hi Z)]
theorem Et(hc:code=1 \/code=2)(hi:0<=id/\id<=255)(Z:1<=g/\g<=255):nR (code,id,nF g)=[76::lR code id (nF g)] :=by
 unfold nR;rw[ag ⟨zo hc hi Z,by show(lR code id (nF g)).length+1<=60;rw[UH];decide⟩]
def Br(code:Int):kM->Option Int
 |76::s=>if(iM s).2.2.2=0/\(iM s).1=code then some (iM s).2.1 else none
 |_=>none
theorem wL(code:Int) {c:UInt8} (s:List UInt8)(h:c≠76):Br code (c::s)=ν:=by
 unfold Br;split
 ·rename_i e;exact absurd (aB e).1 h
 ·rfl
theorem Od {k:Int} (Z:k=1 \/k=2)(hi:0<=id/\id<=255)(V:1<=g/\g<=255):Br code (76::lR k id (nF g))=if k=code then μ id else ν:=by
 show(if(iM (lR k id (nF g))).2.2.2=0/\(iM (lR k id (nF g))).1=code then μ (iM (lR k id (nF g))).2.1 else ν)=_;rw[zp Z hi V];by_cases e:k=code
 ·rw[ag ⟨rfl,e⟩,ag e]
 ·rw[ae (λh=>e h.2),ae e]
def ids(code:Int)(l:List kM):List Int:=l.filterMap (Br code)
theorem j8(code:Int)(l m:List kM):ids code (l++m)=ids code l++ids code m:=by unfold ids;rw[cF]
theorem zq(h:∀x∈l,Br code x=ν):ids code l=[] :=by
 unfold ids;rw[cM];exact h
theorem jI(l:List kM)(h:Br code x=ν):ids code (x::l)=ids code l:=by unfold ids;rw[bh,h]
theorem jy(l:List kM)(h:Br code x=μ i):ids code (x::l)=i::ids code l:=by unfold ids;rw[bh,h]
theorem Xp(h:i∈ids code l):∃x∈l,Br code x=μ i:=by
 unfold ids at h;obtain⟨x,V,Z⟩:=cO.1 h;exact⟨x,V,Z⟩
theorem Ii(V:x∈l)(Z:Br code x=μ i):i∈ids code l:=by
 unfold ids;exact cO.2 ⟨x,V,Z⟩
def KC(go gi:Int)(x:kM):Prop:=(∀c s,x=c::s->c≠76) \/(∃id,0<=id/\id<=255/\x=l5 go id) \/(∃id,0<=id/\id<=255/\x=nK gi id)
def qK(x:kM):Prop:=∀c s,x=c::s->c≠76
theorem qK.lk(h:qK x)(code:Int):Br code x=ν:=by
 cases x with
 |nil=>rfl
 |cons c s=>exact wL code s (h c s rfl)
def Ij(X:Int->Bool)(ow:Int)(x y:kM):Prop:=∀j id,Br 2 x=μ j->Br 1 y=μ id->X id=true->j<ow
structure oa(X:Int->Bool)(L:LS)(Fo Fi:List kM)(t:Nat):Prop where
 inc:(ids 2 Fi++ids 1 Fo).Pairwise (· < ·)
 le:∀i∈ids 2 Fi++ids 1 Fo,i<=L.ow
 emp:L.st=7 \/L.st=9->ids 2 Fi++ids 1 Fo=[] /\∀i∈ids 1 Fi,X i=false
 lim:Fi.Pairwise (Ij X L.ow)
 Ik:L.ow+(((ids 1 Fi).filter λi=> !X i).length:Nat)<=t
structure Pair(X Y:Int->Bool)(t:Nat)(g h:Int)(L M:LS)(F G:List kM):Prop where
 l:LI g L
 m:LI h M
 lu:6<=L.st
 mu:6<=M.st
 f:∀x∈F,KC g h x
 g:∀x∈G,KC h g x
 d:oa Y L F G t
 e:oa X M G F t
theorem Pair.symm(p:Pair X Y t g h L M F G):Pair Y X t h g M L G F:=⟨p.m,p.l,p.mu,p.lu,p.g,p.f,p.e,p.d⟩
theorem oa.mono {u:Nat} (p:oa X L Fo Fi t)(h:t<=u):oa X L Fo Fi u:=⟨p.inc,p.le,p.emp,p.lim,by have:=p.Ik;omega⟩
theorem Pair.mono {X Y:Int->Bool} {t u:Nat} {g h:Int} {L M:LS} {F G:List kM} (p:Pair X Y t g h L M F G)(k:t<=u):Pair X Y u g h L M F G:=⟨p.l,p.m,p.lu,p.mu,p.f,p.g,p.d.mono k,p.e.mono k⟩
theorem oa.congr(p:oa X L Fo Fi t)(V:L'.st=L.st)(Z:L'.ow=L.ow):oa X L' Fo Fi t:=⟨p.inc,by rw[Z];exact p.le,by rw[V];exact p.emp,by rw[Z];exact p.lim,by rw[Z];exact p.Ik⟩
theorem oa.sub {Fo' Fi':List kM} (p:oa X L Fo Fi t)(U:Fo'.Sublist Fo)(Z:Fi'.Sublist Fi):oa X L Fo' Fi' t:=by
 have s1:(ids 2 Fi'++ids 1 Fo').Sublist (ids 2 Fi++ids 1 Fo):=List.Sublist.append (Z.filterMap _) (U.filterMap _);have V:(ids 1 Fi').Sublist (ids 1 Fi):=Z.filterMap _;refine⟨p.inc.sublist s1,λi hi=>p.le i (s1.mem hi),λh=> ?_,p.lim.sublist Z,?_⟩
 ·obtain⟨a,b⟩:=p.emp h;refine⟨?_,λi hi=>b i (V.mem hi)⟩;rw[a]at s1;exact List.sublist_nil.1 s1
 ·have:=p.Ik;have:=(V.filter λi=> !X i).length_le;omega
theorem Pair.sub {X Y:Int->Bool} {t:Nat} {g h:Int} {L M:LS} {F G F' G':List kM} (p:Pair X Y t g h L M F G)(V:F'.Sublist F)(Z:G'.Sublist G):Pair X Y t g h L M F' G':=
 ⟨p.l,p.m,p.lu,p.mu,λx hx=>p.f x (V.mem hx),λx hx=>p.g x (Z.mem hx),p.d.sub V Z,p.e.sub Z V⟩
theorem oa.aeQ(p:oa X L Fo Fi t)(h:∀x∈ps,qK x):oa X L Fo (Fi++ps) t:=by
 have Z:∀c,ids c (Fi++ps)=ids c Fi:=λc=>by rw[j8,zq λx hx=>(h x hx).lk c,aC]
 refine⟨by rw[Z];exact p.inc,by rw[Z];exact p.le,by rw[Z,Z];exact p.emp,?_,by rw[Z];exact p.Ik⟩;refine bk.2 ⟨p.lim,?_,λx _ y hy j id _ V=>by rw[(h y hy).lk]at V;exact absurd V gO⟩;exact dx (R:=λ_ _=>True) (λ{x y} hx _ _ j id U=>by rw[(h x hx).lk]at U;exact absurd U gO) (List.pairwise_of_forall λ_ _=>trivial)
theorem oa.aeR(p:oa X L Fo Fi t)(h:∀x∈ps,qK x):oa X L (Fo++ps) Fi t:=by
 have Z:ids 1 (Fo++ps)=ids 1 Fo:=by rw[j8,zq λx hx=>(h x hx).lk 1,aC]
 exact⟨by rw[Z];exact p.inc,by rw[Z];exact p.le,by rw[Z];exact p.emp,p.lim,p.Ik⟩
theorem Pair.more(p:Pair X Y t g h L M F G)(Z:∀x∈ps,qK x):Pair X Y t g h L M (F++ps) G:=
 ⟨p.l,p.m,p.lu,p.mu,λx hx=>(av.1 hx).elim (p.f x) λe=>.inl (Z x e),p.g,p.d.aeR Z,p.e.aeQ Z⟩
theorem rV(Z:1<=g/\g<=255)(hi:0<=id/\id<=255):Br 1 (l5 g id)=μ id/\Br 2 (l5 g id)=ν/\Br 1 (nK g id)=ν/\Br 2 (nK g id)=μ id:=by
 unfold l5 nK;rw[Od (.inl rfl) hi Z,Od (.inl rfl) hi Z,Od (.inr rfl) hi Z,Od (.inr rfl) hi Z];exact⟨gO,gO,gO,gO⟩
def mark(X:Int->Bool)(i:Int)(b:Bool):Int->Bool:=λk=>if k=i then b else X k
theorem KE {l:List Int} (h:∀k∈l,k<i):(l.filter λk=> !mark X i b k)=l.filter λk=> !X k:=by
 refine List.filter_congr λk Z=> ?_;have:=h k Z;unfold mark;rw[ae dU]
theorem KF(h:∀k∈ids 1 F,k<i)(p:F.Pairwise (Ij X ow)):F.Pairwise (Ij (mark X i b) ow):=by
 refine dx (λ{x y} _ hy U j id T V Z=>U j id T V ?_) p;have:=h id (Ii hy V);unfold mark at Z;rw[ae dU]at Z;exact Z
theorem UI {Bs:Int} (h:ow<=Bs)(p:F.Pairwise (Ij X ow)):F.Pairwise (Ij X Bs):=
 p.imp λ{x y} V j id U Z T=>by have:=V j id U Z T;omega
theorem Pair.ask(H:1<=g/\g<=255)(p:Pair X Y t g h L M F G)(ht:t+1<=255)(hl:LI g L')(Q:L'.ow=L.ow+1)(hs:L'.st=6 \/L'.st=8):Pair (mark X (L.ow+1) false) Y (t+1) g h L' M (F++ [l5 g (L.ow+1)]) G:=by
 have hb:=p.d.Ik;have hi:0<=L.ow+1/\L.ow+1<=255:=by have:=p.l.k.o1;omega
 obtain⟨r1,u,_,_⟩:=rV H hi;have V:ids 1 (F++ [l5 g (L.ow+1)])=ids 1 F++ [L.ow+1] :=by rw[j8,jy [] r1];rfl
 have J:ids 2 (F++ [l5 g (L.ow+1)])=ids 2 F:=by rw[j8,jI [] u];simp[ids]
 have U:∀k∈ids 1 F,k<L.ow+1:=λk D=>by have:=p.d.le k (av.2 (.inr D));omega
 refine⟨hl,p.m,dU,p.mu,λx hx=> ?_,p.g,⟨?_,?_,λh=>dU,by rw[Q];exact UI dU p.d.lim,by rw[Q];omega⟩,⟨?_,?_,λh=> ?_,?_,?_⟩⟩
 ·rcases av.1 hx with e|e
  ·exact p.f x e
  ·exact .inr (.inl ⟨_,hi.1,hi.2,ar.1 e⟩)
 ·rw[V,<-aD];refine bk.2 ⟨p.d.inc,gO,λa A b hb=> ?_⟩;rw[ar.1 hb];have:=p.d.le a A;omega
 ·rw[V,<-aD,Q];intro i hi;rcases av.1 hi with e|e
  ·have:=p.d.le i e;omega
  ·rw[ar.1 e];exact Int.le_refl _
 ·rw[J];exact p.e.inc
 ·rw[J];exact p.e.le
 ·rw[V,J];obtain⟨a,b⟩:=p.e.emp h;refine⟨a,λi hi=> ?_⟩;unfold mark;rcases av.1 hi with e|e
  ·rw[ae (by have:=U i e;omega)];exact b i e
  ·rw[ag (ar.1 e)]
 ·refine bk.2 ⟨KF U p.e.lim,gO,λx _ y hy j id _ Z T=> ?_⟩;rw[ar.1 hy,r1]at Z;injection Z with Z
  unfold mark at T;rw[ag Z.symm]at T;exact absurd T gO
 ·rw[V,ch,KE U,az];have:=p.e.Ik;have:((([L.ow+1] :List Int).filter λi=> !mark X (L.ow+1) false i).length)<=1:=cE _ _;omega
theorem Pair.tick(U:1<=g/\g<=255)(p:Pair X Y t g h L M F G)(H:t+1<=255):∃X',Pair X' Y (t+1) g h (iW L).1 M (F++(iW L).2.flatMap nR) G/\(∀k∈ids 1 F,X' k=X k)/\((iW L).2.flatMap nR=[] \/(iW L).2.flatMap nR=[l5 g (L.ow+1)]):=by
 obtain⟨li,Z|Z⟩:=Ih U p.l
 ·obtain⟨Z,Q,V,_⟩:=Z;refine⟨X,?_,λ_ _=>rfl,.inl (by rw[Z];rfl)⟩;rw[Z];have q:Pair X Y t g h (iW L).1 M F G:=⟨li,p.m,by rw[V];exact p.lu,p.mu,p.f,p.g,p.d.congr V Q,p.e⟩
  simpa using q.mono (Nat.le_succ t)
 ·obtain⟨_,_,V,T,_,h6⟩:=Z;have hb:=p.d.Ik;have hi:0<=L.ow+1/\L.ow+1<=255:=by have:=p.l.k.o1;omega
  have em:(L.ow+1) %256=L.ow+1:=dU;rw[em]at V T;have e:(iW L).2.flatMap nR=[l5 g (L.ow+1)] :=by
   rw[V];show nR _++ [] =_;rw[Et (.inl rfl) hi U];rfl
  refine⟨mark X (L.ow+1) false,?_,λk J=> ?_,.inr e⟩
  ·rw[e];exact p.ask U H li T dU
  ·have:=p.d.le k (av.2 (.inr J));unfold mark;rw[ae dU]
def wX(X:Int->Bool)(x:kM):Nat:=match Br 1 x with
 |some i=>if X i=true then 2 else 3
 |none=>match x with
  |83::_=>2
  |77::_::b::_=>b.toNat+1
  |_=>1
def oj(X:Int->Bool)(x:kM):Nat:=match Br 1 x with
 |some i=>if X i=true then 2 else 4
 |none=>match x with
  |83::_=>2
  |77::_=>0
  |_=>1
theorem zr(Z:1<=g/\g<=255)(hi:0<=id/\id<=255)(X:Int->Bool):wX X (nK g id)=1/\oj X (nK g id)=1:=by
 unfold wX oj;rw[(rV Z hi).2.2.1];exact⟨rfl,rfl⟩
theorem zt(Z:1<=g/\g<=255)(hi:0<=id/\id<=255)(X:Int->Bool):wX X (l5 g id)=(if X id=true then 2 else 3)/\oj X (l5 g id)=if X id=true then 2 else 4:=by
 unfold wX oj;rw[(rV Z hi).1];exact⟨rfl,rfl⟩
theorem oa.YM {X':Int->Bool} (hh:1<=h/\h<=255)(hi:0<=id/\id<=255)(p:oa X M (l5 h id::G) F t)(V:ids 2 em=[id])(U:(F++em).Pairwise (Ij X' M.ow))(Z:M.ow+(((ids 1 (F++em)).filter λi=> !X' i).length:Nat)<=t):oa X' M G (F++em) t:=by
 have r1:=(rV hh hi).1;have e:ids 2 (F++em)++ids 1 G=ids 2 F++ids 1 (l5 h id::G):=by
  rw[j8,V,jy G r1,aD];rfl
 refine⟨by rw[e];exact p.inc,by rw[e];exact p.le,λhs=> ?_,U,Z⟩;have:=(p.emp hs).1;rw[jy G r1]at this;simp at this
theorem Oe(V:F.Pairwise (Ij X ow))(Z:em.Pairwise (Ij X ow))(U:∀y∈em,∀id,Br 1 y=μ id->X id=true->∀j∈ids 2 F,j<ow):(F++em).Pairwise (Ij X ow):=
 bk.2 ⟨V,Z,λ_ hx y hy j id a b c=>U y hy id b c j (Ii hx a)⟩
structure Xr(X X' Y:Int->Bool)(t:Nat)(g h:Int)(L' M:LS)(F l em:List kM)(x:kM):Prop where
 p:Pair X' Y t g h L' M (F++em) l
 old:∀k∈ids 1 F,X' k=X k
 dp:∀y∈em,wX X' y+1<=wX Y x
 wg:sm (oj X') em+1<=oj Y x
 st:6<=L'.st
theorem Pair.aeS(hh:1<=h/\h<=255)(hi:0<=id/\id<=255)(p:Pair X Y t g h L M F (l5 h id::l))(li:LI g L')(V:L'.ow=L.ow)(J:6<=L'.st)(u:L'.st=7 \/L'.st=9->L.st=7):Xr X X Y t g h L' M F l [nK h id] (l5 h id):=by
 obtain⟨r1,j,H,A⟩:=rV hh hi;have U:=jy l r1;have Z:=jI l j;have i1:ids 1 [nK h id] =[] :=by rw[jI _ H];rfl
 have D:ids 2 [nK h id] =[id] :=by rw[jy _ A];rfl
 have T:=zt hh hi Y;refine⟨⟨li,p.m,J,p.mu,λx hx=> ?_,λy hy=>p.g y (by simp[hy]),⟨?_,?_,λhs=> ?_,?_,?_⟩,?_⟩,λk _=>rfl,λy hy=> ?_,?_,J⟩
 ·rcases av.1 hx with z|z
  ·exact p.f x z
  ·rw[ar.1 z];exact .inr (.inr ⟨id,hi.1,hi.2,rfl⟩)
 ·rw[j8,i1,aC,<-Z];exact p.d.inc
 ·rw[j8,i1,aC,<-Z,V];exact p.d.le
 ·rw[j8,i1,aC,<-Z];obtain⟨a,b⟩:=p.d.emp (.inl (u hs));exact⟨a,λi hi=>b i (by rw[U];simp[hi])⟩
 ·rw[V];exact p.d.lim.sublist (bI _ _)
 ·rw[V];have:=p.d.Ik;rw[U]at this;have h2:((ids 1 l).filter λi=> !Y i).length<=((id::ids 1 l).filter λi=> !Y i).length:=((bI id (ids 1 l)).filter _).length_le;omega
 ·refine oa.YM hh hi p.e D (Oe p.e.lim gO λy hy i Q _=>by rw[ar.1 hy,H]at Q;exact absurd Q gO) ?_;rw[j8,i1,aC];exact p.e.Ik
 ·rw[ar.1 hy,(zr hh hi _).1,T.1];split<;>omega
 ·show oj _ (nK h id)+0+1<=_;rw[(zr hh hi _).2,T.2];split<;>omega
theorem Pair.req(H:1<=g/\g<=255)(hh:1<=h/\h<=255)(jm:h≠g)(ht:t<=255)(hi:0<=id/\id<=255)(p:Pair X Y t g h L M F (l5 h id::l)):∃X',Xr X X' Y t g h (jA L (1,id,nF h)).1 M F l ((jA L (1,id,nF h)).2.1.flatMap nR) (l5 h id):=by
 obtain⟨r1,r2,r3,r4⟩:=rV hh hi;have hb:=p.d.Ik;have ho:=p.l.k.o1;have A:=jy l r1;have Og:=jI l r2;have hf:∀y∈l,KC h g y:=λy hy=>p.g y (by simp[hy]);have hack:KC g h (nK h id):=.inr (.inr ⟨id,hi.1,hi.2,rfl⟩);have V:nR (2,id,nF h)=[nK h id] :=Et (.inr rfl) hi hh;have hM:∀j∈ids 2 F,j<M.ow:=λj hj=>by
  have h1:=p.e.inc;have h2:=p.e.le id (by rw[A];simp);rw[A]at h1;have:=(bk.1 h1).2.2 j hj id gO;omega
 obtain⟨li,h9|h7|u⟩:=UF H hh jm hi p.l p.lu
 ·obtain⟨s9,out,s8,Z,_⟩:=h9;obtain⟨UK,abm⟩:=p.d.emp (.inr s9);have hX:Y id=false:=abm id (by rw[A];simp);have ai9:((ids 1 (l5 h id::l)).filter λi=> !Y i).length=((ids 1 l).filter λi=> !Y i).length+1:=by
   rw[A,List.filter_cons,hX];rfl
  have em:(L.ow+1) %256=L.ow+1:=dU;have J:0<=L.ow+1/\L.ow+1<=255:=dU;obtain⟨q1,q2,q3,q4⟩:=rV H J;rw[em]at out Z;have e:(jA L (1,id,nF h)).2.1.flatMap nR=[l5 g (L.ow+1),nK h id] :=by
   rw[out];show nR _++(nR _++ [])=_;rw[Et (.inl rfl) J H,V];rfl
  have T:ids 2 l=[] /\ids 1 F=[] :=by
   rw[Og]at UK;exact dH.1 UK
  have i1:ids 1 [l5 g (L.ow+1),nK h id] =[L.ow+1] :=by rw[jy _ q1,jI _ r3];rfl
  have i2:ids 2 [l5 g (L.ow+1),nK h id] =[id] :=by rw[jI _ q2,jy _ r4];rfl
  refine⟨mark X (L.ow+1) true,?_⟩;rw[e];refine⟨⟨li,p.m,dU,p.mu,λx hx=> ?_,hf,⟨?_,?_,λh=>dU,?_,?_⟩,?_⟩,λk D=>by rw[T.2]at D;simp at D,λy hy=> ?_,?_,dU⟩
  ·rcases av.1 hx with z|z
   ·exact p.f x z
   ·rcases aQ.1 z with z|z
    ·exact .inr (.inl ⟨_,J.1,J.2,z⟩)
    ·rw[ar.1 z];exact hack
  ·rw[T.1,j8,T.2,i1];simp
  ·rw[T.1,j8,T.2,i1,Z];simp
  ·rw[Z];exact UI dU (p.d.lim.sublist (bI _ _))
  ·rw[Z];omega
  ·refine oa.YM hh hi p.e i2 (Oe (KF (λk D=>by rw[T.2]at D;simp at D) p.e.lim) ?_ λy hy i h1 h2=>hM) ?_
   ·refine ct.2 ⟨λy hy j i a=>by rw[q2]at a;exact absurd a gO,gO⟩
   ·rw[j8,T.2,i1];have:(([] ++ [L.ow+1] :List Int).filter λi=> !mark X (L.ow+1) true i)=[] :=by simp[mark]
    rw[this];have:=p.e.Ik;have e0:(([] :List Int).length:Nat)=0:=rfl;omega
  ·have hY:wX Y (l5 h id)=3:=by rw[(zt hh hi Y).1,hX];rfl
   rw[hY];rcases aQ.1 hy with z|z
   ·rw[z,(zt H J _).1];simp[mark]
   ·rw[ar.1 z,(zr hh hi _).1];omega
  ·have hY:oj Y (l5 h id)=4:=by rw[(zt hh hi Y).2,hX];rfl
   rw[hY];show oj _ (l5 g (L.ow+1))+(oj _ (nK h id)+0)+1<=4;rw[(zt H J _).2,(zr hh hi _).2];simp[mark]
 ·have Gt:∃L',(jA L (1,id,nF h)).1=L'/\LI g L'/\L'.ow=L.ow/\6<=L'.st/\(L'.st=7 \/L'.st=9->L.st=7)/\(jA L (1,id,nF h)).2.1.flatMap nR=[nK h id] :=by
   obtain⟨s7,out,s9,Z⟩:=h7;refine⟨_,rfl,li,Z,dU,λ_=>s7,?_⟩;rw[out];show nR _++ [] =_;rw[V];rfl
  obtain⟨L',Q,U,Z,Q7,jY,e⟩:=Gt;refine⟨X,?_⟩;rw[Q,e];exact Pair.aeS hh hi p U Z Q7 jY
 ·have Gt:∃L',(jA L (1,id,nF h)).1=L'/\LI g L'/\L'.ow=L.ow/\6<=L'.st/\(L'.st=7 \/L'.st=9->L.st=7)/\(jA L (1,id,nF h)).2.1.flatMap nR=[nK h id] :=by
   obtain⟨s7,out,s8,Z,_⟩:=u;refine⟨_,rfl,li,Z,dU,λh=>dU,?_⟩;rw[out];show nR _++ [] =_;rw[V];rfl
  obtain⟨L',Q,U,Z,Q7,jY,e⟩:=Gt;refine⟨X,?_⟩;rw[Q,e];exact Pair.aeS hh hi p U Z Q7 jY
theorem Pair.ack(Q:1<=g/\g<=255)(hi:0<=id/\id<=255)(p:Pair X Y t g h L M F (nK g id::l)):Xr X X Y t g h (jA L (2,id,nF g)).1 M F l ((jA L (2,id,nF g)).2.1.flatMap nR) (nK g id):=by
 obtain⟨r1,r2,r3,r4⟩:=rV Q hi;have J:=jI l r3;have Og:=jy l r4;have YO:ids 2 (nK g id::l)++ids 1 F=id::(ids 2 l++ids 1 F):=by rw[Og];rfl
 have kT:¬(L.st=7 \/L.st=9):=λh=>by
  have:=(p.d.emp h).1;rw[YO]at this;simp at this
 have U:=p.d.inc;have Z:=p.d.le;rw[YO]at U Z;have V:=ct.1 U;have j:oa X M l F t:=⟨by have:=p.e.inc;rw[J]at this;exact this,by have:=p.e.le;rw[J]at this;exact this,by have:=p.e.emp;rw[J]at this;exact this,p.e.lim,p.e.Ik⟩
 have Xq:L.ow+(((ids 1 l).filter λi=> !Y i).length:Nat)<=t:=by have:=p.d.Ik;rw[J]at this;exact this
 have u:=p.d.lim;have hf:∀y∈l,KC h g y:=λy hy=>p.g y (by simp[hy]);have T:sm (oj X) [] +1<=oj Y (nK g id):=by rw[(zr Q hi Y).2];exact Nat.le_refl _
 by_cases hw:id=L.ow
 ·have D:L.st=6 \/L.st=8:=by
   have:=p.lu;have:=p.l.st;omega
  obtain⟨a1,a2,a3,_,a5⟩:=UG Q p.l D;subst hw;rw[a2];have A:ids 2 l++ids 1 F=[] :=by
   cases hl:ids 2 l++ids 1 F with
   |nil=>rfl
   |cons z zs=>
    have h1:=V.1 z (by rw[hl];simp);have h2:=Z z (by rw[hl];simp);omega
  refine⟨⟨a1,p.m,by rw[a5];omega,p.mu,?_,hf,⟨?_,?_,λ_=>⟨?_,λi kB=> ?_⟩,?_,?_⟩,?_⟩,λ_ _=>rfl,λy hy=>by simp at hy,T,by rw[a5];omega⟩
  ·simpa using p.f
  ·rw[show F++ig nR [] =F by simp,A];exact List.Pairwise.nil
  ·rw[show F++ig nR [] =F by simp,A];exact λ_ h=>by simp at h
  ·rw[show F++ig nR [] =F by simp];exact A
  ·obtain⟨y,hy,H⟩:=Xp kB;cases hX:Y i
   ·rfl
   ·have:=(ct.1 u).1 y hy L.ow i r4 H hX;omega
  ·rw[a3];exact u.sublist (bI _ _)
  ·rw[a3];exact Xq
  ·rw[show F++ig nR [] =F by simp];exact j
 ·rw[abk Q hi hw];refine⟨⟨p.l,p.m,p.lu,p.mu,?_,hf,⟨?_,?_,λh=>absurd h kT,u.sublist (bI _ _),Xq⟩,?_⟩,λ_ _=>rfl,λy hy=>by simp at hy,T,p.lu⟩
  ·simpa using p.f
  ·rw[show F++ig nR [] =F by simp];exact V.2
  ·rw[show F++ig nR [] =F by simp];exact λi hi=>Z i (by simp[hi])
  ·rw[show F++ig nR [] =F by simp];exact j
theorem Pair.new(U:1<=g/\g<=255)(hh:1<=h/\h<=255)(l:LI g L)(m:LI h M)(s1:L.st=6)(s2:M.st=6)(w1:L.ow+1<=t)(w2:M.ow+1<=t):Pair (λ_=>false) (λ_=>false) t g h L M [l5 g L.ow] [l5 h M.ow] :=by
 obtain⟨q1,q2,_,_⟩:=rV U ⟨l.k.o1,l.k.o2⟩;obtain⟨r1,T,_,_⟩:=rV hh ⟨m.k.o1,m.k.o2⟩;have Z:ids 1 [l5 g L.ow] =[L.ow] :=by rw[jy _ q1];rfl
 have V:ids 2 [l5 g L.ow] =[] :=by rw[jI _ q2];rfl
 have b1:ids 1 [l5 h M.ow] =[M.ow] :=by rw[jy _ r1];rfl
 have b2:ids 2 [l5 h M.ow] =[] :=by rw[jI _ T];rfl
 refine⟨l,m,dU,dU,λx hx=> ?_,λx hx=> ?_,⟨?_,?_,λh=>dU,gO,?_⟩,⟨?_,?_,λh=>dU,gO,?_⟩⟩
 ·exact .inr (.inl ⟨_,l.k.o1,l.k.o2,ar.1 hx⟩)
 ·exact .inr (.inl ⟨_,m.k.o1,m.k.o2,ar.1 hx⟩)
 ·rw[Z,b2];simp
 ·rw[Z,b2];simp
 ·rw[b1];show L.ow+((1:Nat):Int)<=t;omega
 ·rw[b1,V];simp
 ·rw[b1,V];simp
 ·rw[Z];show M.ow+((1:Nat):Int)<=t;omega
def jR(a:AN)(c d:Nat):LS:=((a.R (a.e c d).1).P (a.e c d).2).L
def gP(x:Nat×Nat):Int:=8*((x.1:Int)+1)+(x.2:Int)+1
theorem qL(Z:sX a)(hc:c<a.nc)(hd:d<2):1<=gP (a.e c d)/\gP (a.e c d)<=255:=by
 have:=Z.en c d hc hd;have:=Z.n6;unfold gP;omega
theorem YP(Z:sX a)(hc:c<a.nc)(hd:d<2)(V:d'<2)(h:d≠d'):gP (a.e c d)≠gP (a.e c d'):=by
 have h1:=Z.en c d hc hd;have h2:=Z.en c d' hc V;intro e;unfold gP at e;have:a.e c d=a.e c d':=aR dU dU;exact h (Z.ds _ _ _ _ hc hd hc V this).2
abbrev Marks:=Nat->Nat->Int->Bool
structure qy(X:Marks)(t:Nat×Nat->Nat)(a:AN):Prop where
 up:∀c,c<a.nc->a.iR c=true->Pair (X c 0) (X c 1) (t (a.e c 0)+t (a.e c 1)) (gP (a.e c 0)) (gP (a.e c 1)) (jR a c 0) (jR a c 1) (a.F c 0) (a.F c 1)
 dn:∀c,c<a.nc->a.iR c=false->∀d,d<2->LI (gP (a.e c d)) (jR a c d)/\(jR a c d).st=1/\(jR a c d).ow<=((t (a.e c 0)+t (a.e c 1):Nat):Int)/\a.F c d=[]
theorem qy.sN {X:Marks} {t:Nat×Nat->Nat} (h:qy X t a)(hc:c<a.nc)(hd:d<2)(hi:a.iR c=true):Pair (X c d) (X c (1-d)) (t (a.e c 0)+t (a.e c 1)) (gP (a.e c d)) (gP (a.e c (1-d))) (jR a c d) (jR a c (1-d)) (a.F c d) (a.F c (1-d)):=by
 have:d=0 \/d=1:=dU;rcases this with rfl|rfl
 ·exact h.up c hc hi
 ·exact(h.up c hc hi).symm
theorem qy.yh {X:Marks} {t:Nat×Nat->Nat} (h:qy X t a)(hc:c<a.nc)(hd:d<2)(hx:x∈a.F c d):a.iR c=true:=by
 cases hi:a.iR c
 ·have:=(h.dn c hc hi d hd).2.2.2;rw[this]at hx;simp at hx
 ·rfl
theorem KG {X:Marks} {g:Nat->Int} {L:Nat->LS} {F:Nat->List kM} (hd:d<2)(h:Pair (X 0 d) (X 0 (1-d)) t (g d) (g (1-d)) (L d) (L (1-d)) (F d) (F (1-d))):Pair (X 0 0) (X 0 1) t (g 0) (g 1) (L 0) (L 1) (F 0) (F 1):=by
 have:d=0 \/d=1:=dU;rcases this with rfl|rfl
 ·exact h
 ·exact h.symm
theorem qy.NR {X X':Marks} {t u:Nat×Nat->Nat} {b:AN} (h:qy X t a)(T:∀x,t x<=u x)(V:b.e=a.e)(hc:c<a.nc)(hi:b.iR c=a.iR c)(U:∀d,d<2->X' c d=X c d)(Z:∀d,d<2->jR b c d=jR a c d)(hF:∀d,d<2->b.F c d=a.F c d):(b.iR c=true->Pair (X' c 0) (X' c 1) (u (b.e c 0)+u (b.e c 1)) (gP (b.e c 0)) (gP (b.e c 1)) (jR b c 0) (jR b c 1) (b.F c 0) (b.F c 1))/\(b.iR c=false->∀d,d<2->LI (gP (b.e c d)) (jR b c d)/\(jR b c d).st=1/\(jR b c d).ow<=((u (b.e c 0)+u (b.e c 1):Nat):Int)/\b.F c d=[]):=by
 have t0:=T (a.e c 0);have t1:=T (a.e c 1);refine⟨λhb=> ?_,λhb d hd=> ?_⟩
 ·rw[V,U 0 dX,U 1 dX,Z 0 dX,Z 1 dX,hF 0 dX,hF 1 dX];exact(h.up c hc (by rw[<-hi];exact hb)).mono dU
 ·rw[V,Z d hd,hF d hd];obtain⟨H,J,a3,Q⟩:=h.dn c hc (by rw[<-hi];exact hb) d hd;exact⟨H,J,dU,Q⟩
theorem Gu(a:AN)(i:Nat)(s:iE)(c d:Nat):jR (a.op i s) c d=if(a.e c d).1=i then(s.P (a.e c d).2).L else jR a c d:=by
 unfold jR;show((jK a.R i s.core (a.e c d).1).P (a.e c d).2).L=_;by_cases e:(a.e c d).1=i
 ·rw[e,iu,ag rfl];rfl
 ·rw[iq _ _ e,ae e]
theorem Gv(h:∀k∈ids 1 F,Y k=X k):∀y∈F,wX Y y=wX X y/\oj Y y=oj X y:=λy hy=>by
 unfold wX oj;cases e:Br 1 y with
 |none=>exact⟨rfl,rfl⟩
 |some i=>constructor<;>simp only[h i (Ii hy e)]
theorem qy.quiet {X:Marks} {t:Nat×Nat->Nat} (h:qy X t a)(i:Nat)(s:iE)(U:∀p,(s.P p).L=((a.R i).P p).L)(Q:∀p,je (s.P p)=[] \/((s.P p).L.st=9/\∀y∈je (s.P p),qK y)):qy X t (a.op i s):=by
 have l1:∀c d,jR (a.op i s) c d=jR a c d:=λc d=>by
  rw[Gu];split
  ·rename_i e;rw[U,<-e];rfl
  ·rfl
 have f1:∀c d,∃em,(a.op i s).F c d=a.F c d++em/\(em=[] \/((jR a c d).st=9/\∀y∈em,qK y)):=λc d=>by
  rw[uR];split
  ·rename_i e
   refine⟨_,rfl,?_⟩;rcases Q (a.e c d).2 with g|⟨g1,V⟩
   ·exact .inl g
   ·right;rw[U]at g1;unfold jR;rw[e.2];exact⟨g1,V⟩
  ·exact⟨[],gO,.inl rfl⟩
 refine⟨λc hc hi=> ?_,λc hc hi d hd=> ?_⟩
 ·have p:=h.up c hc hi;rw[l1,l1];obtain⟨D,A,b0⟩:=f1 c 0;obtain⟨H,Z,b1⟩:=f1 c 1;rw[A,Z];have u:∀y∈D,qK y:=by
   rcases b0 with b|b;·rw[b];exact λ_ h=>by simp at h
   ·exact b.2
  have n1:∀y∈H,qK y:=by
   rcases b1 with b|b;·rw[b];exact λ_ h=>by simp at h
   ·exact b.2
  exact((p.more u).symm.more n1).symm
 ·obtain⟨Z,j,T,J⟩:=h.dn c hc hi d hd;rw[l1];obtain⟨em,g1,V⟩:=f1 c d;refine⟨Z,j,T,?_⟩;rw[g1,J];rcases V with g|g
  ·rw[g];rfl
  ·have:=g.1;omega
theorem wi(i p:Nat)(s:iE)(h:∀q,q≠p->(s.P q).L=((a.R i).P q).L/\je (s.P q)=[])(c d:Nat):(a.e c d≠(i,p)->jR (a.op i s) c d=jR a c d/\(a.op i s).F c d=a.F c d)/\(a.e c d=(i,p)->c<a.nc->d<2->jR (a.op i s) c d=(s.P p).L/\(a.op i s).F c d=a.F c d++je (s.P p)):=by
 refine⟨λV=> ?_,λZ hc hd=> ?_⟩
 ·rw[Gu,uR];by_cases e:(a.e c d).1=i
  ·have U:(a.e c d).2≠p:=λQ=>V (aR e Q);obtain⟨g1,T⟩:=h _ U;rw[ag e,g1,T,aC];refine⟨?_,by split<;>rfl⟩;unfold jR;rw[e]
  ·rw[ae e,ae (λz=>e z.2)];exact⟨rfl,rfl⟩
 ·rw[Gu,uR,Z,ag rfl,ag ⟨⟨hc,hd⟩,rfl⟩];exact⟨rfl,rfl⟩
def pN(t:Nat×Nat->Nat)(T:List (Nat×Nat))(x:Nat×Nat):Nat:=t x+T.count x
def EH(X:Marks)(c d:Nat)(Y:Int->Bool):Marks:=λc' d'=>if c'=c/\d'=d then Y else X c' d'
theorem qM(X:Marks)(c d:Nat)(Y:Int->Bool):EH X c d Y c d=Y:=ag ⟨rfl,rfl⟩
theorem lQ(X:Marks) {c':Nat} (Y:Int->Bool)(h:¬(c'=c/\d'=d)):EH X c d Y c' d'=X c' d':=ae h
theorem zu(c:UInt8)(s:List UInt8)(h:c≠76):qK (c::s):=λk u e=>by rw[<-(aB e).1];exact h
def zE(r:iE)(p:Nat):List kM:=if(iW (r.P p).L).1.st=9 then(72::[jO r.id,jO (iA (r.P p).pe).who])::(if(iA (r.P p).pe).both=true then(kO (((iT r p).meet p (iA (r.P p).pe)).O p)).flatMap Cz else [])else []
theorem wj(r:iE)(p:Nat):∀y∈zE r p,qK y:=λy hy=>by
 unfold zE at hy;split at hy
 ·rcases aQ.1 hy with g|g
  ·rw[g];exact zu 72 _ dX
  ·split at g
   ·obtain⟨q,_,Z⟩:=aV.1 g;unfold Cz at Z;split at Z
    ·rw[ar.1 Z];exact zu 83 _ dX
    ·simp at Z
   ·simp at g
 ·simp at hy
theorem AB(r:iE)(p q:Nat):((r.iL p).P q).L=if q=p then(iW (r.P p).L).1 else(r.P q).L:=by
 have Z:((iT r p).P q).L=if q=p then(iW (r.P p).L).1 else(r.P q).L:=by
  unfold iT;rw[kx];split
  ·rename_i e;rw[rT]
  ·rfl
 rw[kP];split
 ·rw[(j1 _ _ _ _).2.1];exact Z
 ·rw[((oV _ _).2.2.2.2 q).2.2,(j1 _ _ _ _).2.1];exact Z
structure KH(X Y:Marks)(a b:AN)(c d:Nat)(l em:List kM):Prop where
 f:b.F c d=l++em
 o:∀y∈l,wX (Y c d) y=wX (X c d) y/\oj (Y c d) y=oj (X c d) y
theorem qy.tick {X:Marks} {t:Nat×Nat->Nat} {a:AN} (hB:sX a)(hN:Norm a)(h:qy X t a) {i p:Nat} (ht:∀x,t x<=126):∃Y,qy Y (pN t [(i,p)]) (a.op i ((a.R i).iL p))/\∀c d,c<a.nc->d<2->(a.e c d≠(i,p)->KH X Y a (a.op i ((a.R i).iL p)) c d (a.F c d) [])/\(a.e c d=(i,p)->∃em,(em=[] \/em=[l5 (gP (a.e c d)) ((jR a c d).ow+1)])/\KH X Y a (a.op i ((a.R i).iL p)) c d (a.F c d) (em++zE (a.R i) p)):=by
 obtain⟨e1,e2⟩:=wJ (hN.emp i) p;have T:=wi (a:=a) i p ((a.R i).iL p) λq hq=>⟨by rw[AB,ae hq],e1 q hq⟩
 have Xu:(((a.R i).iL p).P p).L=(iW ((a.R i).P p).L).1:=by rw[AB,ag rfl]
 have u:∀x,t x<=pN t [(i,p)] x:=λx=>Nat.le_add_right _ _;by_cases hex:∃c d,c<a.nc/\d<2/\a.e c d=(i,p)
 ·obtain⟨c,d,hc,hd,D⟩:=hex;have oQ:jR a c d=((a.R i).P p).L:=by unfold jR;rw[D]
  have hu:∀c' d',c'<a.nc->d'<2->¬(c'=c/\d'=d)->a.e c' d'≠(i,p):=λc' d' U V A e=>A (hB.ds _ _ _ _ U V hc hd (e.trans D.symm));cases hi:a.iR c
  ·obtain⟨l1,l2,l3,l4⟩:=h.dn c hc hi d hd;have yo:=Ih (qL hB hc hd) l1;have kf:iW (jR a c d)=(jR a c d,[]):=by
    rcases yo.or with g|g
    ·exact aR (g.2.2.2.1 (.inl l2)) g.1
    ·omega
   rw[oQ]at kf l2;have em0:je (((a.R i).iL p).P p)=[] :=by
    rw[e2,kf,ae (by rw[l2];decide)];rfl
   have tk0:zE (a.R i) p=[] :=by unfold zE;rw[kf,ae (by rw[l2];decide)]
   have j:∀c' d',jR (a.op i ((a.R i).iL p)) c' d'=jR a c' d'/\(a.op i ((a.R i).iL p)).F c' d'=a.F c' d':=λc' d'=>by
    by_cases H:a.e c' d'=(i,p)
    ·rw[Gu,uR,H,ag rfl,Xu,kf];refine⟨by unfold jR;rw[H],?_⟩;split
     ·rw[em0,aC]
     ·rfl
    ·exact(T c' d').1 H
   refine⟨X,⟨λc' U J=> ?_,λc' U J=> ?_⟩,λc' d' U V=>⟨λ_=>⟨by rw[(j c' d').2];simp,λ_ _=>⟨rfl,rfl⟩⟩,λ_=>⟨[],.inl rfl,by rw[(j c' d').2,tk0];simp,λ_ _=>⟨rfl,rfl⟩⟩⟩⟩
   ·exact(h.NR (X':=X) (b:=a.op i ((a.R i).iL p)) u rfl U rfl (λ_ _=>rfl) (λd _=>(j c' d).1) (λd _=>(j c' d).2)).1 J
   ·exact(h.NR (X':=X) (b:=a.op i ((a.R i).iL p)) u rfl U rfl (λ_ _=>rfl) (λd _=>(j c' d).1) (λd _=>(j c' d).2)).2 J
  ·have pr:=h.sN hc hd hi;have Le:t (a.e c 0)+t (a.e c 1)+1<=255:=by have:=ht (a.e c 0);have:=ht (a.e c 1);omega
   obtain⟨Z,q1,q2,q3⟩:=pr.tick (qL hB hc hd) Le;have q1:=q1.more (wj (a.R i) p);obtain⟨f1,f2⟩:=(T c d).2 D hc hd;rw[e2]at f2;have f2:(a.op i ((a.R i).iL p)).F c d=a.F c d++(iW (jR a c d)).2.flatMap nR++zE (a.R i) p:=by
    rw[f2,oQ,aD];rfl
   rw[Xu,<-oQ]at f1;have E6:a.e c (1-d)≠(i,p):=hu c (1-d) hc dU dU;obtain⟨k1,k2⟩:=(T c (1-d)).1 E6;have ajb:pN t [(i,p)] (a.e c 0)+pN t [(i,p)] (a.e c 1)=t (a.e c 0)+t (a.e c 1)+1:=by
    have c1:([(i,p)] :List (Nat×Nat)).count (a.e c d)=1:=by rw[D];simp
    have c2:([(i,p)] :List (Nat×Nat)).count (a.e c (1-d))=0:=List.count_eq_zero.2 (by simp[E6]);have:d=0 \/d=1:=dU;unfold pN;rcases this with rfl|rfl
    ·rw[c1,show([(i,p)] :List (Nat×Nat)).count (a.e c 1)=0 from c2];omega
    ·rw[c1,show([(i,p)] :List (Nat×Nat)).count (a.e c 0)=0 from c2];omega
   refine⟨EH X c d Z,⟨λc' U J=> ?_,λc' U J=> ?_⟩,λc' d' U V=>⟨λA=> ?_,λH=> ?_⟩⟩
   ·by_cases hcc:c'=c
    ·subst hcc;show Pair _ _ (pN t [(i,p)] (a.e c' 0)+pN t [(i,p)] (a.e c' 1)) (gP (a.e c' 0)) (gP (a.e c' 1)) _ _ _ _;rw[ajb];refine KG (X:=λ_ d'=>EH X c' d Z c' d') (g:=λd'=>gP (a.e c' d')) (L:=λd'=>jR (a.op i ((a.R i).iL p)) c' d') (F:=λd'=>(a.op i ((a.R i).iL p)).F c' d') hd ?_;show Pair (EH X c' d Z c' d) (EH X c' d Z c' (1-d)) _ _ _ _ _ _ _;rw[qM,lQ X Z dU,f1,f2,k1,k2];exact q1
    ·have Q:∀d',d'<2->a.e c' d'≠(i,p):=λd' V=>hu c' d' U V λz=>hcc z.1;exact(h.NR (X':=EH X c d Z) (b:=a.op i ((a.R i).iL p)) u rfl U rfl (λd' _=>lQ X Z λz=>hcc z.1) (λd' V=>((T c' d').1 (Q d' V)).1) (λd' V=>((T c' d').1 (Q d' V)).2)).1 J
   ·have hcc:c'≠c:=λz=>by subst z;have:a.iR c'=false:=J;rw[hi]at this;exact absurd this gO
    have Q:∀d',d'<2->a.e c' d'≠(i,p):=λd' V=>hu c' d' U V λz=>hcc z.1;exact(h.NR (X':=EH X c d Z) (b:=a.op i ((a.R i).iL p)) u rfl U rfl (λd' _=>lQ X Z λz=>hcc z.1) (λd' V=>((T c' d').1 (Q d' V)).1) (λd' V=>((T c' d').1 (Q d' V)).2)).2 J
   ·have YE:¬(c'=c/\d'=d):=λz=>A (by rw[z.1,z.2];exact D);exact⟨by rw[((T c' d').1 A).2];simp,λ_ _=>by rw[lQ X Z YE];exact⟨rfl,rfl⟩⟩
   ·have YE:=hB.ds _ _ _ _ U V hc hd (H.trans D.symm);obtain⟨z1,z2⟩:=YE;subst z1 z2;exact⟨_,q3,by rw[f2,aD],λy hy=>by rw[qM];exact Gv q2 y hy⟩
 ·have Q:∀c d,c<a.nc->d<2->a.e c d≠(i,p):=λc d hc hd e=>hex ⟨c,d,hc,hd,e⟩;refine⟨X,⟨λc hc hi=> ?_,λc hc hi=> ?_⟩,λc d hc hd=>⟨λA=>⟨by rw[((T c d).1 A).2];simp,λ_ _=>⟨rfl,rfl⟩⟩,λH=>absurd H (Q c d hc hd)⟩⟩
  ·exact(h.NR (X':=X) (b:=a.op i ((a.R i).iL p)) u rfl hc rfl (λ_ _=>rfl) (λd hd=>((T c d).1 (Q c d hc hd)).1) (λd hd=>((T c d).1 (Q c d hc hd)).2)).1 hi
  ·exact(h.NR (X':=X) (b:=a.op i ((a.R i).iL p)) u rfl hc rfl (λ_ _=>rfl) (λd hd=>((T c d).1 (Q c d hc hd)).1) (λd hd=>((T c d).1 (Q c d hc hd)).2)).2 hi
theorem uB(r:iE)(i:Nat) {c:UInt8} (s:List UInt8)(hc:c≠76)(p:Nat):((r.take i c s).P p).L=(r.P p).L:=by
 rw[lg,tR i s hc];split
 ·exact(j1 _ _ _ _).2.1
 ·exact(MJ r i c s p).1
theorem sH(r:iE)(i:Nat)(s:List UInt8)(p:Nat):((r.take i 76 s).P p).L=((jS r i 76 s).P p).L/\((r.take i 76 s).P p).out=((jS r i 76 s).P p).out:=by
 rw[lg];split
 ·exact⟨(j1 _ _ _ _).2.1,(j1 _ _ _ _).1⟩
 ·unfold lO;rw[ae dX,ae dX,ae dX,ae dX];exact⟨rfl,rfl⟩
theorem wM {r:iE} {i:Nat} {p:Nat} (h:Ek r i x p l)(hx:qK x)(X Y:Int->Bool):(l=[] \/((r.P p).L.st=9/\∀y∈l,qK y))/\(∀y∈l,wX Y y+1<=wX X x)/\(sm (oj Y) l<=(if p=i then oj X x else 0)):=by
 have Z:∀(c:UInt8) (s:List UInt8),c≠76->Br 1 (c::s)=ν:=λc s h=>wL 1 s h;cases h with
 |none h=>rw[h];exact⟨.inl rfl,λ_ h=>by simp at h,Nat.zero_le _⟩
 |link s h _ _ _=>exact absurd rfl (hx 76 s h)
 |heard s hs U V _ _ _ _ h=>
  have d1:wX X x=2/\oj X x=2:=by rw[hs];unfold wX oj;rw[Z 83 s dX];exact⟨rfl,rfl⟩
  have d2:∀u,wX Y (65::u)=1/\oj Y (65::u)=1:=λu=>by unfold wX oj;rw[Z 65 u dX];exact⟨rfl,rfl⟩
  rw[h];refine⟨.inr ⟨by rw[U];exact V,λy hy=>by rw[ar.1 hy];exact zu 65 _ dX⟩,λy hy=>by rw[ar.1 hy,(d2 _).1,d1.1];exact Nat.le_refl _,?_⟩;rw[ag U,d1.2];show oj Y _+0<=2;rw[(d2 _).2];decide
 |H9 a b s hs V h1 _ h=>
  have d1:wX X x=b.toNat+1:=by rw[hs];unfold wX;rw[Z 77 _ dX];rfl
  have d2:wX Y (77::a::jO ((b.toNat:Int)-1)::s)=b.toNat:=by
   unfold wX;rw[Z 77 _ dX];show(jO ((b.toNat:Int)-1)).toNat+1=_;have:=mV ((b.toNat:Int)-1) dU (by have:=b.toNat_lt;omega);omega
  have T:oj Y (77::a::jO ((b.toNat:Int)-1)::s)=0:=by unfold oj;rw[Z 77 _ dX];rfl
  rw[h];refine⟨.inr ⟨V,λy hy=>by rw[ar.1 hy];exact zu 77 _ dX⟩,λy hy=>by rw[ar.1 hy,d2,d1];exact Nat.le_refl _,?_⟩;show oj Y _+0<=_;rw[T];exact Nat.zero_le _
def wc(X:Marks)(a:AN)(c:Nat):Nat:=sm (oj (X c 0)) (a.F c 0)+sm (oj (X c 1)) (a.F c 1)
theorem rW {α:Type} {f g:α->Nat} {l:List α} (h:∀x∈l,f x=g x):sm f l=sm g l:=by
 refine Nat.le_antisymm (uL λx hx=>Nat.le_of_eq (h x hx)) (uL λx hx=>Nat.le_of_eq (h x hx).symm)
theorem KH.w {X Y:Marks} {b:AN} (h:KH X Y a b c d l em):sm (oj (Y c d)) (b.F c d)=sm (oj (X c d)) l+sm (oj (Y c d)) em:=by
 rw[h.f,pz,rW λy hy=>(h.o y hy).2]
theorem Xv {X:Marks} {t:Nat×Nat->Nat} (h:qy X t a)(hc:c<a.nc)(hd:d<2)(hF:a.F c d=x::l):qy X t (a.kZ c d l):=by
 refine⟨λc' V hi=> ?_,λc' V hi d' Q=> ?_⟩
 ·have p:=h.up c' V hi;have hs:∀d',((a.kZ c d l).F c' d').Sublist (a.F c' d'):=λd'=>by
   rw[rU];split
   ·rename_i e;rw[e.1,e.2,hF];exact bI _ _
   ·exact List.Sublist.refl _
  exact p.sub (hs 0) (hs 1)
 ·obtain⟨J,T,U,Z⟩:=h.dn c' V hi d' Q;refine⟨J,T,U,?_⟩;rw[rU,ae]
  ·exact Z
  ·rintro⟨rfl,rfl⟩;rw[hF]at Z;exact absurd Z gO
theorem Oh {P:Prop} [Decidable P] {k:Nat} (hd:d<2) {s e f:Nat->Nat} (Z:∀d',d'<2->e d'<=if P/\d'=1-d then k else 0)(hs:∀d',d'<2->s d'+(if P/\d'=d then k else 0)<=f d'):s 0+e 0+(s 1+e 1)<=f 0+f 1:=by
 have V:=Z 0 dX;have T:=Z 1 dX;have b0:=hs 0 dX;have b1:=hs 1 dX;have Q:d=0 \/d=1:=dU;by_cases U:P
 ·rcases Q with rfl|rfl<;>simp[U]at V T b0 b1<;>omega
 ·simp[U]at V T b0 b1;omega
structure abn(X Y:Marks)(a b:AN)(c d:Nat)(x:kM)(l:List kM):Prop where
 fl:∀c' d',c'<a.nc->d'<2->∃em,KH X Y a b c' d' (if c'=c/\d'=d then l else a.F c' d') em/\(∀y∈em,wX (Y c' d') y+1<=wX (X c d) x)
 w:∀c',c'<a.nc->wc Y b c'<=wc X a c'
theorem qy.pop {X:Marks} {t:Nat×Nat->Nat} {a:AN} (hB:sX a)(hN:Norm a)(h:qy X t a)(ht:∀x,t x<=127) {c d:Nat} {x:kM} {l:List kM} (hc:c<a.nc)(hd:d<2)(hF:a.F c d=x::l):∃Y,qy Y t (a.pop c d x l)/\abn X Y a (a.pop c d x l) c d x l:=by
 have hi:=h.yh hc hd (x:=x) (by rw[hF];simp);have pr:=(h.sN hc hd hi).symm;have RS:=Xv h hc hd hF;obtain⟨r,hr⟩:=fW (a.R (a.e c (1-d)).1);obtain⟨i,Q⟩:=fW ((a.e c (1-d)).1);obtain⟨p,oE⟩:=fW ((a.e c (1-d)).2);have Q8:a.e c (1-d)=(i,p):=aR Q oE;have D:a.pop c d x l=(a.kZ c d l).op i (jD r p x):=by unfold AN.pop;rw[hr,Q,oE]
 have EV:a.R i=r:=by rw[<-Q];exact hr
 have Vw:IE r:=by rw[<-EV];exact hN.emp i
 obtain⟨Yg,_⟩:=pK Vw p x;have oQ:jR a c (1-d)=(r.P p).L:=by unfold jR;rw[Q8,EV]
 have hif:∀c' d',(a.kZ c d l).F c' d'=if c'=c/\d'=d then l else a.F c' d':=λ_ _=>rfl
 by_cases hx:qK x
 ·
  have hL:∀q,((jD r p x).P q).L=(r.P q).L:=λq=>by
   cases x with
   |nil=>rfl
   |cons k s=>exact uB r p s (hx k s rfl) q
  have hq:=λq=>wM (Yg q) hx (X c d) (λ_=>false);have hl:=RS.quiet i (jD r p x) (λq=>by rw[hL];show(r.P q).L=((a.R i).P q).L;rw[EV]) λq=>by
   rcases(hq q).1 with g|⟨g1,g2⟩
   ·exact .inl g
   ·exact .inr ⟨by rw[hL];exact g1,g2⟩
  have H:∀c' d',c'<a.nc->d'<2->KH X X a (a.pop c d x l) c' d' (if c'=c/\d'=d then l else a.F c' d') (if(a.e c' d').1=i then je ((jD r p x).P (a.e c' d').2)else []):=λc' d' V U=>by
   refine⟨?_,λ_ _=>⟨rfl,rfl⟩⟩;rw[D,uR,yb,Cw,hif];by_cases e:(a.e c' d').1=i
   ·rw[ag ⟨⟨V,U⟩,e⟩,ag e]
   ·rw[ae (λz=>e z.2),ae e,aC]
  refine⟨X,by rw[D];exact hl,λc' d' V U=>⟨_,H c' d' V U,λy hy=> ?_⟩,λc' V=> ?_⟩
  ·split at hy
   ·exact(wM (Yg (a.e c' d').2) hx (X c d) (X c' d')).2.1 y hy
   ·simp at hy
  ·have w0:=(H c' 0 V dX).w;have w1:=(H c' 1 V dX).w;have hE:∀d',d'<2->sm (oj (X c' d')) (if(a.e c' d').1=i then je ((jD r p x).P (a.e c' d').2)else [])<=if c'=c/\d'=1-d then oj (X c d) x else 0:=λd' U=>by
    by_cases e:(a.e c' d').1=i
    ·rw[ag e];have:=(wM (Yg (a.e c' d').2) hx (X c d) (X c' d')).2.2;by_cases e2:(a.e c' d').2=p
     ·rw[ag e2]at this;have:=hB.ds c' d' c (1-d) V U hc dU (by rw[Q8];exact aR e e2);rw[ag this];assumption
     ·rw[ae e2]at this;omega
    ·rw[ae e];exact Nat.zero_le _
   have hI:∀d',d'<2->sm (oj (X c' d')) (if c'=c/\d'=d then l else a.F c' d')+(if c'=c/\d'=d then oj (X c d) x else 0)<=sm (oj (X c' d')) (a.F c' d'):=λd' U=>by
    by_cases e:c'=c/\d'=d
    ·rw[ag e,ag e,e.1,e.2,hF];show _<=oj (X c d) x+sm (oj (X c d)) l;omega
    ·rw[ae e,ae e];exact Nat.le_refl _
   unfold wc;rw[w0,w1];exact Oh hd (s:=λd'=>sm (oj (X c' d')) (if c'=c/\d'=d then l else a.F c' d')) (f:=λd'=>sm (oj (X c' d')) (a.F c' d')) hE hI
 ·
  have UL:(∃id,0<=id/\id<=255/\x=l5 (gP (a.e c d)) id) \/(∃id,0<=id/\id<=255/\x=nK (gP (a.e c (1-d))) id):=by
   rcases pr.g x (by rw[hF];simp)with g|g|g
   ·exact absurd g hx
   ·exact .inl g
   ·exact .inr g
  have gd:=qL hB hc hd;have YQ:=qL hB hc (show 1-d<2 by omega);obtain⟨q,s,Rn,tW,hPL⟩:∃(q:kG) (s:List UInt8),x=76::s/\iM s=(q.1,q.2.1,q.2.2,0)/\∃Z,Xr (X c (1-d)) Z (X c d) (t (a.e c 0)+t (a.e c 1)) (gP (a.e c (1-d))) (gP (a.e c d)) (jA (jR a c (1-d)) q).1 (jR a c d) (a.F c (1-d)) l ((jA (jR a c (1-d)) q).2.1.flatMap nR) x:=by
   rw[hF]at pr;rcases UL with⟨id,i1,i2,A⟩|⟨id,i1,i2,A⟩
   ·rw[A]at pr;obtain⟨Z,hZ⟩:=pr.req YQ gd (YP hB hc hd dU dU) (by have:=ht (a.e c 0);have:=ht (a.e c 1);omega) ⟨i1,i2⟩;exact⟨(1,id,nF (gP (a.e c d))),_,A,zp (.inl rfl) ⟨i1,i2⟩ gd,Z,by rw[A];exact hZ⟩
   ·rw[A]at pr;have hZ:=pr.ack YQ ⟨i1,i2⟩;exact⟨(2,id,nF (gP (a.e c (1-d)))),_,A,zp (.inr rfl) ⟨i1,i2⟩ YQ,X c (1-d),by rw[A];exact hZ⟩
  obtain⟨Z,pp⟩:=hPL;obtain⟨k1,_,k3,_⟩:=zk Vw p 76 s;rw[tW]at k1 k3;have oI:=wi (a:=a.kZ c d l) i p (jD r p x) λu hu=>by
   rw[Rn];show((r.take p 76 s).P u).L=((a.R i).P u).L/\je ((r.take p 76 s).P u)=[]
   rw[(sH r p s u).1,mZ (sH r p s u).2,k1,ae (λz=>hu z.1),(k3 u).2.2,ae (λz=>hu z.1),EV];exact⟨rfl,rfl⟩
  have Xu:((jD r p x).P p).L=(jA (jR a c (1-d)) q).1/\je ((jD r p x).P p)=(jA (jR a c (1-d)) q).2.1.flatMap nR:=by
   rw[Rn,oQ];show((r.take p 76 s).P p).L=_/\je ((r.take p 76 s).P p)=_;rw[(sH r p s p).1,mZ (sH r p s p).2,k1,ag ⟨rfl,rfl,rfl⟩,(k3 p).2.2,ag ⟨rfl,rfl,rfl⟩];exact⟨rfl,rfl⟩
  obtain⟨em,ajc⟩:=fW ((jA (jR a c (1-d)) q).2.1.flatMap nR);obtain⟨L',hL'⟩:∃L',(jA (jR a c (1-d)) q).1=L':=⟨_,rfl⟩
  rw[ajc,hL']at pp Xu;have hu:∀c' d',c'<a.nc->d'<2->¬(c'=c/\d'=1-d)->a.e c' d'≠(i,p):=λc' d' V U jm e=>jm (hB.ds _ _ _ _ V U hc dU (e.trans Q8.symm));have hb:∀c' d',c'<a.nc->d'<2->¬(c'=c/\d'=1-d)->jR (a.pop c d x l) c' d'=jR a c' d'/\(a.pop c d x l).F c' d'=if c'=c/\d'=d then l else a.F c' d':=λc' d' V U jm=>by
   rw[D];exact(oI c' d').1 (hu c' d' V U jm)
  have j7:jR (a.pop c d x l) c (1-d)=L'/\(a.pop c d x l).F c (1-d)=a.F c (1-d)++em:=by
   rw[D];obtain⟨z1,z2⟩:=(oI c (1-d)).2 Q8 hc (by show 1-d<2;omega);rw[z1,z2,Xu.1,Xu.2,hif,ae dU];exact⟨rfl,rfl⟩
  have PF:=hb c d hc hd dU;rw[ag ⟨rfl,rfl⟩]at PF;have rA:(a.pop c d x l).nc=a.nc:=by rw[D];rfl
  have T:(a.pop c d x l).e=a.e:=by rw[D];rfl
  have lL:(a.pop c d x l).iR=a.iR:=by rw[D];rfl
  have H:∀c' d',c'<a.nc->d'<2->KH X (EH X c (1-d) Z) a (a.pop c d x l) c' d' (if c'=c/\d'=d then l else a.F c' d') (if c'=c/\d'=1-d then em else []):=λc' d' V U=>by
   by_cases e:c'=c/\d'=1-d
   ·rw[ag e,ae dU];obtain⟨e1,e2⟩:=e;subst e1 e2;exact⟨j7.2,λy hy=>by rw[qM];exact Gv pp.old y hy⟩
   ·rw[ae e];exact⟨by rw[(hb c' d' V U e).2,aC],λy hy=>by rw[lQ X Z e];exact⟨rfl,rfl⟩⟩
  refine⟨EH X c (1-d) Z,⟨λc' V j=> ?_,λc' V j=> ?_⟩,λc' d' V U=>⟨_,H c' d' V U,λy hy=> ?_⟩,λc' V=> ?_⟩
  ·rw[rA]at V;by_cases hcc:c'=c
   ·subst hcc;rw[T];refine KG (X:=λ_ d'=>EH X c' (1-d) Z c' d') (g:=λd'=>gP (a.e c' d')) (L:=λd'=>jR (a.pop c' d x l) c' d') (F:=λd'=>(a.pop c' d x l).F c' d') (d:=1-d) dU ?_;show Pair (EH X c' (1-d) Z c' (1-d)) (EH X c' (1-d) Z c' (1-(1-d))) _ _ _ _ _ _ _;rw[show 1-(1-d)=d by omega,qM,lQ X Z dU,j7.1,j7.2,PF.1,PF.2];exact pp.p
   ·rw[lL]at j;have J:∀d',¬(c'=c/\d'=1-d):=λ_ z=>hcc z.1;refine(h.NR (X':=EH X c (1-d) Z) (b:=a.pop c d x l) (u:=t) (λ_=>Nat.le_refl _) T V (by rw[lL]) (λd' _=>lQ X Z (J d')) (λd' U=>(hb c' d' V U (J d')).1) (λd' U=> ?_)).1 (by rw[lL];exact j);rw[(hb c' d' V U (J d')).2,ae (λz=>hcc z.1)]
  ·rw[rA]at V;have hcc:c'≠c:=λz=>by subst z;rw[lL,hi]at j;exact absurd j gO
   have J:∀d',¬(c'=c/\d'=1-d):=λ_ z=>hcc z.1;refine(h.NR (X':=EH X c (1-d) Z) (b:=a.pop c d x l) (u:=t) (λ_=>Nat.le_refl _) T V (by rw[lL]) (λd' _=>lQ X Z (J d')) (λd' U=>(hb c' d' V U (J d')).1) (λd' U=> ?_)).2 j;rw[(hb c' d' V U (J d')).2,ae (λz=>hcc z.1)]
  ·split at hy
   ·rename_i e
    rw[e.1,e.2,qM];exact pp.dp y hy
   ·simp at hy
  ·have w0:=(H c' 0 V dX).w;have w1:=(H c' 1 V dX).w;have aob:=pp.wg;unfold wc;rw[w0,w1];refine Oh (P:=c'=c) (k:=oj (X c d) x) hd (s:=λd'=>sm (oj (X c' d')) (if c'=c/\d'=d then l else a.F c' d')) (e:=λd'=>sm (oj (EH X c (1-d) Z c' d')) (if c'=c/\d'=1-d then em else [])) (f:=λd'=>sm (oj (X c' d')) (a.F c' d')) (λd' _=> ?_) λd' _=> ?_
   ·by_cases e:c'=c/\d'=1-d
    ·simp only[if_pos e];rw[e.1,e.2,qM];omega
    ·simp only[if_neg e];exact Nat.le_refl _
   ·by_cases e:c'=c/\d'=d
    ·simp only[if_pos e];rw[e.1,e.2,hF];show _<=oj (X c d) x+sm (oj (X c d)) l;omega
    ·simp only[if_neg e];exact Nat.le_refl _
