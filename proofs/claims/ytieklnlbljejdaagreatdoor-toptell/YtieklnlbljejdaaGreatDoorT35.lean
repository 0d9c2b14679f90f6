import Derived.Test.YtieklnlbljejdaaGreatDoorT34
open Go.Value renaming int → ι, slice → σ, pointer → π, tuple → τ, nilIface → η
open Go.IntKind renaming i64 → κ
open Go.Ending renaming returned → ρ
open Go.Obj renaming cells → γ
open Option renaming none → ν, some → μ
open Go renaming World → dN, Calls → eM
open Go.Proofs.Tryz renaming prog → eN
open Go.IntKind renaming i64 → fC
open Go.RowKit renaming intOf → eP
set_option maxRecDepth 100000
set_option maxHeartbeats 16000000
namespace Go.Proofs.YtieklnlbljejdaaGreatDoor
open Go.RowKit St
namespace Rt
variable {L:List oH} {W:World} {i m:Nat}
structure acU(m:Nat)(L:List oH)(y:iB):Prop where
 met:∀x p,x<m->((y.R x).P p).m=m8 L x p
 own:∀x,x<m->∃q:PS,(y.R x).K ((x:Int)+1)=μ q/\q.2.length=pS (jz (y.R x).P 3) 6/\q.2.length<=6/\∀e∈q.2,e.2=jz (y.R x).P 3 e.1/\1<=e.1/\e.1<=6
 who:∀x p,x<m->p<3->0<=((y.R x).P p).pe.who/\((y.R x).P p).pe.who<=6
theorem Sy(hc:nU (m:Int) L)(V:Nat->AV)(h40:i<=40):acU m L (Es (jx m L) V i):=by
 have X:Wh m L 0 2 0 (jx m L):=by
  have:=Wh.new hc (D:=0);rw[Int.toNat_natCast]at this;exact this
 have Z:=X.Sw V i dP dP dP;refine⟨λx p hx=>Z.Y1 hx p,λx hx=> ?_,λx p hx U=> ?_⟩
 ·obtain⟨q,a,b,c,d,e⟩:=Z.own hx;exact⟨q,a,d,(jk c).2.2.1,e⟩
 ·have Y:x<(Es (jx m L) V i).n:=by rw[Z.n];exact hx
  have T:=Z.s.ok.ok x Y;exact(T.pe p (by rw[(Z.s.ok.rn x Y).1];exact U)).who
structure su(w:dN)(N gC m nc i:Nat)(L:List oH)(V:Nat->AV)(W:dN):Prop where
 c:∃c,oT w N gC m nc i (Es (jx m L) V i) c W/\∀x p,x<m->p<3->c ((x+1)*3+p)=m8 L x p
theorem su.still {w:dN} {N gC m nc i:Nat} {L:List oH} {V:Nat->AV} {W W':dN} (h:su w N gC m nc i L V W)(hb:dV W W'):su w N gC m nc i L V W':=by
 obtain⟨c,Z,Y⟩:=h.c;exact⟨c,Z.still hb,Y⟩
theorem su.nI {w:dN} {N gC m nc i:Nat} {L:List oH} {V:Nat->AV} {W:dN} (h:su w N gC m nc i L V W):dV w W:=by
 obtain⟨c,Z,h2⟩:=h.c;exact Z.at_.1.nI
theorem su.act {w:dN} {N gC m nc i:Nat} {L:List oH} {V:Nat->AV} {W:dN} (h:su w N gC m nc i L V W)(X:iQ w)(hi:i<=300):
 eM eN 59 #[π (μ ⟨N,0,ν⟩),.agg #[.string (V i).kind,ι κ (V i).a,ι κ (V i).b,ι κ (V i).c,ι κ (V i).d,.string (V i).s,ι κ (V i).Lh,ι κ (V i).pid,σ (V i).po (V i).pn (V i).A7,ι κ (V i).x.own,ι κ (V i).x.seq,σ (V i).x.a (V i).x.n (V i).x.cap]] W λe w'=>e=ρ (τ #[])/\su w N gC m nc (i+1) L V w':=by
 obtain⟨c,Z,Y⟩:=h.c;refine(Z.at_.act X hi (V i)).mono ?_;rintro e w' ⟨rfl,hA,U⟩;exact⟨rfl,⟨c,⟨Z.g0,hA,Z.row.keep (U gC rfl)⟩,Y⟩⟩
structure Ans(W:dN)(N gC m:Nat)(x:Nat)(R:Nat)(P:Nat->jb)(q:PS):Prop where
 wA:∀V,dV W V->eM eN 40 #[π (μ ⟨N,0,ν⟩),ι κ ((x:Int)+1)] V λe w'=>e=ρ (τ #[π (μ ⟨R,0,ν⟩),η])/\V=w'
 peer:∀p:Nat,p<3->∀V,dV W V->eM eN 61 #[π (μ ⟨R,0,ν⟩),.int .i64 (p:Int)] V λe w'=>e=ρ (τ #[.agg #[.int .i64 (P p).pe.who,.bool (P p).pe.both,.int .i64 (P p).pe.left],η])/\dV V w'
 states:∀V,dV W V->eM eN 50 #[π (μ ⟨R,0,ν⟩)] V λe w'=>∃a n c,e=ρ (σ a n c)/\(∀V',dV w' V'->eM eN 49 #[σ a n c,ι κ ((x:Int)+1)] V' λe w2=>∃a' c',e=ρ (.agg #[ι κ ((x:Int)+1),ι κ q.1,σ a' q.2.length c'])/\iK w2 a' q.2.length q.2/\dV V' w2)/\dV V w'
 cost:∀p:Nat,p<3->∀V,dV W V->V.cell? ⟨gC,(x+1)*3+p,ν⟩=μ (ι κ (P p).m)
 who:∀p:Nat,p<3->0<=(P p).pe.who/\(P p).pe.who<=6
 len:q.2.length=pS (jz P 3) 6/\q.2.length<=6
 each:∀e∈q.2,e.2=jz P 3 e.1/\1<=e.1/\e.1<=6
theorem Y4 {a:Option Addr} {n c:Nat} {S:Nat->SV} {E:Nat->List jv} {F:Int->Option PS} (T:vm W a n S E)(V:tk F n S E)(h6:n<=6) {k:Int} {q:PS} (H:qS k)(M:F k=μ q):
 eM eN 49 #[σ a n c,ι κ k] W λe w'=>∃a' c',e=ρ (.agg #[ι κ k,ι κ q.1,σ a' q.2.length c'])/\iK w' a' q.2.length q.2/\dV W w':=by
 obtain⟨j,Z,U⟩:=V.all k H (by rw[M];rfl);have hF:=(V.at_ j Z).2;rw[U,M]at hF;have X:q=((S j).seq,E j):=Option.some.inj hF;have J:=(T.opt j Z).1;refine(Vd a n c S E k W T dP j Z U λi hi=> ?_).mono ?_
 ·have:=V.Nb i j hi Z;omega
 ·rintro e w' ⟨rfl,hb⟩;have Q:(S j).n=q.2.length:=by rw[X];exact J.1.symm
  refine⟨(S j).a,(S j).cap,?_,?_,hb⟩
  ·rw[U,<-Q,X]
  ·have Y:=J.below hb;rw[Q]at Y;rw[X]at Y⊢;exact Y
theorem su.vX {w:dN} {N gC nc:Nat} {V:Nat->AV} (h:su w N gC m nc i L V W)(hc:nU (m:Int) L)(hi:i<=40) {x:Nat} (hx:x<m):∃R P q,Ans W N gC m x R P q:=by
 obtain⟨c,Q,G⟩:=h.c;have J:=Sy hc V hi;have hm:=hc.m;obtain⟨⟨⟨⟨z,U,u,ha,Xi⟩,iA⟩,hG,iC,T,hcc⟩,j⟩:=And.intro Q.at_ Q.row;obtain⟨q,q1,q2,q3,q4⟩:=J.own x hx;generalize Es (jx m L) V i=y at*;have H:=Q.lt;refine⟨(z.z x).R,(y.R x).P,q,⟨λV Z=> ?_,λp Y V Z=> ?_,λV Z=> ?_,λp Y V Z=> ?_,λp Y=>J.who x p hx Y,⟨q2,q3⟩,q4⟩⟩
 ·rw[<-u];exact BP z y x V (U.below Z) (by rw[T];exact hx)
 ·have X:=(U.below Z).rt x (by rw[T];exact hx);exact QQ (z.z x) (y.R x) p V X (by rw[(U.rn x (by rw[T];exact hx)).1];exact Y)
 ·refine(Hg (z.z x) (y.R x) V ((U.below Z).rt x (by rw[T];exact hx))).mono ?_;rintro e w' ⟨a,n,c,S,E,rfl,t,A,D,_,hb⟩;exact⟨a,n,c,rfl,λV' M=>Y4 (t.below M) A D (by unfold qS;omega) q1,hb⟩
 ·have X:=j.cell ((x+1)*3+p) dP;rw[Nat.zero_add,G x p hx Y,<-J.met x p hx]at X;exact(Z.cell (p:=⟨gC,(x+1)*3+p,ν⟩) H).trans X
theorem Sz(many:Int)(a:Option Addr)(n cap:Nat)(L:List oH)(a2:Option Addr)(n2 cap2:Nat)(V:Nat->AV)(E:Nat->List jv)(w:dN)(hL:Ae w a L)(hl:L.length=n)(hn:n<=maxLen)(hA:Du w a2 n2 V E)(hT:iQ w):
 eM eN 11 #[ι κ many,σ a n cap,σ a2 n2 cap2] w λe w'=>e=ρ (.bool true)/\dV w w':=by
 have hw:=OM w hT;have Z9:=λW=>Af a n cap W hn;have hla:∀W,dV w W->eM eN 16 #[σ a2 n2 cap2,ι κ 40] W λe w'=>(∃b:Bool,e=ρ (.bool b)/\(b=true->n2<=40))/\dV w w':=by
  intro W hb;refine(CR a2 n2 cap2 V E 40 W (hA.below hb) dP).mono ?_;rintro e w' ⟨⟨b,he,jV⟩,lR⟩;exact⟨⟨b,he,λhx=>by have:=(jV hx).1;omega⟩,gD hb lR⟩
 have iO:∀W,n<=12->dV w W->eM eN 36 #[ι κ many,σ a n cap] W λe w'=>Oe W many L (λ_=>False) e w':=by
  intro W h12 hb;rw[<-hl];exact L6 many a cap L W (hL.below hb) dP (iQ.below (w:=w) hT hb) (λ_=>False) (λb qp=>qp.elim)
 have HA:Hid _:=hA;have HT:Hid (iQ w):=hT;have HL:Hid _:=hl;have HC:Hid (Ae w a L):=hL;clear hL hA hT hl;by_cases h12:n<=12
 case neg=>
  have hd:decide (n<=12)=false:=by simpa using h12
  rw[hd]at Z9
  go_in
  go_wp2_with(fail);refine hw.mono ?_;rintro e w1 ⟨rfl,jV⟩;have CS:Hid _:=jV;clear hw jV hla iO;go_wp2_with(fail);refine(Z9 _).mono ?_;rintro e w2 ⟨rfl,rfl⟩;clear Z9
  go_wp2
  go_ret;exact⟨rfl,CS.out⟩
 case pos=>
  have hd:decide (n<=12)=true:=by simpa using h12
  rw[hd]at Z9
  go_in
  go_wp2_with(fail);refine hw.mono ?_;rintro e w1 ⟨rfl,jV⟩;have acV:=hla w1 jV;clear hw hla jV;go_wp2_with(fail);refine(Z9 _).mono ?_;rintro e w2 ⟨rfl,rfl⟩;clear Z9;go_wp2_with(fail);refine acV.mono ?_;rintro e w2 ⟨⟨b,rfl,acW⟩,lR⟩;have qT:=iO w2 h12 lR;have I5:Hid _:=lR;have ag3:Hid _:=acW;clear acV iO lR acW;cases b
  case false=>
   go_wp2
   go_ret;exact⟨rfl,I5.out⟩
  case true=>
   have h40:n2<=40:=ag3.out rfl;go_wp2_with(fail);refine qT.mono ?_;rintro e w3 hP;clear qT;by_cases h0:mS many L=0
   case neg=>
    obtain⟨rfl,rO⟩:=oa.Y0 hP h0 I5.out;have I7:Hid _:=rO;have he:iP (mS many L)=.iface 128 (ι κ ((mS many L:Nat):Int)):=Qu h0;rw[he];clear hP rO h0 he
    go_wp2
    go_ret;exact⟨rfl,I7.out⟩
   case pos=>
    obtain⟨N,rfl,hG0⟩:=Ms.new hP h0 I5.out;have Ve:=xM h0;have hm:=Ve.m;have hl9:=Ve.l;obtain⟨m,rfl⟩:∃m:Nat,many=(m:Int):=⟨many.toNat,dP⟩
    rw[Int.toNat_natCast]at hG0;have hwm:fC.wrap ((m:Int)+1)=(m:Int)+1:=aM _ ⟨dP,dP⟩;have OX:=Y3 (m+1) dP w3;rw[show((m+1:Nat):Int)=(m:Int)+1 by omega]at OX;have HC0:Hid (oT w N w3.heap.size m L.length 0 (jx m L) (λ_=>0) (w3.alloc (γ (zeros ((m+1)*3)) 120))):=oT.new hG0;have RG:Hid _:=Ve;have HM:Hid ((1<=m/\m<=6)/\n<=9):=⟨dP,by have:=HL.out;omega⟩
    clear hP h0 hG0 Ve hl9;go_wp2_with(fail);obtain⟨gC,hgC⟩:=fP (w3.heap.size);obtain⟨w4,LY⟩:=fP (w3.alloc (γ (zeros ((m+1)*3)) 120));rw[hgC,LY]at HC0;rw[hgC,LY];clear OX hgC LY
    go_loopw [11] (λiv wr=>∃(x:Nat) (c:Nat->Int),x<=m/\iv=ι κ ((x:Int)+1)/\oT w N gC m L.length 0 (jx m L) c wr/\∀k p,k<x->p<3->c ((k+1)*3+p)=1) (λiv _=>m+1-(eP iv).toNat)
    case atStart=>exact⟨0,_,Nat.zero_le _,rfl,HC0.out,λk p h=>absurd h (Nat.not_lt_zero k)⟩
    case round=>
     obtain⟨x,c,hx,rfl,hC,P8⟩:=hrel;obtain⟨V0,rfl⟩:∃V0,V0=wr:=⟨_,rfl⟩
     clear HC0;by_cases kc:x<m
     case pos=>
      have nh:(x:Int)+1<=(m:Int):=dP;have hx0:(0:Int)<=(x:Int)+1:=dP;have Z7:(x:Int)+1<((m+1:Nat):Int):=dP;have Zk:(x:Int)+1<(m:Int)+1:=dP;have hxt:((x:Int)+1).toNat=x+1:=dP;have sy:=hC.lt;have k0:=hC.row.cell ((x+1)*3) dP;have k1:=hC.row.cell ((x+1)*3+1) dP;have k2:=hC.row.cell ((x+1)*3+2) dP;have f0:=hC.row.fz ((x+1)*3) dP;have f1:=hC.row.fz ((x+1)*3+1) dP;have f2:=hC.row.fz ((x+1)*3+2) dP;rw[Nat.zero_add]at k0 k1 k2 f0 f1 f2;have HC1:Hid _:=P8;have HCI:Hid _:=hC;clear hC P8;go_wp2_with(fail);have u:Hid (oT w N gC m L.length 0 (jx m L) (qY (qY (qY c ((x+1)*3) 1) ((x+1)*3+1) 1) ((x+1)*3+2) 1) (((V0.setCell ⟨gC,(x+1)*3,ν⟩ (ι κ 1)).setCell ⟨gC,(x+1)*3+1,ν⟩ (ι κ 1)).setCell ⟨gC,(x+1)*3+2,ν⟩ (ι κ 1))/\∀k p,k<x+1->p<3->qY (qY (qY c ((x+1)*3) 1) ((x+1)*3+1) 1) ((x+1)*3+2) 1 ((k+1)*3+p)=1):=by
       refine⟨((HCI.out.set dP 1).set dP 1).set dP 1,λk p hk hp=> ?_⟩;unfold qY;by_cases e:k=x
       ·subst e;have:p=0 \/p=1 \/p=2:=dP;rcases this with rfl|rfl|rfl<;>simp
       ·rw[ae dP,ae dP,ae dP];exact HC1.out k p dP hp
      go_roundw
      case rel=>exact⟨x+1,_,dP,by go_num,u.out.1,u.out.2⟩
      case measure=>simp[eP];omega
     case neg=>
      have zN:¬(x:Int)+1<=(m:Int):=dP;have HC1:Hid (oT w N gC m L.length 0 (jx m L) c V0/\∀k p,k<m->p<3->c ((k+1)*3+p)=m8 (L.take 0) k p):=⟨hC,λk p hk hp=>by rw[P8 k p dP hp];rfl⟩
      clear hC P8
      go_wp2
      go_loopw [12] (λiv wr=>∃(k:Nat) (c:Nat->Int),k<=n/\iv=ι κ k/\oT w N gC m L.length 0 (jx m L) c wr/\∀x p,x<m->p<3->c ((x+1)*3+p)=m8 (L.take k) x p) (λiv _=>n-(eP iv).toNat)
      case atStart=>exact⟨0,c,Nat.zero_le _,rfl,HC1.out.1,HC1.out.2⟩
      case round=>
       obtain⟨k,c2,hk,rfl,hC,FP⟩:=hrel;obtain⟨V1,rfl⟩:∃V1,V1=wr:=⟨_,rfl⟩
       clear HC1;by_cases Gs:k<n
       case pos=>
        have aeH:(k:Int)<(n:Int):=dP;have FO:(0:Int)<=(k:Int):=dP;have JF:k<L.length:=by rw[HL.out];exact Gs
        obtain⟨S,J,M,y,mt,X6,-,-,vr,hp0,hj1,CL⟩:=Y2 RG.out JF;rw[Int.toNat_natCast]at vr hj1;obtain⟨b,off,xk,sQ⟩:∃b off,a=μ ⟨b,off,ν⟩/\∀W,dV w W->W.cell? ⟨b,off+k*5,ν⟩=μ (ι κ ((S:Int)+1))/\W.cell? ⟨b,off+k*5+1,ν⟩=μ (ι κ (J:Int))/\W.cell? ⟨b,off+k*5+2,ν⟩=μ (ι κ ((M:Int)+1))/\W.cell? ⟨b,off+k*5+3,ν⟩=μ (ι κ (y:Int))/\W.cell? ⟨b,off+k*5+4,ν⟩=μ (ι κ mt):=by
         obtain⟨b,off,xk,_⟩:=HC.out k JF;refine⟨b,off,xk,λW hW=> ?_⟩;obtain⟨b',WA,acY,x0,x1,x2,x3,x4⟩:=(HC.out.below hW) k JF;rw[xk]at acY;obtain⟨rfl,rfl,_⟩:b=b'/\off=WA/\True:=by
          have:=Option.some.inj acY;exact⟨congrArg Addr.block this,congrArg Addr.off this,trivial⟩
         rw[X6]at x0 x1 x2 x3 x4;exact⟨x0,x1,x2,x3,x4⟩
        subst xk;have Ht:Hid _:=sQ;obtain⟨d0,d1,-,-,d4⟩:=Ht.out V1 hC.at_.1.nI;have dl:=af _ _ d0;have k0:=hC.row.cell ((S+1)*3+J) dP;have f0:=hC.row.fz ((S+1)*3+J) dP;rw[Nat.zero_add]at k0 f0;have gl:=hC.lt;have q0:(0:Int)<=(S:Int)+1:=dP;have q1:(S:Int)+1<(m:Int)+1:=dP;have q2:((S:Int)+1).toNat=S+1:=dP;have q3:(0:Int)<=(J:Int):=dP;have q4:(J:Int)<3:=dP;have HCI:Hid _:=hC;have HC2:Hid _:=FP;have HLk:Hid _:=X6;clear hC FP X6 sQ
        go_wp2
        go_region
        obtain⟨V2,Hv⟩:=fP ((V1.setCell ⟨gC,(S+1)*3+J,ν⟩ (ι κ mt)).drew);have A:oT w N gC m L.length 0 (jx m L) (qY c2 ((S+1)*3+J) mt) V2:=by
         rw[<-Hv];exact(HCI.out.set dP mt).still (iI _)
        rw[Hv];clear Hv k0 f0 d0 d1 d4 gl q0 q1 q2 q3 q4 dl;obtain⟨-,-,d2,d3,d4⟩:=Ht.out V2 A.at_.1.nI;have dl:=af _ _ d2;have k0:=A.row.cell ((M+1)*3+y) dP;have f0:=A.row.fz ((M+1)*3+y) dP;rw[Nat.zero_add]at k0 f0;have gl:=A.lt;have q0:(0:Int)<=(M:Int)+1:=dP;have q1:(M:Int)+1<(m:Int)+1:=dP;have q2:((M:Int)+1).toNat=M+1:=dP;have q3:(0:Int)<=(y:Int):=dP;have q4:(y:Int)<3:=dP;have ag7:Hid _:=A;clear A
        go_wp2
        go_region
        have u:Hid (oT w N gC m L.length 0 (jx m L) (qY (qY c2 ((S+1)*3+J) mt) ((M+1)*3+y) mt) (V2.setCell ⟨gC,(M+1)*3+y,ν⟩ (ι κ mt)).drew/\∀x p,x<m->p<3->qY (qY c2 ((S+1)*3+J) mt) ((M+1)*3+y) mt ((x+1)*3+p)=m8 (L.take (k+1)) x p):=by
         refine⟨(ag7.out.set dP mt).still (iI _),λx p hx hp=> ?_⟩;rw[OO RG.out JF x p,HLk.out];unfold qY;simp only;by_cases e1:x=M/\p=y
         ·rw[ag (show(x+1)*3+p=(M+1)*3+y by omega),ag (show(x:Int)+1=(M:Int)+1/\(p:Int)=(y:Int) by omega)]
         ·rw[ae (show¬(x+1)*3+p=(M+1)*3+y by omega),ae (show¬((x:Int)+1=(M:Int)+1/\(p:Int)=(y:Int)) by omega)];by_cases e2:x=S/\p=J
          ·rw[ag (show(x+1)*3+p=(S+1)*3+J by omega),ag (show(x:Int)+1=(S:Int)+1/\(p:Int)=(J:Int) by omega)]
          ·rw[ae (show¬(x+1)*3+p=(S+1)*3+J by omega),ae (show¬((x:Int)+1=(S:Int)+1/\(p:Int)=(J:Int)) by omega)];exact HC2.out x p hx hp
        clear k0 f0 d2 d3 d4 gl q0 q1 q2 q3 q4 dl
        go_wp2
        go_roundw
        case rel=>exact⟨k+1,_,dP,by go_num,u.out.1,u.out.2⟩
        case measure=>simp[eP];omega
       case neg=>
        have Yj:¬(k:Int)<(n:Int):=dP;have hkL:L.take k=L:=aC (by have:=HL.out;omega);rw[hkL]at FP;have HT0:Hid (su w N gC m L.length 0 L V V1):=⟨c2,hC,FP⟩
        clear hC FP hkL
        go_wp2
        go_loopw [13] (λiv wr=>∃i:Nat,i<=n2/\iv=ι κ i/\su w N gC m L.length i L V wr) (λiv _=>n2-(eP iv).toNat)
        case atStart=>exact⟨0,Nat.zero_le _,rfl,HT0.out⟩
        case round=>
         obtain⟨i,hi,rfl,hI⟩:=hrel;obtain⟨V3,rfl⟩:∃V3,V3=wr:=⟨_,rfl⟩
         clear HT0;by_cases oE:i<n2
         case neg=>
          have hgi:¬(i:Int)<(n2:Int):=dP;have HB:Hid (dV w V3):=hI.nI;clear hI
          go_wp2
          go_ret;exact⟨rfl,HB.out⟩
         case pos=>
          have alT:(i:Int)<(n2:Int):=dP;have Jv:(0:Int)<=(i:Int):=dP;have Vf:=hI.act HT.out dP;obtain⟨ba,off,rfl,iJ⟩:∃ba off,a2=μ ⟨ba,off,ν⟩/\(V i).at_ V3 ba (off+i*12):=by
           rcases(HA.out.below hI.nI).row with h|⟨ba,off,h,hh⟩
           ·omega
           ·exact⟨ba,off,h,hh i oE⟩
          have HI:Hid _:=hI;obtain⟨e0,e1,e2,e3,e4,e5,e6,e7,e8,e9,e10,EF⟩:=iJ;have al:=af _ _ e0;obtain⟨v,hv⟩:=fP (V i);rw[hv]at e0 e1 e2 e3 e4 e5 e6 e7 e8 e9 e10 EF Vf;obtain⟨vk,va,vb,vc,vd,vs,Vt,Vu,Vv,SK,zd,⟨xo,xq,xa,xn,xc⟩⟩:=v;simp only at e0 e1 e2 e3 e4 e5 e6 e7 e8 e9 e10 EF Vf;clear hI hv;go_wp2_with(fail);refine Vf.mono ?_;rintro e w5 ⟨rfl,hI5⟩;have HI5:Hid _:=hI5;clear Vf hI5 e0 e1 e2 e3 e4 e5 e6 e7 e8 e9 e10 EF al
          go_wp2
          go_loopw [14] (λiv wr=>∃x:Nat,x<=m/\iv=ι κ ((x:Int)+1)/\dV w5 wr) (λiv _=>m+1-(eP iv).toNat)
          case atStart=>exact⟨0,Nat.zero_le _,rfl,aq _ _⟩
          case round=>
           obtain⟨x,hx,rfl,pj⟩:=hrel;obtain⟨T,rfl⟩:∃T,T=wr:=⟨_,rfl⟩
           have H:Hid _:=pj;clear pj;by_cases Z7:x<m
           case neg=>
            have ZH:¬(x:Int)+1<=(m:Int):=dP;have HI6:Hid (su w N gC m L.length (i+1) L V T):=HI5.out.still H.out
            go_wp2
            go_roundw
            case rel=>exact⟨i+1,dP,by go_num,HI6.out⟩
            case measure=>simp[eP];omega
           case pos=>
            have alV:(x:Int)+1<=(m:Int):=dP;obtain⟨R,P,q,Y5⟩:=HI5.out.vX RG.out dP Z7;have KX:Hid _:=Y5;have hr:=Y5.wA T H.out;clear Y5;go_wp2_with(fail);refine hr.mono ?_;rintro e w6 ⟨rfl,rfl⟩;have hz:=OT T;clear hr;go_wp2_with(fail);obtain⟨U,hgL⟩:=fP (T.heap.size);obtain⟨V7,hV7⟩:=fP (T.alloc (γ (lC λ_=>0) 121));have Z8:Hid (iM V7 U (lC λ(j:Nat)=>jz P 0 (j:Int)) 121/\dV T V7/\T.heap.size=U):=⟨by rw[<-hV7,<-hgL];exact iM.new _ _ _,by rw[<-hV7];exact gM _ _,hgL⟩
            rw[hgL,hV7];clear hgL hV7 hz
            go_loopw [18] (λiv wr=>∃p:Nat,p<=3/\iv=ι κ p/\iM wr U (lC λ(j:Nat)=>jz P p (j:Int)) 121/\dV T wr) (λiv _=>3-(eP iv).toNat)
            case atStart=>exact⟨0,dP,rfl,Z8.out.1,Z8.out.2.1⟩
            case round=>
             obtain⟨p,hp,rfl,hBl,hb8⟩:=hrel;obtain⟨V8,rfl⟩:∃V8,V8=wr:=⟨_,rfl⟩
             have Y6:Hid (iM V8 U (lC λ(j:Nat)=>jz P p (j:Int)) 121):=hBl;have HB8:Hid _:=hb8;clear hBl hb8;by_cases Wk:p<3
             case pos=>
              have alW:(p:Int)<3:=dP;have hp0:(0:Int)<=(p:Int):=dP;have tj:=KX.out.peer p Wk V8 (gD H.out HB8.out);have jX:∀j,jz P (p+1) j=if(P p).pe.both=true/\j=(P p).pe.who/\(jz P p j=0 \/(P p).m<jz P p j)then(P p).m else jz P p j:=λj=>rfl
              obtain⟨Z,ZQ⟩:∃Z:Nat,(P p).pe.who=(Z:Int):=⟨(P p).pe.who.toNat,by have:=(KX.out.who p Wk).1;omega⟩
              have LP:Z<=6:=by have:=(KX.out.who p Wk).2;omega
              have SA:=KX.out.cost p Wk;obtain⟨bo,Gx⟩:=fP ((P p).pe.both);obtain⟨le,hle⟩:=fP ((P p).pe.left);obtain⟨mp,hmp⟩:=fP ((P p).m);rw[ZQ,Gx,hle]at tj;rw[hmp]at SA;simp only[ZQ,Gx,hmp]at jX;obtain⟨g,hg⟩:∃g:Nat->Int,g=λ(j:Nat)=>jz P p (j:Int):=⟨_,rfl⟩
              have HG:Hid _:=hg;have MX:Hid (∀j:Nat,jz P (p+1) (j:Int)=if bo=true/\j=Z/\(g j=0 \/mp<g j)then mp else g j):=λj=>by
               rw[jX,hg];refine ite_congr (propext ⟨λh=>⟨h.1,by have:=h.2.1;omega,h.2.2⟩,λh=>⟨h.1,by have:=h.2.1;omega,h.2.2⟩⟩) (λ_=>rfl) (λ_=>rfl)
              have acZ:Hid _:=SA;clear jX SA ZQ Gx hle hmp hg;go_wp2_with(fail);refine tj.mono ?_;rintro e w9 ⟨rfl,hb9⟩;have KY:=Y6.out.below hb9;rw[<-HG.out]at KY;have ahb:Hid (dV T w9):=gD HB8.out hb9;have ac0:Hid (iM w9 U (lC g) 121):=KY;clear tj hb9 KY;go_wp2_with(fail);obtain⟨Y,hY⟩:=fP (w9.heap.size);obtain⟨SB,Vg⟩:=fP (w9.alloc (γ #[ι κ (Z:Int),.bool bo,ι κ le] 116));have hbY:iM SB Y #[ι κ (Z:Int),.bool bo,ι κ le] 116:=by rw[<-Vg,<-hY];exact iM.new _ _ _
              have Y7:dV w9 SB:=by rw[<-Vg];exact gM _ _
              rw[hY,Vg];have x5:=ac0.out.below Y7;have KZ:Hid (dV T SB):=gD ahb.out Y7;have Mt:Hid (iM SB U (lC g) 121):=x5;have y0:SB.cell? ⟨Y,0,ν⟩=μ (ι κ (Z:Int)):=hbY.cell 0;have y1:SB.cell? ⟨Y,1,ν⟩=μ (.bool bo):=hbY.cell 1;have yl:=hbY.lt;have l0:=(x5.cell Z).trans (wM g Z dP);have lf:=x5.frozen Z;have ll:=x5.lt;have c0:=acZ.out SB (gD H.out KZ.out);have cl:=af _ _ c0;have n0:(0:Int)<=(Z:Int):=dP;have n7:(Z:Int)<7:=dP;have x0:(0:Int)<=(x:Int)+1:=dP;have x1:(x:Int)+1<(m:Int)+1:=dP;have xt:((x:Int)+1).toNat=x+1:=dP;obtain⟨lw,hlw⟩:=fP (g Z);rw[hlw]at l0;have HLw:Hid _:=hlw;have Vh:Hid ((λ(j:Nat)=>jz P (p+1) (j:Int))=λj=>if bo=true/\j=Z/\(g j=0 \/mp<g j)then mp else g j):=funext λj=>MX.out j;clear hY Vg hbY Y7 x5 hlw;cases bo
              case false=>
               have SC:Hid (lC g=lC λ(j:Nat)=>jz P (p+1) (j:Int)):=by show _=_;rw[Vh.out];congr 1
               go_quiet(fail)
               go_wp2
               go_roundw
               case rel=>exact⟨p+1,dP,by go_num,(SC.out▸Mt.out).below (below_drewN (aq _ _) _),below_drewN KZ.out _⟩
               case measure=>simp[eP];omega
              case true=>
               cases nH:(lw==0)
               case true=>
                have HUp:Hid (qY g Z mp=λ(j:Nat)=>jz P (p+1) (j:Int)):=by
                 show _=_;rw[Vh.out]
                 funext j
                 unfold qY;have:=HLw.out;simp at nH;by_cases e:j=Z
                 ·subst e;rw[ag rfl,ag ⟨rfl,rfl,.inl dP⟩]
                 ·rw[ae e,ae (λh=>e h.2.1)]
                go_quiet(fail)
                obtain⟨Q,K3⟩:=fP (SB.drewN nq);have SD:dV SB Q:=by rw[<-K3];exact below_drewN (aq _ _) _
                rw[K3];have uO:=Mt.out.below SD;have z0:Q.cell? ⟨Y,0,ν⟩=μ (ι κ (Z:Int)):=(SD.cell (p:=⟨Y,0,ν⟩) yl).trans y0;have z1:Q.cell? ⟨gC,(x+1)*3+p,ν⟩=μ (ι κ mp):=(SD.cell (p:=⟨gC,(x+1)*3+p,ν⟩) cl).trans c0;have z2:=(uO.cell Z).trans (wM g Z dP);have z3:=uO.frozen Z;have z4:=uO.lt;have z5:=af _ _ z0;have z6:=af _ _ z1;have Y8:Hid (dV T Q):=gD KZ.out SD;have SE:Hid (iM Q U (lC g) 121):=uO;clear K3 SD y0 y1 yl l0 lf ll c0 cl uO
                go_wp2
                go_region
                have u:Hid (iM (Q.setCell ⟨U,Z,ν⟩ (ι κ mp)).drew U (lC λ(j:Nat)=>jz P (p+1) (j:Int)) 121/\dV T (Q.setCell ⟨U,Z,ν⟩ (ι κ mp)).drew):=by
                 refine⟨?_,iZ (Y8.out.setCell (p:=⟨U,Z,ν⟩) (by show _<=U;rw[Z8.out.2.2];exact Nat.le_refl _) _)⟩;have h1:=(SE.out.set Z (ι κ mp)).drew;rw[Sx,HUp.out]at h1;exact h1
                clear z0 z1 z2 z3 z4 z5 z6
                go_wp2
                go_roundw
                case rel=>exact⟨p+1,dP,by go_num,u.out.1,u.out.2⟩
                case measure=>simp[eP];omega
               case false=>
                by_cases N7:mp<lw
                case pos=>
                 have Ly:decide (mp<lw)=true:=dG N7;have HUp:Hid (qY g Z mp=λ(j:Nat)=>jz P (p+1) (j:Int)):=by
                  show _=_;rw[Vh.out]
                  funext j
                  unfold qY;have:=HLw.out;by_cases e:j=Z
                  ·subst e;rw[ag rfl,ag ⟨rfl,rfl,.inr dP⟩]
                  ·rw[ae e,ae (λh=>e h.2.1)]
                 go_quiet(fail)
                 obtain⟨Q,K3⟩:=fP (SB.drewN nq);have SD:dV SB Q:=by rw[<-K3];exact below_drewN (aq _ _) _
                 rw[K3];have uO:=Mt.out.below SD;have z0:Q.cell? ⟨Y,0,ν⟩=μ (ι κ (Z:Int)):=(SD.cell (p:=⟨Y,0,ν⟩) yl).trans y0;have z1:Q.cell? ⟨gC,(x+1)*3+p,ν⟩=μ (ι κ mp):=(SD.cell (p:=⟨gC,(x+1)*3+p,ν⟩) cl).trans c0;have z2:=(uO.cell Z).trans (wM g Z dP);have z3:=uO.frozen Z;have z4:=uO.lt;have z5:=af _ _ z0;have z6:=af _ _ z1;have Y8:Hid (dV T Q):=gD KZ.out SD;have SE:Hid (iM Q U (lC g) 121):=uO;clear K3 SD y0 y1 yl l0 lf ll c0 cl uO
                 go_wp2
                 go_region
                 have u:Hid (iM (Q.setCell ⟨U,Z,ν⟩ (ι κ mp)).drew U (lC λ(j:Nat)=>jz P (p+1) (j:Int)) 121/\dV T (Q.setCell ⟨U,Z,ν⟩ (ι κ mp)).drew):=by
                  refine⟨?_,iZ (Y8.out.setCell (p:=⟨U,Z,ν⟩) (by show _<=U;rw[Z8.out.2.2];exact Nat.le_refl _) _)⟩;have h1:=(SE.out.set Z (ι κ mp)).drew;rw[Sx,HUp.out]at h1;exact h1
                 clear z0 z1 z2 z3 z4 z5 z6
                 go_wp2
                 go_roundw
                 case rel=>exact⟨p+1,dP,by go_num,u.out.1,u.out.2⟩
                 case measure=>simp[eP];omega
                case neg=>
                 have Ly:decide (mp<lw)=false:=cT N7;have SC:Hid (lC g=lC λ(j:Nat)=>jz P (p+1) (j:Int)):=by
                  show _=_;rw[Vh.out];congr 1
                  funext j
                  have:=HLw.out;simp at nH;rw[ae];rintro⟨_,rfl,h|h⟩<;>omega
                 go_quiet(fail)
                 go_wp2
                 go_roundw
                 case rel=>exact⟨p+1,dP,by go_num,(SC.out▸Mt.out).below (below_drewN (aq _ _) _),below_drewN KZ.out _⟩
                 case measure=>simp[eP];omega
             case neg=>
              have hpg:¬(p:Int)<3:=dP;obtain rfl:p=3:=dP;have hss:=KX.out.states V8 (gD H.out HB8.out);go_wp2_with(fail);refine hss.mono ?_;rintro e w9 ⟨a9,n9,c9,rfl,ho9,b9⟩;have ho:=ho9 w9 (aq _ _);have HB9:Hid _:=b9;clear hss ho9 b9;go_wp2_with(fail);refine ho.mono ?_;rintro e w10 ⟨Y9,OY,rfl,SF,b10⟩;have ahf:Hid (iK w10 Y9 q.2.length q.2):=SF;have KZ:Hid (dV V8 w10):=gD HB9.out b10;clear ho SF b10;go_wp2_with(fail);obtain⟨X,hX⟩:=fP (w10.heap.size);obtain⟨D,Vi⟩:=fP (w10.alloc (γ #[ι κ ((x:Int)+1),ι κ q.1,σ Y9 q.2.length OY] 40));have hbX:iM D X #[ι κ ((x:Int)+1),ι κ q.1,σ Y9 q.2.length OY] 40:=by rw[<-Vi,<-hX];exact iM.new _ _ _
              have Za:dV w10 D:=by rw[<-Vi];exact gM _ _
              rw[hX,Vi];have HX:Hid (D.cell? ⟨X,2,ν⟩=μ (σ Y9 q.2.length OY)):=hbX.cell 2;have ahg:Hid (iK D Y9 q.2.length q.2):=ahf.out.below Za;have Zb:Hid (dV V8 D):=gD KZ.out Za;have hmn:∀k,pS (jz P 3) k<=k:=λk=>by
               induction k with
               |zero=>exact Nat.le_refl _
               |succ k ih=>
                show pS (jz P 3) k+_<=_;split<;>omega
              have HMn:Hid _:=hmn;have Ff:Hid (q.2.length=pS (jz P 3) 6/\q.2.length<=6):=KX.out.len;have ac2:Hid (∀e∈q.2,e.2=jz P 3 e.1/\1<=e.1/\e.1<=6):=KX.out.each;clear hX Vi hbX Za hmn
              go_loopw [22,23] (λmv iv wr=>∃k:Nat,k<=6/\mv=ι κ (pS (jz P 3) k:Nat)/\iv=ι κ ((k:Int)+1)/\dV D wr) (λ_ iv _=>7-(eP iv).toNat)
              case atStart=>exact⟨0,dP,rfl,rfl,aq _ _⟩
              case round=>
               obtain⟨k,hk,rfl,rfl,Ua⟩:=hrel;obtain⟨V9,rfl⟩:∃V9,V9=wr:=⟨_,rfl⟩
               have Zc:Hid _:=Ua;clear Ua;by_cases hk6:k<6
               case pos=>
                have aaB:(k:Int)+1<=6:=dP;have KY:=Y6.out.below (gD Zb.out Zc.out);have l0:=(KY.cell (k+1)).trans (wM _ (k+1) dP);rw[show((k+1:Nat):Int)=(k:Int)+1 by omega]at l0;have ll:=KY.lt;have k0:(0:Int)<=(k:Int)+1:=dP;have k7:(k:Int)+1<7:=dP;have kt:((k:Int)+1).toNat=k+1:=dP;have jX:pS (jz P 3) (k+1)=pS (jz P 3) k+(if 0<jz P 3 ((k:Int)+1)then 1 else 0):=rfl;have OX:=HMn.out k;obtain⟨lv,hlv⟩:=fP (jz P 3 ((k:Int)+1));obtain⟨mk,Zd⟩:=fP (pS (jz P 3) k);rw[hlv]at l0 jX;rw[Zd]at jX OX;rw[Zd];have MX:Hid _:=jX;have alZ:fC.wrap ((mk:Int)+1)=(mk:Int)+1:=aM _ ⟨dP,dP⟩;clear jX hlv Zd KY;by_cases Tw:0<lv
                case pos=>
                 have HNx:Hid ((mk:Int)+1=((pS (jz P 3) (k+1):Nat):Int)):=by show _=_;rw[MX.out,ag Tw];omega
                 go_wp2
                 go_roundw
                 case rel=>exact⟨k+1,dP,by rw[HNx.out],by go_num,Zc.out⟩
                 case measure=>simp[eP];omega
                case neg=>
                 have HNx:Hid ((mk:Int)=((pS (jz P 3) (k+1):Nat):Int)):=by show _=_;rw[MX.out,ae Tw];omega
                 go_wp2
                 go_roundw
                 case rel=>exact⟨k+1,dP,by rw[HNx.out],by go_num,Zc.out⟩
                 case measure=>simp[eP];omega
               case neg=>
                have hkg:¬(k:Int)+1<=6:=dP;obtain rfl:k=6:=dP;rw[<-Ff.out.1];have hX9:=(Zc.out.cell (p:=⟨X,2,ν⟩) (af _ _ HX.out)).trans HX.out;have xl:=af _ _ hX9;have HO9:Hid (iK V9 Y9 q.2.length q.2):=ahg.out.below Zc.out
                go_wp2
                go_loopw [24] (λiv wr=>∃e:Nat,e<=q.2.length/\iv=ι κ e/\dV V9 wr) (λiv _=>q.2.length-(eP iv).toNat)
                case atStart=>exact⟨0,Nat.zero_le _,rfl,aq _ _⟩
                case round=>
                 obtain⟨e,he,rfl,Vw⟩:=hrel;obtain⟨G,rfl⟩:∃G,G=wr:=⟨_,rfl⟩
                 have HBe:Hid _:=Vw;have ac4:=(Vw.cell (p:=⟨X,2,ν⟩) xl).trans hX9;have xl2:=af _ _ ac4;clear Vw;by_cases heq:e<q.2.length
                 case neg=>
                  have heg:¬(e:Int)<(q.2.length:Int):=dP;have HBz:Hid (dV w5 G):=gD H.out (gD HB8.out (gD Zb.out (gD Zc.out HBe.out)))
                  go_wp2
                  go_roundw
                  case rel=>exact⟨x+1,dP,by go_num,HBz.out⟩
                  case measure=>simp[eP];omega
                 case pos=>
                  have ahk:(e:Int)<(q.2.length:Int):=dP;have O8:(0:Int)<=(e:Int):=dP;have hwe:fC.wrap ((e:Int)+1)=(e:Int)+1:=aM _ ⟨dP,by have:=Ff.out.2;omega⟩;obtain⟨e1,e2,e3⟩:=ac2.out q.2[e] (aD heq);have SF:=HO9.out.below HBe.out;obtain⟨ob,oo,rfl,o0,o1⟩:∃b off,Y9=μ ⟨b,off,ν⟩/\G.cell? ⟨b,off+e*2,ν⟩=μ (ι κ q.2[e].1)/\G.cell? ⟨b,off+e*2+1,ν⟩=μ (ι κ q.2[e].2):=by
                   rcases SF.2 with h|⟨b,off,h1,h2⟩
                   ·omega
                   ·exact⟨b,off,h1,(h2 e heq).1,(h2 e heq).2⟩
                  have ol:=af _ _ o0;rw[e1]at o1;obtain⟨t,ht⟩:∃t:Nat,q.2[e].1=(t:Int):=⟨q.2[e].1.toNat,dP⟩
                  rw[ht]at o0 o1 e2 e3;have x5:=Y6.out.below (gD Zb.out (gD Zc.out HBe.out));have l0:=(x5.cell t).trans (wM _ t dP);have ll:=x5.lt;have t0:(0:Int)<=(t:Int):=dP;have t7:(t:Int)<7:=dP;have HBz:Hid (dV V9 G):=HBe.out;obtain⟨lv,hlv⟩:=fP (jz P 3 (t:Int));rw[hlv]at l0 o1;generalize q.2.length=ql at ahk ac4⊢;clear hlv ht e1 x5 SF hX9 xl
                  go_wp2
                  go_quiet(fail)
                  go_wp2
                  go_roundw
                  case rel=>exact⟨e+1,dP,by go_num,below_drewN HBz.out _⟩
                  case measure=>simp[eP];omega
