import Derived.Test.YtieklnlbljejdaaGreatDoorT14
open Go.Value renaming int → ι, slice → σ, pointer → π, tuple → τ, nilIface → η
open Go.IntKind renaming i64 → κ
open Go.Ending renaming returned → ρ
open Go.Obj renaming cells → γ
open Option renaming none → ν, some → μ
open Go renaming Calls → eM, World → dN
open Go.Proofs.Tryz renaming prog → eN
open Go.Value renaming ownBlock → dQ
set_option maxRecDepth 100000
set_option maxHeartbeats 4000000
namespace Go.Proofs.YtieklnlbljejdaaGreatDoor
open Go.RowKit St
namespace Rt
variable {n:Nat}
theorem BO(r:iy):r.change.n=r.n:=by
 unfold iy.change iy.behind;split
 ·rfl
 ·split<;>rfl
theorem yF(r:iy)(s:Int):(r.behind s).id=r.id:=by
 unfold iy.behind;split<;>rfl
theorem Q5(r:iy)(s:Int):(r.behind s).n=r.n:=by
 unfold iy.behind;split<;>rfl
theorem DR(r:iy):r.change.id=r.id:=by
 unfold iy.change;split
 ·rfl
 ·exact yF r _
theorem yG(r:iy)(i:Nat)(q:kL):(r.meet i q).n=r.n:=by
 unfold iy.meet;simp only;split
 ·rfl
 ·split
  ·exact BO _
  ·exact BO _
theorem Au(r:iy)(i:Nat)(q:kL):(r.meet i q).id=r.id:=by
 unfold iy.meet;simp only;split
 ·rfl
 ·split
  ·exact DR _
  ·exact DR _
section
variable {w W:World} {z:Zt} {r:iy} {n N:Nat} {C:Array Value} {t:TypeId}
theorem Q6(h:ny w W z r n N C t)(i:Nat)(hi:i<r.n):
 eM eN 124 #[π (μ ⟨z.Bb,0,ν⟩),ι κ (i:Int)] W λe w'=>e=ρ (τ #[])/\ny w w' z {r with O:=λx=>if x=i then λ_=>ν else r.O x} n N C t:=by
 have Y:=h.nn;subst Y;refine h.call rfl λX Z hl=> ?_;rw[<-hl.Bb];exact QX X r i W Z hi
theorem Kf(h:ny w W z r n N C t)(X:kE r):
 eM eN 125 #[π (μ ⟨z.R,0,ν⟩)] W λe w'=>e=ρ (τ #[])/\ny w w' z r.change n N C t:=by
 have Y:=h.nn;subst Y;refine h.call (BO r) λV Z hl=> ?_;rw[<-hl.R];exact Ka V r W Z X
theorem Q7(h:ny w W z r n N C t)(i:Nat)(hi:i<n):
 eM eN 126 #[π (μ ⟨z.Bb,0,ν⟩),ι κ (i:Int)] W λe w'=>e=ρ η/\ig w w' z {r with O:=λx=>if x=i then oX (r.O i) r.K else r.O x} n:=by
 have Y:=h.nn;subst Y;refine h.went.call λX Z hl=> ?_;rw[<-hl.Bb];exact NB X r i W Z hi
end
theorem um(z:Zt)(r:iy)(i:Nat)(q:kL)(w:dN)(h:k8 w z r)(iC:kE r)(hi:i<r.n)(hq:nr r.id q):
 eM eN 74 #[π (μ ⟨z.R,0,ν⟩),.int .i64 (i:Int),.agg #[.int .i64 q.who,.bool q.both,.int .i64 q.left]] w λe w'=>e=ρ (τ #[])/\ig w w' z (r.meet i q) r.n:=by
 have kV:(i:Int)<(r.n:Int):=dP;have Jv:(0:Int)<=(i:Int):=dP;have hzp:=xf;obtain⟨p,hp⟩:=fP (r.P i);have ba:=gM w (γ #[.int .i64 q.who,.bool q.both,.int .i64 q.left] 116);have bb:=gD ba (gM (w.alloc (γ #[.int .i64 q.who,.bool q.both,.int .i64 q.left] 116)) (γ #[.int .i64 p.pe.who,.bool p.pe.both,.int .i64 p.pe.left] 116));have M:=h.below ba;have c1:=M.c1;have cl:=M.lt;have g1:=(M.pt i hi).ZB;have g2:=(M.pt i hi).T9;have g3:=(M.pt i hi).ZC;have gl:=M.DK;rw[hp]at g1 g2 g3;have j:=h.below bb;have T:iM ((w.alloc (γ #[.int .i64 q.who,.bool q.both,.int .i64 q.left] 116)).alloc (γ #[.int .i64 p.pe.who,.bool p.pe.both,.int .i64 p.pe.left] 116)) w.heap.size #[.int .i64 q.who,.bool q.both,.int .i64 q.left] 116:=(iM.new w _ _).below (gM _ _);have V:iM ((w.alloc (γ #[.int .i64 q.who,.bool q.both,.int .i64 q.left] 116)).alloc (γ #[.int .i64 p.pe.who,.bool p.pe.both,.int .i64 p.pe.left] 116)) (w.heap.size+1) #[.int .i64 p.pe.who,.bool p.pe.both,.int .i64 p.pe.left] 116:=iM.F8 _ _ _ _ gN;have HR:Hid _:=h;have Q8:Hid _:=iC;have HP:Hid _:=hp;clear iC M hp
 go_in
 go_wp2_with(fail);obtain⟨Z,jO⟩:=fP ((w.alloc (γ #[.int .i64 q.who,.bool q.both,.int .i64 q.left] 116)).alloc (γ #[.int .i64 p.pe.who,.bool p.pe.both,.int .i64 p.pe.left] 116));rw[jO]at bb j T V;rw[jO];have J:¬z.mine r.n w.heap.size:=h.rY (Nat.le_refl _);have hgN:z.g<w.heap.size:=h.DK;obtain⟨N,hN⟩:=fP (w.heap.size);rw[hN]at T V J hgN;rw[hN];have Rd:=j.below (iI Z);have hPe:=(Rd.pt i hi).peer q;have H:=Rd.port hi hPe;have hBs:ny Z (((Z.drew.setCell ⟨z.g,i*71+67,ν⟩ (.int .i64 q.who)).setCell ⟨z.g,i*71+68,ν⟩ (.bool q.both)).setCell ⟨z.g,i*71+69,ν⟩ (.int .i64 q.left)) z (r.iE i {p with pe:=q}) r.n N #[.int .i64 q.who,.bool q.both,.int .i64 q.left] 116:=by
  rw[HP.out]at H;exact⟨ig.first j rfl (iI Z) (λ_=>H),((T.drew.other dP _).other dP _).other dP _,rfl,T.lt,J⟩
 have abh:iM (((Z.drew.setCell ⟨z.g,i*71+67,ν⟩ (.int .i64 q.who)).setCell ⟨z.g,i*71+68,ν⟩ (.bool q.both)).setCell ⟨z.g,i*71+69,ν⟩ (.int .i64 q.left)) (N+1) #[.int .i64 p.pe.who,.bool p.pe.both,.int .i64 p.pe.left] 116:=((V.drew.other dP _).other dP _).other dP _;have e1:=Rd.c1;have eg:=Rd.DK;have el:=Rd.lt;have y0:Z.drew.cell? ⟨N,0,ν⟩=μ (ι κ q.who):=T.cell 0;have y1:Z.drew.cell? ⟨N,1,ν⟩=μ (.bool q.both):=T.cell 1;have y2:Z.drew.cell? ⟨N,2,ν⟩=μ (.int .i64 q.left):=T.cell 2;have x7:=(Rd.pt i hi).ZB;have x8:=(Rd.pt i hi).T9;have x9:=(Rd.pt i hi).ZC;have f7:=(Rd.pt i hi).fz 67 dS;have f8:=(Rd.pt i hi).fz 68 dS;have f9:=(Rd.pt i hi).fz 69 dS;rw[HP.out]at x7 x8 x9;have hS:((Z.setCell ⟨z.g,i*71+67,ν⟩ (.int .i64 q.who)).drew.cell? ⟨z.g,i*71+67+1,ν⟩=μ (.bool p.pe.both)/\(Z.setCell ⟨z.g,i*71+67,ν⟩ (.int .i64 q.who)).drew.frozen? ⟨z.g,i*71+67+1,ν⟩=false)/\(((Z.setCell ⟨z.g,i*71+67,ν⟩ (.int .i64 q.who)).setCell ⟨z.g,i*71+67+1,ν⟩ (.bool q.both)).drew.cell? ⟨z.g,i*71+67+2,ν⟩=μ (.int .i64 p.pe.left)/\((Z.setCell ⟨z.g,i*71+67,ν⟩ (.int .i64 q.who)).setCell ⟨z.g,i*71+67+1,ν⟩ (.bool q.both)).drew.frozen? ⟨z.g,i*71+67+2,ν⟩=false):=by
  obtain⟨F,hC,_⟩:=(Rd.pt i hi).uV;rw[HP.out]at hC;have h1:=hC.set 67 dS (ι κ q.who);have h2:=h1.set 68 dS (.bool q.both);exact⟨⟨h1.cell 68 dS,h1.fz 68 dS⟩,h2.cell 69 dS,h2.fz 69 dS⟩
 obtain⟨⟨s1,s2⟩,s3,s4⟩:=hS;clear x8 x9 f8 f9;have Un:Hid _:=bb;have HR2:Hid _:=j;have E:Hid _:=hBs;have HQ:Hid _:=hq;clear h hq jO Rd hPe H hBs bb j T V ba c1 cl g1 g2 g3 gl
 go_region
 obtain⟨S,mW⟩:=fP ((((Z.setCell ⟨z.g,i*71+67,ν⟩ (.int .i64 q.who)).setCell ⟨z.g,i*71+67+1,ν⟩ (.bool q.both)).setCell ⟨z.g,i*71+67+2,ν⟩ (.int .i64 q.left)).drew);rw[mW];have Q:ny Z S z (r.iE i {p with pe:=q}) r.n N #[.int .i64 q.who,.bool q.both,.int .i64 q.left] 116:=by rw[<-mW];exact E.out
 have V:iM S (N+1) #[.int .i64 p.pe.who,.bool p.pe.both,.int .i64 p.pe.left] 116:=by rw[<-mW];exact abh
 have y0:S.cell? ⟨N,0,ν⟩=μ (ι κ q.who):=Q.m9.cell 0;have y1:S.cell? ⟨N,1,ν⟩=μ (.bool q.both):=Q.m9.cell 1;have u0:S.cell? ⟨N+1,0,ν⟩=μ (ι κ p.pe.who):=V.cell 0;have u1:S.cell? ⟨N+1,1,ν⟩=μ (.bool p.pe.both):=V.cell 1;have nl:=Q.m9.lt;have nl6:=V.lt;have d2:=Q.went.c2;have dl:=Q.went.lt;have u:Hid _:=Q;have X:Hid (r.meet i q=if q.who=p.pe.who/\q.both=p.pe.both then r.iE i {p with pe:=q}else if q.both=true then {(({r.iE i {p with pe:=q}with O:=λx=>if x=i then λ_=>ν else r.O x}:iy).change)with O:=λx=>if x=i then oX ((({r.iE i {p with pe:=q}with O:=λx=>if x=i then λ_=>ν else r.O x}:iy).change).O i) (({r.iE i {p with pe:=q}with O:=λx=>if x=i then λ_=>ν else r.O x}:iy).change).K else(({r.iE i {p with pe:=q}with O:=λx=>if x=i then λ_=>ν else r.O x}:iy).change).O x}else({r.iE i {p with pe:=q}with O:=λx=>if x=i then λ_=>ν else r.O x}:iy).change):=by
  show _=_;unfold iy.meet;rw[HP.out];rfl
 obtain⟨r1,kD⟩:=fP (r.iE i {p with pe:=q});have kC:kE r1:=by rw[<-kD];exact Q8.out.iE i _ (by rw[HP.out]) (λ_=>HQ.out)
 have lT:r1.n=r.n:=by rw[<-kD];rfl
 have ZI:r1.O=r.O:=by rw[<-kD];rfl
 rw[kD]at u X;rw[<-ZI]at X;have G:Hid (∀W rr,ig Z W z rr r.n->ig w W z rr r.n):=λW rr hw=>ig.first HR.out rfl Un.out (λ_=>hw);have z8:Hid _:=kC;have A:Hid _:=lT;clear mW Q V abh kD kC lT ZI E HP HQ Q8 s1 s2 s3 s4 x7 f7 e1 eg el HR2 Un HR hgN J hzp;by_cases hs:q.who=p.pe.who/\q.both=p.pe.both
 ·have q1:(q.who==p.pe.who)=true:=by simp[hs.1]
  have q2:(q.both==p.pe.both)=true:=by simp[hs.2]
  have D:Hid (ig w S z (r.meet i q) r.n):=by
   show ig _ _ _ _ _;rw[X.out,ag hs];exact G.out _ _ u.out.went
  clear hs X G u
  go_wp2
  first|go_end0|refine iq rfl rfl ?_
  exact⟨rfl,D.out⟩
 ·obtain⟨Y,sv⟩:∃Y:iy,({r1 with O:=λx=>if x=i then λ_=>ν else r1.O x}:iy)=Y:=⟨_,rfl⟩
  have VR:eM eN 124 #[π (μ ⟨z.Bb,0,ν⟩),.int .i64 (i:Int)] S λe w'=>e=ρ (τ #[])/\ny Z w' z Y r.n N #[.int .i64 q.who,.bool q.both,.int .i64 q.left] 116:=by
   refine(Q6 u.out i (by rw[A.out];exact hi)).mono ?_;rintro e w3 ⟨rfl,hw⟩;exact⟨rfl,by rw[<-sv];exact hw⟩
  have hch:Hid (∀W,ny Z W z Y r.n N #[.int .i64 q.who,.bool q.both,.int .i64 q.left] 116->eM eN 125 #[π (μ ⟨z.R,0,ν⟩)] W λe w'=>e=ρ (τ #[])/\ny Z w' z Y.change r.n N #[.int .i64 q.who,.bool q.both,.int .i64 q.left] 116):=by
   intro W H;have XH:kE Y:=by rw[<-sv];exact z8.out.wq _
   exact Kf H XH
  have E6:Hid (∀W,ny Z W z Y.change r.n N #[.int .i64 q.who,.bool q.both,.int .i64 q.left] 116->eM eN 126 #[π (μ ⟨z.Bb,0,ν⟩),.int .i64 (i:Int)] W λe w'=>e=ρ η/\ig Z w' z {Y.change with O:=λx=>if x=i then oX (Y.change.O i) Y.change.K else Y.change.O x} r.n):=by
   intro W H;exact Q7 H i hi
  rw[ae hs,sv]at X;have y:Hid ((q.who==p.pe.who)=false \/(q.who==p.pe.who)=true/\(q.both==p.pe.both)=false):=by
   show _ \/_;cases h1:(q.who==p.pe.who)
   ·exact .inl rfl
   ·refine .inr ⟨rfl,?_⟩;cases h2:(q.both==p.pe.both)
    ·rfl
    ·exact absurd ⟨by simpa using h1,by simpa using h2⟩ hs
  clear hs sv z8 A;rcases y.out with q1|⟨q1,q2⟩
  all_goals
   clear y;go_wp2_with(fail);refine VR.mono ?_;rintro e W3 ⟨rfl,O2⟩;have hc3:=hch.out _ O2;clear VR hch O2 u y0 y1 u0 u1 nl nl6 d2 dl;go_wp2_with(fail);refine hc3.mono ?_;rintro e W4 ⟨rfl,U⟩;have y1:W4.cell? ⟨N,1,ν⟩=μ (.bool q.both):=U.m9.cell 1;have nl:=U.m9.lt;have d2:=U.went.c2;have dl:=U.went.lt;clear hc3;cases hb:q.both with
   |false=>
    rw[hb]at y1;have D:Hid (ig w W4 z (r.meet i q) r.n):=by
     show ig _ _ _ _ _;rw[X.out,hb,ae gN];exact G.out _ _ U.went
    clear X G E6 U
    go_wp2
    first|go_end0|refine iq rfl rfl ?_
    exact⟨rfl,D.out⟩
   |true=>
    rw[hb]at y1;have hm5:=E6.out _ U;have D:Hid (∀W,ig Z W z {Y.change with O:=λx=>if x=i then oX (Y.change.O i) Y.change.K else Y.change.O x} r.n->ig w W z (r.meet i q) r.n):=by
     intro W hw;rw[X.out,hb,ag rfl];exact G.out _ _ hw
    clear X G E6 U;go_wp2_with(fail);refine hm5.mono ?_;rintro e W5 ⟨rfl,FR⟩;have LP:=D.out _ FR;clear hm5 FR
    go_wp2
    first|go_end0|refine iq rfl rfl ?_
    exact⟨rfl,LP⟩
theorem E7(C:mK)(r:Nat):(xd C r).length<=7:=tR _ _
theorem DS(z:Zt)(r:iy)(w:dN)(h:k8 w z r)(y:Ug r.K):
 eM eN 64 #[π (μ ⟨z.R,0,ν⟩)] w λe w'=>∃b c,e=ρ (σ b (oB r).length c)/\Zm w w' b (oB r).length (oB r)/\dV w w':=by
 have V:=h.below (iI w);have A:r.id=((r.id.toNat:Nat):Int):=by have:=h.id;omega
 have Y:eM eN 110 #[π (μ ⟨z.Bb,0,ν⟩)] w.drew λe w'=>∃a n cap,e=ρ (σ a n cap)/\(∀W,dV w' W->eM eN 116 #[σ a n cap,ι κ r.id] W λe X=>∃b c,e=ρ (σ b (oB r).length c)/\Zm w X b (oB r).length (oB r)/\dV w X/\(X.cell? ⟨z.R,0,ν⟩=μ (ι κ r.id)/\X.cell? ⟨z.R,2,ν⟩=μ (π (μ ⟨z.Bb,0,ν⟩))))/\(w'.cell? ⟨z.R,0,ν⟩=μ (ι κ r.id)/\w'.cell? ⟨z.R,2,ν⟩=μ (π (μ ⟨z.Bb,0,ν⟩))):=by
  refine(zq z.Bb z.fm 6 r.K r.O w.drew V.bs).mono ?_;rintro e j ⟨a,n,cap,S,E,rfl,u,D,h6,_,b1⟩;have M:=V.below b1;refine⟨a,n,cap,rfl,λW Q=> ?_,M.c0,M.c2⟩;have hh:=P4 a n cap S E r.id.toNat W (u.below Q) dP D.ok (by have:=h.id;omega) (by have:=h.id;omega);rw[<-A]at hh;rw[tk.grid D y]at hh;refine hh.mono ?_;rintro e X ⟨b,c,rfl,U,b2⟩;have G:=(M.below Q).below b2;exact⟨b,c,rfl,⟨U.r,λx e=>Nat.le_trans (gD (gD (iI w) b1) Q).size (U.nw x e)⟩,gD (gD (gD (iI w) b1) Q) b2,G.c0,G.c2⟩
 have Z:=And.intro V.c0 V.c2;generalize oB r=L at Y⊢;generalize z.R=T at Y Z⊢;generalize z.Bb=Bb at Y Z;generalize r.id=id at Y Z;clear h V A;have Z:w.drew.cell? ⟨T,0,ν⟩=μ (ι κ id)/\w.drew.cell? ⟨T,2,ν⟩=μ (π (μ ⟨Bb,0,ν⟩)):=Z
 go_in
 go_wp2
 go_region_held3(λx=>x.cell? ⟨T,0,ν⟩=μ (ι κ id)/\x.cell? ⟨T,2,ν⟩=μ (π (μ ⟨Bb,0,ν⟩)))
  (first|assumption|exact Z|exact J|exact H)
  (first
   |(go_at_call 110;refine Y.mono ?_;rintro e j ⟨a,n,cap,rfl,hh,J⟩)
   |(go_at_call 116;refine(hh _ (aq _ _)).mono ?_;rintro e X ⟨b,c,rfl,U,b2,H⟩))
 all_goals
  have HH:Hid _:=U;clear Y hh Z J H U
  go_wp2
  go_ret
  first|exact⟨b,c,rfl,HH.out,b2⟩|exact⟨b,⟨c,rfl,HH.out,b2⟩⟩
def Uo(r:iy)(t h:Int):Option Nat:=if 1<=h then(ym (oB r) t).bind λx=>jA r.P x.tf r.n else ν
def qK(F:Int->Option PS)(j m:Nat):List (Int×PS):=(List.range' j m).filterMap λ(j:Nat)=>(F ((j:Int)+1)).map λq=>((j:Int)+1,q)
theorem Kg(F:Int->Option PS):lU F=qK F 0 6:=by unfold lU qK;rw[cV]
theorem rI {F:Int->Option PS} {n:Nat} {S:Nat->SV} {E:Nat->List jv} (h:tk F n S E):∀(m j k:Nat),j+m=6->k<=n->(∀i,i<k->(S i).own<=j)->(∀i,k<=i->i<n->(j:Int)<(S i).own)->qK F j m=(List.range' k (n-k)).map λi=>((S i).own,((S i).seq,E i))
 |0,j,k,hj,hk,h1,h2=>by
  have:n-k=0:=by
   by_cases e:k<n
   ·have Y:=h2 k (Nat.le_refl _) e;have Z:=(jk (h.ok k e)).1;omega
   ·omega
  rw[this];rfl
 |m+1,j,k,hj,hk,h1,h2=>by
  have e:qK F j (m+1)=(match F ((j:Int)+1)with|none=>qK F (j+1) m|some q=>((j:Int)+1,q)::qK F (j+1) m):=by
   unfold qK;rw[dv,cG];cases F ((j:Int)+1)<;>simp
  rw[e];cases hF:F ((j:Int)+1)with
  |none=>
   simp only;refine rI h m (j+1) k dP hk (λi hi=>by have:=h1 i hi;omega) (λi Y Z=> ?_);have h5:=h2 i Y Z;have h6:(S i).own≠(j:Int)+1:=λe=>by
    have:=(h.at_ i Z).2;rw[e,hF]at this;cases this
   omega
  |some q=>
   simp only;obtain⟨i,hi,X⟩:=h.all ((j:Int)+1) ⟨dP,dP⟩ (by rw[hF];rfl);have hki:k<=i:=by
    by_cases e:i<k
    ·have:=h1 i e;omega
    ·omega
   have T:i=k:=by
    by_cases e:i=k
    ·exact e
    ·have Y:=h.Nb k i dP hi;have Z:=h2 k (Nat.le_refl _) dP;omega
   subst T;have V:=(h.at_ i hi).2;rw[X,hF]at V;have U:=Option.some.inj V;have en:n-i=(n-(i+1))+1:=dP;rw[en,dv,List.map_cons,X,<-U];congr 1;refine rI h m (j+1) (i+1) dP dP (λx hx=> ?_) (λx Y Z=> ?_)
   ·by_cases e:x=i
    ·subst e;omega
    ·have:=h1 x dP;omega
   ·have:=h.Nb i x dP Z;omega
theorem ND {F:Int->Option PS} {S:Nat->SV} {E:Nat->List jv} (h:tk F n S E):lU F=(List.range n).map λi=>((S i).own,((S i).seq,E i)):=by
 rw[Kg,rI h 6 0 0 rfl (Nat.zero_le _) (λi hi=>dP) (λi _ hi=>by have:=(jk (h.ok i hi)).1;omega),cV];rfl
theorem Q9(B:Nat)(m:FM)(k:Nat)(K:Int->Option PS)(O:Nat->Int->Option PS)(p:Nat)(w:dN)(h:BR w B m k K O)(Y:p<m.bs.length):
 eM eN 151 #[π (μ ⟨B,0,ν⟩),ι κ (p:Int)] w λe w'=>∃a n cap S E,e=ρ (σ a n cap)/\vm w' a n S E/\tk (O p) n S E/\n<=6/\(∀j,dQ (σ a n cap)=μ j->w.heap.size<j)/\(∀i,i<n->∀j,dQ (σ (S i).a (S i).n (S i).cap)=μ j->w.heap.size<j)/\dV w w':=by
 obtain⟨kn,ow,hF,hT,X⟩:=h.ex;refine(QF B m k kn ow (lP (O p)) p w hF Y (X p Y).fine).mono ?_;rintro e w1 ⟨v,ts,rfl,Z⟩;obtain⟨a,cap,rfl,V,U,T,Q⟩:=Z.lists (X p Y);refine⟨a,ts.length,cap,_,_,rfl,V,U,T,Q,λi hi j M=> ?_,Z.nI⟩;have J:ts.getD i SV.zero∈ts:=by
  have:ts.getD i SV.zero=ts[i] :=by simp[List.getD,hi]
  rw[this];exact aD hi
 exact((Z.el _ J).new j M).1
theorem zw:∀(l:List (Int×PS)) (p:jb) (q:Int×PS),p.j3 (l++ [q])=(p.j3 l).put 83 (rM q.1 q.2.1 q.2.2)
 |[],_,_=>rfl
 |x::l,p,q=>by
  show(p.put 83 (rM x.1 x.2.1 x.2.2)).j3 (l++ [q])=((p.put 83 (rM x.1 x.2.1 x.2.2)).j3 l).put _ _;exact zw l _ q
theorem wB:∀(l:List (Int×PS)) (p:jb),(p.j3 l).out.length<=p.out.length+126*l.length
 |[],p=>by simp[jb.j3]
 |x::l,p=>by
  have h1:=wB l (p.put 83 (rM x.1 x.2.1 x.2.2));have h2:=uW p 83 (rM x.1 x.2.1 x.2.2);have e:p.j3 (x::l)=(p.put 83 (rM x.1 x.2.1 x.2.2)).j3 l:=rfl;rw[e,cS];omega
theorem pW(p:jb)(c:UInt8)(s:List UInt8):(p.put c s).pe=p.pe:=by
 unfold jb.put;split
 ·rfl
 ·split<;>rfl
theorem yH(r:iy)(i:Nat)(p q:jb):(r.iE i p).iE i q=r.iE i q:=by
 have:kA (kA r.P i p) i q=kA r.P i q:=by
  funext x
  unfold kA;by_cases e:x=i
  ·simp[e]
  ·simp[e]
 show({r with P:=kA (kA r.P i p) i q}:iy)={r with P:=kA r.P i q}
 rw[this]
def lI(r:iy)(i:Nat):iy:=
 let p:=(r.P i).put 72 [jQ r.id,jQ (r.P i).pe.who]
 r.iE i (if(r.P i).pe.both=true then p.j3 (lU (r.O i))else p)
theorem iK.went {w w':dN} {z:Zt} {r r0:iy} (h:ig w w' z r n)(Y:k8 w z r0) {a:Option Addr} {m cap:Nat} {es:List jv} (U:iK w a m es)(V:∀j,dQ (σ a m cap)=μ j->¬z.mine n j):iK w' a m es:=by
 refine⟨U.1,?_⟩;rcases U.2 with Z|⟨b,off,rfl,Z⟩
 ·exact .inl Z
 ·exact .inr ⟨b,off,rfl,λj X=>⟨h.cell Y (p:=⟨b,_,ν⟩) (V b rfl) (Z j X).1,h.cell Y (p:=⟨b,_,ν⟩) (V b rfl) (Z j X).2⟩⟩
theorem vm.went {w w':dN} {z:Zt} {r r0:iy} {n:Nat} (h:ig w w' z r n)(Y:k8 w z r0) {a:Option Addr} {m cap:Nat} {S:Nat->SV} {E:Nat->List jv} (hs:vm w a m S E)(X:∀j,dQ (σ a m cap)=μ j->¬z.mine n j)(U:∀i,i<m->∀j,dQ (σ (S i).a (S i).n (S i).cap)=μ j->¬z.mine n j):vm w' a m S E:=by
 refine⟨?_,λj Z=>⟨iK.went h Y (hs.opt j Z).1 (U j Z),(hs.opt j Z).2⟩⟩;rcases hs.row with V|⟨b,off,rfl,V⟩
 ·exact .inl V
 ·refine .inr ⟨b,off,rfl,λj Z=> ?_⟩;obtain⟨c1,c2,c3⟩:=V j Z;exact⟨h.cell Y (p:=⟨b,_,ν⟩) (X b rfl) c1,h.cell Y (p:=⟨b,_,ν⟩) (X b rfl) c2,h.cell Y (p:=⟨b,_,ν⟩) (X b rfl) c3⟩
theorem Ra(z:Zt)(r:iy)(i:Nat)(w:dN)(h:k8 w z r)(iC:kE r)(hi:i<r.n)(tF:(r.P i).out.length<=700000000):
 eM eN 85 #[π (μ ⟨z.R,0,ν⟩),ι κ (i:Int)] w λe w'=>e=ρ (τ #[])/\ig w w' z (lI r i) r.n:=by
 have kV:(i:Int)<(r.n:Int):=dP;have Jv:(0:Int)<=(i:Int):=dP;obtain⟨p,G⟩:=fP (r.P i);rw[G]at tF;have sQ:Hid (∀W,dV w W->W.cell? ⟨z.R,0,ν⟩=μ (.int .i64 r.id)/\W.cell? ⟨z.g,i*71+67,ν⟩=μ (.int .i64 p.pe.who)/\W.cell? ⟨z.g,i*71+67+1,ν⟩=μ (.bool p.pe.both)/\W.cell? ⟨z.g,i*71+67+2,ν⟩=μ (.int .i64 p.pe.left)):=by
  intro W Y;have R:=h.below Y;rw[<-G];exact⟨R.c0,(R.pt i hi).ZB,(R.pt i hi).T9,(R.pt i hi).ZC⟩
 have tj:=iC.pe i hi;rw[G]at tj;have u:∀W,dV w W->eM eN 149 #[.agg #[.int .i64 p.pe.who,.bool p.pe.both,.int .i64 p.pe.left],.int .i64 r.id] W λe w'=>e=ρ (.agg #[.int .i64 r.id,.int .i64 p.pe.who])/\dV w w'/\(w'.cell? ⟨z.R,0,ν⟩=μ (.int .i64 r.id)/\w'.cell? ⟨z.g,i*71+67,ν⟩=μ (.int .i64 p.pe.who)/\w'.cell? ⟨z.g,i*71+67+1,ν⟩=μ (.bool p.pe.both)/\w'.cell? ⟨z.g,i*71+67+2,ν⟩=μ (.int .i64 p.pe.left)):=by
  intro W Y;refine(P7 p.pe.who p.pe.left r.id p.pe.both W).mono ?_;rintro e w1 ⟨rfl,b1⟩;exact⟨rfl,gD Y b1,sQ.out _ (gD Y b1)⟩
 have abk:∀W,dV w W->eM eN 148 #[.agg #[.int .i64 r.id,.int .i64 p.pe.who]] W λe w'=>e=ρ (τ #[.string ⟨#[u8 r.id,u8 p.pe.who]⟩,η])/\dV w w'/\(w'.cell? ⟨z.R,0,ν⟩=μ (.int .i64 r.id)/\w'.cell? ⟨z.g,i*71+67,ν⟩=μ (.int .i64 p.pe.who)/\w'.cell? ⟨z.g,i*71+67+1,ν⟩=μ (.bool p.pe.both)/\w'.cell? ⟨z.g,i*71+67+2,ν⟩=μ (.int .i64 p.pe.left)):=by
  intro W Y;have h1:=iC.id;have h2:=tj.who;refine(GD r.id p.pe.who W h1.1 h1.2 h2.1 h2.2 (by simp[tE];omega)).mono ?_;rintro e w1 ⟨rfl,b1⟩;exact⟨rfl,gD Y b1,sQ.out _ (gD Y b1)⟩
 obtain⟨Z,CL⟩:=fP (p.put 72 [jQ r.id,jQ p.pe.who]);have C5:Z.out.length<=700000126:=by
  rw[<-CL];have:=uW p 72 [jQ r.id,jQ p.pe.who];omega
 have GX:Z.pe=p.pe:=by rw[<-CL];exact pW _ _ _
 obtain⟨r1,M⟩:=fP (r.iE i Z);have V:r1.n=r.n:=by rw[<-M];rfl
 have Vs:r1.P i=Z:=by rw[<-M];exact ja _ _ _
 have ZI:r1.O=r.O:=by rw[<-M];rfl
 have ni:Hid (∀W,dV w W->eM eN 150 #[π (μ ⟨z.g,i*71,ν⟩),.string ⟨#[72]⟩,.string ⟨#[u8 r.id,u8 p.pe.who]⟩] W λe w'=>e=ρ (τ #[])/\ig w w' z r1 r.n):=by
  intro W Y;have R:=h.below Y;have zv:=R.pt i hi;rw[G]at zv;refine(Aq z.g (i*71) (z.B i) (z.v i) p ⟨#[72]⟩ ⟨#[u8 r.id,u8 p.pe.who]⟩ 72 W zv rfl (by show 2<=1000;omega) dP).mono ?_;rintro e w1 ⟨rfl,T⟩;have uT:kM W w1 z.g (i*71) (z.B i) (z.v i) Z:=by rw[<-CL];exact T
  rw[<-M];exact⟨rfl,ig.first h rfl Y (λ_=>R.port hi uT)⟩
 have hE:lI r i=r.iE i (if p.pe.both=true then Z.j3 (lU (r.O i))else Z):=by
  unfold lI;rw[G];simp only[CL]
 have Rb:Hid (p.pe.both=false->lI r i=r1):=by
  intro e;rw[hE,ae (by simp[e]),M]
 have VT:Hid (p.pe.both=true->lI r i=r1.iE i (Z.j3 (lU (r.O i)))):=by
  intro e;rw[hE,ag e,<-M];exact(yH r i Z _).symm
 have b0:=iI w;have R0:=h.below b0;have c1:=h.c1;have cl:=h.lt;have gl0:=h.DK;have F0:w.drew.cell? ⟨z.R,0,ν⟩=μ (.int .i64 r.id)/\w.drew.cell? ⟨z.g,i*71+67,ν⟩=μ (.int .i64 p.pe.who)/\w.drew.cell? ⟨z.g,i*71+67+1,ν⟩=μ (.bool p.pe.both)/\w.drew.cell? ⟨z.g,i*71+67+2,ν⟩=μ (.int .i64 p.pe.left):=sQ.out _ b0;have HR:Hid _:=h;clear h iC tj R0 hE G
 go_in
 go_wp2
 go_region_held3(λx=>x.cell? ⟨z.R,0,ν⟩=μ (.int .i64 r.id)/\x.cell? ⟨z.g,i*71+67,ν⟩=μ (.int .i64 p.pe.who)/\x.cell? ⟨z.g,i*71+67+1,ν⟩=μ (.bool p.pe.both)/\x.cell? ⟨z.g,i*71+67+2,ν⟩=μ (.int .i64 p.pe.left))
  (first|assumption|exact F0|exact F1|exact F2)
  (first
   |(go_at_call 149;refine(u _ b0).mono ?_;rintro e w1 ⟨rfl,b1,F1⟩)
   |(go_at_call 148;refine(abk _ b1).mono ?_;rintro e w2 ⟨rfl,b2,F2⟩))
 all_goals
  have zv:=ni.out _ b2;clear u abk ni sQ F0 F1 F2 c1 cl gl0;go_wp2_with(fail);refine zv.mono ?_;rintro e W4 ⟨rfl,U⟩;obtain⟨v4,hv4⟩:=U.pt (i:=i) (by rw[V];exact hi);have g8:W4.cell? ⟨z.g,i*71+67+1,ν⟩=μ (.bool p.pe.both):=by
   have:=hv4.T9;rw[Vs,GX]at this;exact this
  have gl:=U.DK;have k2:=U.c2;have kl:=U.lt;clear zv hv4 b1 b2;cases hb:p.pe.both with
  |false=>
   rw[hb]at g8;have HW:Hid (ig w W4 z (lI r i) r.n):=by show ig _ _ _ _ _;rw[Rb.out hb];exact U
   clear U Rb VT
   go_wp2
   first|go_end0|refine iq rfl rfl ?_
   exact⟨rfl,HW.out⟩
  |true=>
   rw[hb]at g8;have HE:=VT.out hb;obtain⟨z4,D,X,DT,abl⟩:=U.ex;have how:=Q9 z4.Bb z4.fm 6 r1.K r1.O i W4 D.bs (by rw[D.bl,V];exact hi);rw[X.Bb]at how;have HF:Hid (∀W,ig W4 W z4 (lI r i) r.n->ig w W z (lI r i) r.n):=λW T=>U.py D X DT abl T;have y:Hid _:=D;have HEq:Hid _:=HE;clear U HE Rb VT D DT abl;go_wp2_with(fail);refine how.mono ?_;rintro e J ⟨a,m,cap,S,E,rfl,hS,hL,h6,iO,VU,b5⟩;have A:=ND hL;rw[ZI]at A;have R5:=y.out.below b5;have wO:∀j,dQ (σ a m cap)=μ j->¬z4.mine r.n j:=λj hj=>by
    have:=y.out.rY (Nat.le_of_lt (iO j hj))
    rwa [V]at this
   have zU:∀x,x<m->∀j,dQ (σ (S x).a (S x).n (S x).cap)=μ j->¬z4.mine r.n j:=λx hx j hj=>by
    have:=y.out.rY (Nat.le_of_lt (VU x hx j hj))
    rwa [V]at this
   have MX:Hid (∀wr rr,ig J wr z4 rr r.n->vm wr a m S E):=λwr rr T=>vm.went (cap:=cap) T R5 hS wO zU;have afC:Hid (∀x,x<m->ox (S x).own (S x).seq (E x)=0):=hL.ok;have afD:Hid (∀k,k<m->(lU (r.O i)).take (k+1)=(lU (r.O i)).take k++ [((S k).own,((S k).seq,E k))]):=by
    intro k hk;have hlen:k<(lU (r.O i)).length:=by rw[A];simpa using hk
    rw[aw hlen];congr 2;simp[A]
   have afE:Hid ((lU (r.O i)).length=m):=by show _=_;rw[A];simp
   have HF5:Hid (∀W,ig J W z4 (lI r i) r.n->ig w W z (lI r i) r.n):=λW T=>HF.out W (ig.first y.out V b5 (λ_=>T));have H0:Hid (ig J J z4 (r1.iE i (Z.j3 ((lU (r.O i)).take 0))) r.n):=by
    show ig _ _ _ _ _;have e:r1.iE i (Z.j3 ((lU (r.O i)).take 0))=r1:=by
     show r1.iE i Z=r1;rw[<-M,yH]
    rw[e,<-V];exact ig.refl R5
   have hG4:z4.g=z.g:=X.g;have HG4:Hid _:=hG4;clear how hS hL iO VU A R5 wO zU HF hG4 b5 y X k2 kl g8 gl
   go_wp2
   go_loopw [46] (λx wr=>∃k:Nat,k<=m/\x=ι κ k/\ig J wr z4 (r1.iE i (Z.j3 ((lU (r.O i)).take k))) r.n) (λx _=>m-(intOf x).toNat)
   case atStart=>exact⟨0,Nat.zero_le _,rfl,H0.out⟩
   case round=>
    obtain⟨k,hk,rfl,H⟩:=hrel;by_cases kc:k<m
    ·have nh:(k:Int)<(m:Int):=dP;have FO:(0:Int)<=(k:Int):=dP;have SR:=MX.out _ _ H;rcases SR.row with h0|⟨b,off,rfl,iJ⟩
     ·omega
     obtain⟨x0,x1,x2⟩:=iJ k kc;have hop:=(SR.opt k kc).1;have jX:=afC.out k kc;have Uc:=afD.out k kc;have xl:=af _ _ x0;have ba:=gM wr (γ #[ι κ (S k).own,ι κ (S k).seq,σ (S k).a (S k).n (S k).cap] 40);have Q:=H.below (by show r1.n=r.n;exact V) ba;obtain⟨pk,Ns⟩:=fP (Z.j3 ((lU (r.O i)).take k));have qd:pk.out.length<=800000000:=by
      rw[<-Ns];have h1:=wB ((lU (r.O i)).take k) Z;have h2:((lU (r.O i)).take k).length<=k:=bV _ _;omega
     have uo:eM eN 152 #[π (μ ⟨z.g,i*71,ν⟩),.string ⟨#[83]⟩,.agg #[ι κ (S k).own,ι κ (S k).seq,σ (S k).a (S k).n (S k).cap]] (wr.alloc (γ #[ι κ (S k).own,ι κ (S k).seq,σ (S k).a (S k).n (S k).cap] 40)) λe w'=>e=ρ (τ #[])/\ig J w' z4 (r1.iE i (Z.j3 ((lU (r.O i)).take (k+1)))) r.n:=by
      rw[Uc,zw];rw[Ns]at Q⊢;refine Q.call λz1 R1 hl=> ?_;have tO:i<(r1.iE i pk).n:=by show i<r1.n;rw[V];exact hi
      have abm:=R1.pt i tO;have hPk:(r1.iE i pk).P i=pk:=ja _ _ _;rw[hPk]at abm;rw[<-HG4.out,<-hl.g];refine(vC ⟨#[83]⟩ 83 (S k).own (S k).seq (S k).a (S k).n (S k).cap (E k) z1.g (i*71) (z1.B i) (z1.v i) pk _ abm rfl (hop.below ba) jX qd).mono ?_;rintro e w6 ⟨rfl,LP⟩;have h7:=R1.port tO LP;rw[yH]at h7;exact⟨rfl,by rw[show r.n=(r1.iE i pk).n from V.symm];exact h7⟩
     clear SR iJ hop jX Uc Q H Ns qd ba;go_wp2_with(fail);refine uo.mono ?_;rintro e w6 ⟨rfl,LP⟩;have HW6:Hid _:=LP;clear uo LP
     go_wp2
     go_roundw
     case rel=>exact⟨k+1,dP,by go_num,HW6.out⟩
     case measure=>simp[intOf];omega
    ·have zN:¬(k:Int)<(m:Int):=dP;have HW:Hid (ig w wr z (lI r i) r.n):=by
      show ig _ _ _ _ _;refine HF5.out _ ?_;rw[HEq.out];have e1:(lU (r.O i)).take k=lU (r.O i):=aC (by have:=afE.out;omega);rw[e1]at H;exact H
     clear H
     go_wp2
     first|go_end0|refine iq rfl rfl ?_
     exact⟨rfl,HW.out⟩
theorem qz {l:List UInt8} {own seq:Int} {os:List jv} (h:ik l=(own,seq,os,0)):ox own seq os=0:=by
 unfold ik at h;split at h
 ·simp at h
 ·split at h
  ·rename_i Z
   simp only[Prod.mk.injEq,and_true]at h;obtain⟨rfl,rfl,rfl⟩:=h;exact Z
  ·simp at h
theorem Kh(z:Zt)(r:iy)(i:Nat)(own seq:Int)(a:Option Addr)(n cap:Nat)(es:List jv)(w:dN)(h:k8 w z r)(hi:i<r.n)(X:iK w a n es)(hf:ox own seq es=0):
 eM eN 191 #[π (μ ⟨z.Bb,0,ν⟩),ι κ (i:Int),.agg #[ι κ own,ι κ seq,σ a n cap]] w λe w'=>e=ρ η/\ig w w' z {r with O:=λx=>if x=i/\0<=newF r.K own seq es then yA (r.O i) own else r.O x} r.n:=by
 refine(J0 z.Bb z.fm 6 r.K r.O i own seq a n cap es w h.bs (qy (by have:=(jk hf).1;omega)) (by rw[h.bl];exact hi) X hf (λ_=>AX _ _ _ _)).mono ?_;rintro e w1 ⟨rfl,Z,Y⟩;exact⟨rfl,h.base Z Y⟩
def ku(r:iy)(i:Nat)(l:List UInt8):iy:=
 let q:=St.ik l
 if q.2.2.2=0 then {r with O:=λx=>if x=i/\0<=newF r.K q.1 q.2.1 q.2.2.1 then yA (r.O i) q.1 else r.O x}else r
theorem Da(s:ByteArray)(z:Zt)(r:iy)(i:Nat)(w:dN)(h:k8 w z r)(hi:i<r.n)(hs:s.size<=1000):
 eM eN 136 #[π (μ ⟨z.R,0,ν⟩),ι κ (i:Int),.string s] w λe w'=>e=ρ (τ #[])/\ig w w' z (ku r i s.data.toList) r.n:=by
 have y:=BD s w (by unfold maxLen;omega);have H:Hid _:=h;clear h
 go_in
 go_wp2_with(fail);refine y.mono ?_;rintro e V ⟨a,n,cap,f,own,seq,os,rfl,D,E,S,b1,jS⟩;clear y;by_cases hf:f=0
 ·subst hf;have e0:iP 0=η:=rfl;rw[e0];have u:=qz S;have U:ku r i s.data.toList={r with O:=λx=>if x=i/\0<=newF r.K own seq os then yA (r.O i) own else r.O x}:=by
   unfold ku;rw[S];rfl
  have ba:=gM V (γ #[ι κ own,ι κ seq,σ a n cap] 40);have hA:=λj=>aj V #[ι κ own,ι κ seq,σ a n cap] 40 (0,0) j;have b2:=gD b1 (gD ba (iI _));have M:=H.out.below b2;have hh:=Kh z r i own seq a n cap os _ M hi (D.below (gD ba (iI _))) u;have Y:eM eN 191 #[π (μ ⟨z.Bb,0,ν⟩),ι κ (i:Int),.agg #[ι κ own,ι κ seq,σ a n cap]] (V.alloc (γ #[ι κ own,ι κ seq,σ a n cap] 40)).drew λe w'=>e=ρ η/\ig w w' z (ku r i s.data.toList) r.n:=by
   refine hh.mono ?_;rintro e w3 ⟨rfl,hw⟩;exact⟨rfl,by rw[U];exact ig.first H.out rfl b2 (λ_=>hw)⟩
  have c2:=M.c2;have cl:=M.lt;obtain⟨J,X⟩:=fP (V.alloc (γ #[ι κ own,ι κ seq,σ a n cap] 40));obtain⟨Z,Q⟩:=fP (V.heap.size);rw[X]at Y c2 cl;have d0:J.drew.cell? ⟨Z,0,ν⟩=μ (ι κ own):=by rw[<-X,<-Q];exact hA 0
  have d1:J.drew.cell? ⟨Z,1,ν⟩=μ (ι κ seq):=by rw[<-X,<-Q];exact hA 1
  have d2:J.drew.cell? ⟨Z,2,ν⟩=μ (σ a n cap):=by rw[<-X,<-Q];exact hA 2
  have zl:Z<J.drew.heap.size:=af _ _ d0;obtain⟨T,A⟩:∃T:dN->Prop,(λx=>ig w x z (ku r i s.data.toList) r.n)=T:=⟨_,rfl⟩
  have G:∀x,ig w x z (ku r i s.data.toList) r.n=T x:=λx=>bU A x;simp only[G]at Y;have HT:Hid _:=G;clear hh hA ba b2 M D S u U E jS b1 A G;go_wp2_with(fail)
  try rw[X]
  try rw[Q]
  clear X Q
  go_region_with(go_at_call 191;refine Y.mono ?_;rintro e w3 ⟨rfl,hW⟩)
  all_goals
   clear Y
   go_wp2
   first|go_end0|refine iq rfl rfl ?_
   exact⟨rfl,by rw[HT.out];exact hW⟩
 ·have ee:iP f=.iface 128 (ι κ (f:Int)):=by simp only[iP];rw[ae hf]
  rw[ee];have U:ku r i s.data.toList=r:=by
   unfold ku;rw[S];simp only;rw[ae hf]
  have HW:Hid (ig w (V.alloc (γ #[ι κ own,ι κ seq,σ a n cap] 40)) z (ku r i s.data.toList) r.n):=by
   show ig _ _ _ _ _;rw[U];exact ig.still H.out (gD b1 (gM _ _))
  clear S D hf ee U
  go_wp2
  first|go_end0|refine iq rfl rfl ?_
  exact⟨rfl,HW.out⟩
