import Derived.Test.YtieklnlbljejdaaGreatDoorG17
open Go.Value renaming int → ι, slice → σ, pointer → π, tuple → τ, nilIface → η
open Go.IntKind renaming i64 → κ
open Go.Ending renaming returned → ρ
open Go.Obj renaming cells → γ
open Option renaming none → ν, some → μ
open Go renaming Calls → fj, World → eB
open Go.Proofs.Tryz renaming prog → fk
open Go.Value renaming ownBlock → eF
set_option maxRecDepth 100000
set_option maxHeartbeats 4000000
namespace Go.Proofs.YtieklnlbljejdaaGreatDoor
open Go.RowKit St
namespace Rt
variable {n:Nat}
theorem CC(r:iY):r.change.n=r.n:=by
 unfold iY.change iY.behind;split
 ·rfl
 ·split<;>rfl
theorem zh(r:iY)(s:Int):(r.behind s).id=r.id:=by
 unfold iY.behind;split<;>rfl
theorem Sd(r:iY)(s:Int):(r.behind s).n=r.n:=by
 unfold iY.behind;split<;>rfl
theorem EH(r:iY):r.change.id=r.id:=by
 unfold iY.change;split
 ·rfl
 ·exact zh r _
theorem zi(r:iY)(i:Nat)(q:ln):(r.meet i q).n=r.n:=by
 unfold iY.meet;simp only;split
 ·rfl
 ·split
  ·exact CC _
  ·exact CC _
theorem Bj(r:iY)(i:Nat)(q:ln):(r.meet i q).id=r.id:=by
 unfold iY.meet;simp only;split
 ·rfl
 ·split
  ·exact EH _
  ·exact EH _
section
variable {w W:World} {z:Zt} {r:iY} {n N:Nat} {C:Array Value} {t:TypeId}
theorem Se(h:nX w W z r n N C t)(i:Nat)(hi:i<r.n):
 fj fk 124 #[π (μ ⟨z.Bb,0,ν⟩),ι κ (i:Int)] W λe w'=>e=ρ (τ #[])/\nX w w' z {r with O:=λx=>if x=i then λ_=>ν else r.O x} n N C t:=by
 have hn:=h.nn;subst hn;refine h.call rfl λz1 R1 hl=> ?_;rw[<-hl.Bb];exact Sb z1 r i W R1 hi
theorem K6(h:nX w W z r n N C t)(jb:lp r):
 fj fk 125 #[π (μ ⟨z.R,0,ν⟩)] W λe w'=>e=ρ (τ #[])/\nX w w' z r.change n N C t:=by
 have hn:=h.nn;subst hn;refine h.call (CC r) λz1 R1 hl=> ?_;rw[<-hl.R];exact K3 z1 r W R1 jb
theorem Sf(h:nX w W z r n N C t)(i:Nat)(hi:i<n):
 fj fk 126 #[π (μ ⟨z.Bb,0,ν⟩),ι κ (i:Int)] W λe w'=>e=ρ η/\iU w w' z {r with O:=λx=>if x=i then pP (r.O i) r.K else r.O x} n:=by
 have hn:=h.nn;subst hn;refine h.went.call λz1 R1 hl=> ?_;rw[<-hl.Bb];exact Oy z1 r i W R1 hi
end
theorem uV(z:Zt)(r:iY)(i:Nat)(q:ln)(w:eB)(h:lW w z r)(jb:lp r)(hi:i<r.n)(hq:nV r.id q):
 fj fk 74 #[π (μ ⟨z.R,0,ν⟩),.int .i64 (i:Int),.agg #[.int .i64 q.who,.bool q.both,.int .i64 q.left]] w λe w'=>e=ρ (τ #[])/\iU w w' z (r.meet i q) r.n:=by
 have lO:(i:Int)<(r.n:Int):=eE;have NR:(0:Int)<=(i:Int):=eE;have hzp:=Ce;obtain⟨p,hp⟩:=gH (r.P i);have ba:=iB w (γ #[.int .i64 q.who,.bool q.both,.int .i64 q.left] 116);have bb:=iA ba (iB (w.alloc (γ #[.int .i64 q.who,.bool q.both,.int .i64 q.left] 116)) (γ #[.int .i64 p.pe.who,.bool p.pe.both,.int .i64 p.pe.left] 116));have R1:=h.below ba;have c1:=R1.c1;have cl:=R1.lt;have g1:=(R1.pt i hi).c67;have g2:=(R1.pt i hi).Xa;have g3:=(R1.pt i hi).c69;have gl:=R1.G6;rw[hp]at g1 g2 g3;have R2:=h.below bb;have Xe:jr ((w.alloc (γ #[.int .i64 q.who,.bool q.both,.int .i64 q.left] 116)).alloc (γ #[.int .i64 p.pe.who,.bool p.pe.both,.int .i64 p.pe.left] 116)) w.heap.size #[.int .i64 q.who,.bool q.both,.int .i64 q.left] 116:=(jr.new w _ _).below (iB _ _);have Vq:jr ((w.alloc (γ #[.int .i64 q.who,.bool q.both,.int .i64 q.left] 116)).alloc (γ #[.int .i64 p.pe.who,.bool p.pe.both,.int .i64 p.pe.left] 116)) (w.heap.size+1) #[.int .i64 p.pe.who,.bool p.pe.both,.int .i64 p.pe.left] 116:=jr.Hf _ _ _ _ iC;have HR:Hid _:=h;have Sg:Hid _:=jb;have HP:Hid _:=hp;clear jb R1 hp
 go_in
 go_wp2_with(fail);obtain⟨W1,ke⟩:=gH ((w.alloc (γ #[.int .i64 q.who,.bool q.both,.int .i64 q.left] 116)).alloc (γ #[.int .i64 p.pe.who,.bool p.pe.both,.int .i64 p.pe.left] 116));rw[ke]at bb R2 Xe Vq;rw[ke];have hNl:¬z.mine r.n w.heap.size:=h.sY (Nat.le_refl _);have hgN:z.g<w.heap.size:=h.G6;obtain⟨N,hN⟩:=gH (w.heap.size);rw[hN]at Xe Vq hNl hgN;rw[hN];have Rd:=R2.below (jk W1);have hPe:=(Rd.pt i hi).peer q;have hW:=Rd.port hi hPe;have hBs:nX W1 (((W1.drew.setCell ⟨z.g,i*71+67,ν⟩ (.int .i64 q.who)).setCell ⟨z.g,i*71+68,ν⟩ (.bool q.both)).setCell ⟨z.g,i*71+69,ν⟩ (.int .i64 q.left)) z (r.jd i {p with pe:=q}) r.n N #[.int .i64 q.who,.bool q.both,.int .i64 q.left] 116:=by
  rw[HP.out]at hW;exact⟨iU.first R2 rfl (jk W1) (λ_=>hW),((Xe.drew.other eE _).other eE _).other eE _,rfl,Xe.lt,hNl⟩
 have ab2:jr (((W1.drew.setCell ⟨z.g,i*71+67,ν⟩ (.int .i64 q.who)).setCell ⟨z.g,i*71+68,ν⟩ (.bool q.both)).setCell ⟨z.g,i*71+69,ν⟩ (.int .i64 q.left)) (N+1) #[.int .i64 p.pe.who,.bool p.pe.both,.int .i64 p.pe.left] 116:=((Vq.drew.other eE _).other eE _).other eE _;have e1:=Rd.c1;have eg:=Rd.G6;have el:=Rd.lt;have y0:W1.drew.cell? ⟨N,0,ν⟩=μ (ι κ q.who):=Xe.cell 0;have y1:W1.drew.cell? ⟨N,1,ν⟩=μ (.bool q.both):=Xe.cell 1;have y2:W1.drew.cell? ⟨N,2,ν⟩=μ (.int .i64 q.left):=Xe.cell 2;have x7:=(Rd.pt i hi).c67;have x8:=(Rd.pt i hi).Xa;have x9:=(Rd.pt i hi).c69;have f7:=(Rd.pt i hi).fz 67 eH;have f8:=(Rd.pt i hi).fz 68 eH;have f9:=(Rd.pt i hi).fz 69 eH;rw[HP.out]at x7 x8 x9;have hS:((W1.setCell ⟨z.g,i*71+67,ν⟩ (.int .i64 q.who)).drew.cell? ⟨z.g,i*71+67+1,ν⟩=μ (.bool p.pe.both)/\(W1.setCell ⟨z.g,i*71+67,ν⟩ (.int .i64 q.who)).drew.frozen? ⟨z.g,i*71+67+1,ν⟩=false)/\(((W1.setCell ⟨z.g,i*71+67,ν⟩ (.int .i64 q.who)).setCell ⟨z.g,i*71+67+1,ν⟩ (.bool q.both)).drew.cell? ⟨z.g,i*71+67+2,ν⟩=μ (.int .i64 p.pe.left)/\((W1.setCell ⟨z.g,i*71+67,ν⟩ (.int .i64 q.who)).setCell ⟨z.g,i*71+67+1,ν⟩ (.bool q.both)).drew.frozen? ⟨z.g,i*71+67+2,ν⟩=false):=by
  obtain⟨F,hC,_⟩:=(Rd.pt i hi).vN;rw[HP.out]at hC;have h1:=hC.set 67 eH (ι κ q.who);have h2:=h1.set 68 eH (.bool q.both);exact⟨⟨h1.cell 68 eH,h1.fz 68 eH⟩,h2.cell 69 eH,h2.fz 69 eH⟩
 obtain⟨⟨s1,s2⟩,s3,s4⟩:=hS;clear x8 x9 f8 f9;have YV:Hid _:=bb;have HR2:Hid _:=R2;have HBs:Hid _:=hBs;have HQ:Hid _:=hq;clear h hq ke Rd hPe hW hBs bb R2 Xe Vq ba c1 cl g1 g2 g3 gl
 go_region
 obtain⟨W2,nH⟩:=gH ((((W1.setCell ⟨z.g,i*71+67,ν⟩ (.int .i64 q.who)).setCell ⟨z.g,i*71+67+1,ν⟩ (.bool q.both)).setCell ⟨z.g,i*71+67+2,ν⟩ (.int .i64 q.left)).drew);rw[nH];have DB:nX W1 W2 z (r.jd i {p with pe:=q}) r.n N #[.int .i64 q.who,.bool q.both,.int .i64 q.left] 116:=by rw[<-nH];exact HBs.out
 have Vq:jr W2 (N+1) #[.int .i64 p.pe.who,.bool p.pe.both,.int .i64 p.pe.left] 116:=by rw[<-nH];exact ab2
 have y0:W2.cell? ⟨N,0,ν⟩=μ (ι κ q.who):=DB.nN.cell 0;have y1:W2.cell? ⟨N,1,ν⟩=μ (.bool q.both):=DB.nN.cell 1;have u0:W2.cell? ⟨N+1,0,ν⟩=μ (ι κ p.pe.who):=Vq.cell 0;have u1:W2.cell? ⟨N+1,1,ν⟩=μ (.bool p.pe.both):=Vq.cell 1;have nl:=DB.nN.lt;have nl6:=Vq.lt;have d2:=DB.went.c2;have dl:=DB.went.lt;have yS:Hid _:=DB;have HM:Hid (r.meet i q=if q.who=p.pe.who/\q.both=p.pe.both then r.jd i {p with pe:=q}else if q.both=true then {(({r.jd i {p with pe:=q}with O:=λx=>if x=i then λ_=>ν else r.O x}:iY).change)with O:=λx=>if x=i then pP ((({r.jd i {p with pe:=q}with O:=λx=>if x=i then λ_=>ν else r.O x}:iY).change).O i) (({r.jd i {p with pe:=q}with O:=λx=>if x=i then λ_=>ν else r.O x}:iY).change).K else(({r.jd i {p with pe:=q}with O:=λx=>if x=i then λ_=>ν else r.O x}:iY).change).O x}else({r.jd i {p with pe:=q}with O:=λx=>if x=i then λ_=>ν else r.O x}:iY).change):=by
  show _=_;unfold iY.meet;rw[HP.out];rfl
 obtain⟨r1,kU⟩:=gH (r.jd i {p with pe:=q});have kN:lp r1:=by rw[<-kU];exact Sg.out.jd i _ (by rw[HP.out]) (λ_=>HQ.out)
 have mM:r1.n=r.n:=by rw[<-kU];rfl
 have hO1:r1.O=r.O:=by rw[<-kU];rfl
 rw[kU]at yS HM;rw[<-hO1]at HM;have HF:Hid (∀W rr,iU W1 W z rr r.n->iU w W z rr r.n):=λW rr hw=>iU.first HR.out rfl YV.out (λ_=>hw);have AP:Hid _:=kN;have HN1:Hid _:=mM;clear nH DB Vq ab2 kU kN mM hO1 HBs HP HQ Sg s1 s2 s3 s4 x7 f7 e1 eg el HR2 YV HR hgN hNl hzp;by_cases hs:q.who=p.pe.who/\q.both=p.pe.both
 ·have q1:(q.who==p.pe.who)=true:=by simp[hs.1]
  have q2:(q.both==p.pe.both)=true:=by simp[hs.2]
  have HE:Hid (iU w W2 z (r.meet i q) r.n):=by
   show iU _ _ _ _ _;rw[HM.out,ag hs];exact HF.out _ _ yS.out.went
  clear hs HM HF yS
  go_wp2
  first|go_end0|refine aj (ar rfl _ _ _) rfl ?_
  exact⟨rfl,HE.out⟩
 ·obtain⟨r2,sE⟩:∃r2:iY,({r1 with O:=λx=>if x=i then λ_=>ν else r1.O x}:iY)=r2:=⟨_,rfl⟩
  have Xf:fj fk 124 #[π (μ ⟨z.Bb,0,ν⟩),.int .i64 (i:Int)] W2 λe w'=>e=ρ (τ #[])/\nX W1 w' z r2 r.n N #[.int .i64 q.who,.bool q.both,.int .i64 q.left] 116:=by
   refine(Se yS.out i (by rw[HN1.out];exact hi)).mono ?_;rintro e w3 ⟨rfl,hw⟩;exact⟨rfl,by rw[<-sE];exact hw⟩
  have hch:Hid (∀W,nX W1 W z r2 r.n N #[.int .i64 q.who,.bool q.both,.int .i64 q.left] 116->fj fk 125 #[π (μ ⟨z.R,0,ν⟩)] W λe w'=>e=ρ (τ #[])/\nX W1 w' z r2.change r.n N #[.int .i64 q.who,.bool q.both,.int .i64 q.left] 116):=by
   intro W hW;have YW:lp r2:=by rw[<-sE];exact AP.out.xe _
   exact K6 hW YW
  have Gd:Hid (∀W,nX W1 W z r2.change r.n N #[.int .i64 q.who,.bool q.both,.int .i64 q.left] 116->fj fk 126 #[π (μ ⟨z.Bb,0,ν⟩),.int .i64 (i:Int)] W λe w'=>e=ρ η/\iU W1 w' z {r2.change with O:=λx=>if x=i then pP (r2.change.O i) r2.change.K else r2.change.O x} r.n):=by
   intro W hW;exact Sf hW i hi
  rw[ae hs,sE]at HM;have HNE:Hid ((q.who==p.pe.who)=false \/(q.who==p.pe.who)=true/\(q.both==p.pe.both)=false):=by
   show _ \/_;cases h1:(q.who==p.pe.who)
   ·exact .inl rfl
   ·refine .inr ⟨rfl,?_⟩;cases h2:(q.both==p.pe.both)
    ·rfl
    ·exact absurd ⟨by simpa using h1,by simpa using h2⟩ hs
  clear hs sE AP HN1;rcases HNE.out with q1|⟨q1,q2⟩
  all_goals
   clear HNE;go_wp2_with(fail);refine Xf.mono ?_;rintro e W3 ⟨rfl,Qb⟩;have hc3:=hch.out _ Qb;clear Xf hch Qb yS y0 y1 u0 u1 nl nl6 d2 dl;go_wp2_with(fail);refine hc3.mono ?_;rintro e W4 ⟨rfl,JZ⟩;have y1:W4.cell? ⟨N,1,ν⟩=μ (.bool q.both):=JZ.nN.cell 1;have nl:=JZ.nN.lt;have d2:=JZ.went.c2;have dl:=JZ.went.lt;clear hc3;cases hb:q.both with
   |false=>
    rw[hb]at y1;have HE:Hid (iU w W4 z (r.meet i q) r.n):=by
     show iU _ _ _ _ _;rw[HM.out,hb,ae iC];exact HF.out _ _ JZ.went
    clear HM HF Gd JZ
    go_wp2
    first|go_end0|refine aj (ar rfl _ _ _) rfl ?_
    exact⟨rfl,HE.out⟩
   |true=>
    rw[hb]at y1;have hm5:=Gd.out _ JZ;have HE:Hid (∀W,iU W1 W z {r2.change with O:=λx=>if x=i then pP (r2.change.O i) r2.change.K else r2.change.O x} r.n->iU w W z (r.meet i q) r.n):=by
     intro W hw;rw[HM.out,hb,ag rfl];exact HF.out _ _ hw
    clear HM HF Gd JZ;go_wp2_with(fail);refine hm5.mono ?_;rintro e W5 ⟨rfl,G8⟩;have Oz:=HE.out _ G8;clear hm5 G8
    go_wp2
    first|go_end0|refine aj (ar rfl _ _ _) rfl ?_
    exact⟨rfl,Oz⟩
theorem Ge(C:nj)(r:Nat):(xQ C r).length<=7:=uH _ _
theorem EI(z:Zt)(r:iY)(w:eB)(h:lW w z r)(hK:Vl r.K):
 fj fk 64 #[π (μ ⟨z.R,0,ν⟩)] w λe w'=>∃b c,e=ρ (σ b (oX r).length c)/\HsN w w' b (oX r).length (oX r)/\eN w w':=by
 have R0:=h.below (jk w);have rO:r.id=((r.id.toNat:Nat):Int):=by have:=h.id;omega
 have kD:fj fk 110 #[π (μ ⟨z.Bb,0,ν⟩)] w.drew λe w'=>∃a n cap,e=ρ (σ a n cap)/\(∀W,eN w' W->fj fk 116 #[σ a n cap,ι κ r.id] W λe w2=>∃b c,e=ρ (σ b (oX r).length c)/\HsN w w2 b (oX r).length (oX r)/\eN w w2/\(w2.cell? ⟨z.R,0,ν⟩=μ (ι κ r.id)/\w2.cell? ⟨z.R,2,ν⟩=μ (π (μ ⟨z.Bb,0,ν⟩))))/\(w'.cell? ⟨z.R,0,ν⟩=μ (ι κ r.id)/\w'.cell? ⟨z.R,2,ν⟩=μ (π (μ ⟨z.Bb,0,ν⟩))):=by
  refine(IB z.Bb z.fm 6 r.K r.O w.drew R0.bs).mono ?_;rintro e w1 ⟨a,n,cap,S,E,rfl,hS,hL,h6,_,b1⟩;have R1:=R0.below b1;refine⟨a,n,cap,rfl,λW hW=> ?_,R1.c0,R1.c2⟩;have hh:=QV a n cap S E r.id.toNat W (hS.below hW) eE hL.ok (by have:=h.id;omega) (by have:=h.id;omega);rw[<-rO]at hh;rw[wB.grid hL hK]at hh;refine hh.mono ?_;rintro e w2 ⟨b,c,rfl,hH,b2⟩;have R2:=(R1.below hW).below b2;exact⟨b,c,rfl,⟨hH.r,λx e=>Nat.le_trans (iA (iA (jk w) b1) hW).size (hH.nw x e)⟩,iA (iA (iA (jk w) b1) hW) b2,R2.c0,R2.c2⟩
 have F0:=And.intro R0.c0 R0.c2;generalize oX r=L at kD⊢;generalize z.R=RR at kD F0⊢;generalize z.Bb=Bb at kD F0;generalize r.id=id at kD F0;clear h R0 rO;have F0:w.drew.cell? ⟨RR,0,ν⟩=μ (ι κ id)/\w.drew.cell? ⟨RR,2,ν⟩=μ (π (μ ⟨Bb,0,ν⟩)):=F0
 go_in
 go_wp2
 go_region_held3(λx=>x.cell? ⟨RR,0,ν⟩=μ (ι κ id)/\x.cell? ⟨RR,2,ν⟩=μ (π (μ ⟨Bb,0,ν⟩)))
  (first|assumption|exact F0|exact F1|exact F2)
  (first
   |(go_at_call 110;refine kD.mono ?_;rintro e w1 ⟨a,n,cap,rfl,hh,F1⟩)
   |(go_at_call 116;refine(hh _ (au _ _)).mono ?_;rintro e w2 ⟨b,c,rfl,hH,b2,F2⟩))
 all_goals
  have HH:Hid _:=hH;clear kD hh F0 F1 F2 hH
  go_wp2
  go_ret
  first|exact⟨b,c,rfl,HH.out,b2⟩|exact⟨b,⟨c,rfl,HH.out,b2⟩⟩
def Vr(r:iY)(t h:Int):Option Nat:=if 1<=h then(yR (oX r) t).bind λx=>kd r.P x.uf r.n else ν
def rB(F:Int->Option PS)(j m:Nat):List (Int×PS):=(List.range' j m).filterMap λ(j:Nat)=>(F ((j:Int)+1)).map λq=>((j:Int)+1,q)
theorem K7(F:Int->Option PS):mN F=rB F 0 6:=by unfold mN rB;rw[dk]
theorem sC {F:Int->Option PS} {n:Nat} {S:Nat->SV} {E:Nat->List j2} (h:wB F n S E):∀(m j k:Nat),j+m=6->k<=n->(∀i,i<k->(S i).own<=j)->(∀i,k<=i->i<n->(j:Int)<(S i).own)->rB F j m=(List.range' k (n-k)).map λi=>((S i).own,((S i).seq,E i))
 |0,j,k,hj,hk,h1,h2=>by
  have:n-k=0:=by
   by_cases e:k<n
   ·have h3:=h2 k (Nat.le_refl _) e;have h4:=(jT (h.ok k e)).1;omega
   ·omega
  rw[this];rfl
 |m+1,j,k,hj,hk,h1,h2=>by
  have e:rB F j (m+1)=(match F ((j:Int)+1)with|none=>rB F (j+1) m|some q=>((j:Int)+1,q)::rB F (j+1) m):=by
   unfold rB;rw[dN,cO];cases F ((j:Int)+1)<;>simp
  rw[e];cases hF:F ((j:Int)+1)with
  |none=>
   simp only;refine sC h m (j+1) k eE hk (λi hi=>by have:=h1 i hi;omega) (λi h3 h4=> ?_);have h5:=h2 i h3 h4;have h6:(S i).own≠(j:Int)+1:=λe=>by
    have:=(h.at_ i h4).2;rw[e,hF]at this;cases this
   omega
  |some q=>
   simp only;obtain⟨i,hi,ho⟩:=h.all ((j:Int)+1) ⟨eE,eE⟩ (by rw[hF];rfl);have hki:k<=i:=by
    by_cases e:i<k
    ·have:=h1 i e;omega
    ·omega
   have hik:i=k:=by
    by_cases e:i=k
    ·exact e
    ·have h3:=h.P8 k i eE hi;have h4:=h2 k (Nat.le_refl _) eE;omega
   subst hik;have hq:=(h.at_ i hi).2;rw[ho,hF]at hq;have QW:=Option.some.inj hq;have en:n-i=(n-(i+1))+1:=eE;rw[en,dN,List.map_cons,ho,<-QW];congr 1;refine sC h m (j+1) (i+1) eE eE (λx hx=> ?_) (λx h3 h4=> ?_)
   ·by_cases e:x=i
    ·subst e;omega
    ·have:=h1 x eE;omega
   ·have:=h.P8 i x eE h4;omega
theorem OA {F:Int->Option PS} {S:Nat->SV} {E:Nat->List j2} (h:wB F n S E):mN F=(List.range n).map λi=>((S i).own,((S i).seq,E i)):=by
 rw[K7,sC h 6 0 0 rfl (Nat.zero_le _) (λi hi=>eE) (λi _ hi=>by have:=(jT (h.ok i hi)).1;omega),dk];rfl
theorem Sh(B:Nat)(m:FM)(k:Nat)(K:Int->Option PS)(O:Nat->Int->Option PS)(p:Nat)(w:eB)(h:BR w B m k K O)(hp:p<m.bs.length):
 fj fk 151 #[π (μ ⟨B,0,ν⟩),ι κ (p:Int)] w λe w'=>∃a n cap S E,e=ρ (σ a n cap)/\yO w' a n S E/\wB (O p) n S E/\n<=6/\(∀j,eF (σ a n cap)=μ j->w.heap.size<j)/\(∀i,i<n->∀j,eF (σ (S i).a (S i).n (S i).cap)=μ j->w.heap.size<j)/\eN w w':=by
 obtain⟨kn,ow,hF,hT,hO⟩:=h.ex;refine(RD B m k kn ow (mK (O p)) p w hF hp (hO p hp).fine).mono ?_;rintro e w1 ⟨v,ts,rfl,hR⟩;obtain⟨a,cap,rfl,h1,h2,h3,h4⟩:=hR.lists (hO p hp);refine⟨a,ts.length,cap,_,_,rfl,h1,h2,h3,h4,λi hi j hj=> ?_,hR.nU⟩;have hm:ts.getD i SV.zero∈ts:=by
  have:ts.getD i SV.zero=ts[i] :=by simp[List.getD,hi]
  rw[this];exact aE hi
 exact((hR.el _ hm).new j hj).1
theorem Ae:∀(l:List (Int×PS)) (p:jF) (q:Int×PS),p.kA (l++ [q])=(p.kA l).put 83 (sj q.1 q.2.1 q.2.2)
 |[],_,_=>rfl
 |x::l,p,q=>by
  show(p.put 83 (sj x.1 x.2.1 x.2.2)).kA (l++ [q])=((p.put 83 (sj x.1 x.2.1 x.2.2)).kA l).put _ _;exact Ae l _ q
theorem xm:∀(l:List (Int×PS)) (p:jF),(p.kA l).out.length<=p.out.length+126*l.length
 |[],p=>by simp[jF.kA]
 |x::l,p=>by
  have h1:=xm l (p.put 83 (sj x.1 x.2.1 x.2.2));have h2:=vO p 83 (sj x.1 x.2.1 x.2.2);have e:p.kA (x::l)=(p.put 83 (sj x.1 x.2.1 x.2.2)).kA l:=rfl;rw[e,de];omega
theorem qG(p:jF)(c:UInt8)(s:List UInt8):(p.put c s).pe=p.pe:=by
 unfold jF.put;split
 ·rfl
 ·split<;>rfl
theorem zj(r:iY)(i:Nat)(p q:jF):(r.jd i p).jd i q=r.jd i q:=by
 have:k8 (k8 r.P i p) i q=k8 r.P i q:=by
  funext x
  unfold k8;by_cases e:x=i
  ·simp[e]
  ·simp[e]
 show({r with P:=k8 (k8 r.P i p) i q}:iY)={r with P:=k8 r.P i q}
 rw[this]
def lE(r:iY)(i:Nat):iY:=
 let p:=(r.P i).put 72 [j8 r.id,j8 (r.P i).pe.who]
 r.jd i (if(r.P i).pe.both=true then p.kA (mN (r.O i))else p)
theorem jm.went {w w':eB} {z:Zt} {r r0:iY} (h:iU w w' z r n)(hR:lW w z r0) {a:Option Addr} {m cap:Nat} {es:List j2} (ho:jm w a m es)(hm:∀j,eF (σ a m cap)=μ j->¬z.mine n j):jm w' a m es:=by
 refine⟨ho.1,?_⟩;rcases ho.2 with h2|⟨b,off,rfl,h2⟩
 ·exact .inl h2
 ·exact .inr ⟨b,off,rfl,λj hj=>⟨h.cell hR (p:=⟨b,_,ν⟩) (hm b rfl) (h2 j hj).1,h.cell hR (p:=⟨b,_,ν⟩) (hm b rfl) (h2 j hj).2⟩⟩
theorem yO.went {w w':eB} {z:Zt} {r r0:iY} {n:Nat} (h:iU w w' z r n)(hR:lW w z r0) {a:Option Addr} {m cap:Nat} {S:Nat->SV} {E:Nat->List j2} (hs:yO w a m S E)(h1:∀j,eF (σ a m cap)=μ j->¬z.mine n j)(h2:∀i,i<m->∀j,eF (σ (S i).a (S i).n (S i).cap)=μ j->¬z.mine n j):yO w' a m S E:=by
 refine⟨?_,λj hj=>⟨jm.went h hR (hs.opt j hj).1 (h2 j hj),(hs.opt j hj).2⟩⟩;rcases hs.row with h3|⟨b,off,rfl,h3⟩
 ·exact .inl h3
 ·refine .inr ⟨b,off,rfl,λj hj=> ?_⟩;obtain⟨c1,c2,c3⟩:=h3 j hj;exact⟨h.cell hR (p:=⟨b,_,ν⟩) (h1 b rfl) c1,h.cell hR (p:=⟨b,_,ν⟩) (h1 b rfl) c2,h.cell hR (p:=⟨b,_,ν⟩) (h1 b rfl) c3⟩
theorem Si(z:Zt)(r:iY)(i:Nat)(w:eB)(h:lW w z r)(jb:lp r)(hi:i<r.n)(uq:(r.P i).out.length<=700000000):
 fj fk 85 #[π (μ ⟨z.R,0,ν⟩),ι κ (i:Int)] w λe w'=>e=ρ (τ #[])/\iU w w' z (lE r i) r.n:=by
 have lO:(i:Int)<(r.n:Int):=eE;have NR:(0:Int)<=(i:Int):=eE;obtain⟨p,hp⟩:=gH (r.P i);rw[hp]at uq;have wm:Hid (∀W,eN w W->W.cell? ⟨z.R,0,ν⟩=μ (.int .i64 r.id)/\W.cell? ⟨z.g,i*71+67,ν⟩=μ (.int .i64 p.pe.who)/\W.cell? ⟨z.g,i*71+67+1,ν⟩=μ (.bool p.pe.both)/\W.cell? ⟨z.g,i*71+67+2,ν⟩=μ (.int .i64 p.pe.left)):=by
  intro W hW;have R:=h.below hW;rw[<-hp];exact⟨R.c0,(R.pt i hi).c67,(R.pt i hi).Xa,(R.pt i hi).c69⟩
 have vK:=jb.pe i hi;rw[hp]at vK;have ab3:∀W,eN w W->fj fk 149 #[.agg #[.int .i64 p.pe.who,.bool p.pe.both,.int .i64 p.pe.left],.int .i64 r.id] W λe w'=>e=ρ (.agg #[.int .i64 r.id,.int .i64 p.pe.who])/\eN w w'/\(w'.cell? ⟨z.R,0,ν⟩=μ (.int .i64 r.id)/\w'.cell? ⟨z.g,i*71+67,ν⟩=μ (.int .i64 p.pe.who)/\w'.cell? ⟨z.g,i*71+67+1,ν⟩=μ (.bool p.pe.both)/\w'.cell? ⟨z.g,i*71+67+2,ν⟩=μ (.int .i64 p.pe.left)):=by
  intro W hW;refine(RG p.pe.who p.pe.left r.id p.pe.both W).mono ?_;rintro e w1 ⟨rfl,b1⟩;exact⟨rfl,iA hW b1,wm.out _ (iA hW b1)⟩
 have ab4:∀W,eN w W->fj fk 148 #[.agg #[.int .i64 r.id,.int .i64 p.pe.who]] W λe w'=>e=ρ (τ #[.string ⟨#[u8 r.id,u8 p.pe.who]⟩,η])/\eN w w'/\(w'.cell? ⟨z.R,0,ν⟩=μ (.int .i64 r.id)/\w'.cell? ⟨z.g,i*71+67,ν⟩=μ (.int .i64 p.pe.who)/\w'.cell? ⟨z.g,i*71+67+1,ν⟩=μ (.bool p.pe.both)/\w'.cell? ⟨z.g,i*71+67+2,ν⟩=μ (.int .i64 p.pe.left)):=by
  intro W hW;have h1:=jb.id;have h2:=vK.who;refine(Ix r.id p.pe.who W h1.1 h1.2 h2.1 h2.2 (by simp[ur];omega)).mono ?_;rintro e w1 ⟨rfl,b1⟩;exact⟨rfl,iA hW b1,wm.out _ (iA hW b1)⟩
 obtain⟨p1,DK⟩:=gH (p.put 72 [j8 r.id,j8 p.pe.who]);have Bh:p1.out.length<=700000126:=by
  rw[<-DK];have:=vO p 72 [j8 r.id,j8 p.pe.who];omega
 have Il:p1.pe=p.pe:=by rw[<-DK];exact qG _ _ _
 obtain⟨r1,kU⟩:=gH (r.jd i p1);have mM:r1.n=r.n:=by rw[<-kU];rfl
 have WE:r1.P i=p1:=by rw[<-kU];exact jz _ _ _
 have hO1:r1.O=r.O:=by rw[<-kU];rfl
 have nQ:Hid (∀W,eN w W->fj fk 150 #[π (μ ⟨z.g,i*71,ν⟩),.string ⟨#[72]⟩,.string ⟨#[u8 r.id,u8 p.pe.who]⟩] W λe w'=>e=ρ (τ #[])/\iU w w' z r1 r.n):=by
  intro W hW;have R:=h.below hW;have Ad:=R.pt i hi;rw[hp]at Ad;refine(Bg z.g (i*71) (z.B i) (z.v i) p ⟨#[72]⟩ ⟨#[u8 r.id,u8 p.pe.who]⟩ 72 W Ad rfl (by show 2<=1000;omega) eE).mono ?_;rintro e w1 ⟨rfl,hw⟩;have sT:lz W w1 z.g (i*71) (z.B i) (z.v i) p1:=by rw[<-DK];exact hw
  rw[<-kU];exact⟨rfl,iU.first h rfl hW (λ_=>R.port hi sT)⟩
 have hE:lE r i=r.jd i (if p.pe.both=true then p1.kA (mN (r.O i))else p1):=by
  unfold lE;rw[hp];simp only[DK]
 have Sj:Hid (p.pe.both=false->lE r i=r1):=by
  intro e;rw[hE,ae (by simp[e]),kU]
 have Xg:Hid (p.pe.both=true->lE r i=r1.jd i (p1.kA (mN (r.O i)))):=by
  intro e;rw[hE,ag e,<-kU];exact(zj r i p1 _).symm
 have b0:=jk w;have R0:=h.below b0;have c1:=h.c1;have cl:=h.lt;have gl0:=h.G6;have F0:w.drew.cell? ⟨z.R,0,ν⟩=μ (.int .i64 r.id)/\w.drew.cell? ⟨z.g,i*71+67,ν⟩=μ (.int .i64 p.pe.who)/\w.drew.cell? ⟨z.g,i*71+67+1,ν⟩=μ (.bool p.pe.both)/\w.drew.cell? ⟨z.g,i*71+67+2,ν⟩=μ (.int .i64 p.pe.left):=wm.out _ b0;have HR:Hid _:=h;clear h jb vK R0 hE hp
 go_in
 go_wp2
 go_region_held3(λx=>x.cell? ⟨z.R,0,ν⟩=μ (.int .i64 r.id)/\x.cell? ⟨z.g,i*71+67,ν⟩=μ (.int .i64 p.pe.who)/\x.cell? ⟨z.g,i*71+67+1,ν⟩=μ (.bool p.pe.both)/\x.cell? ⟨z.g,i*71+67+2,ν⟩=μ (.int .i64 p.pe.left))
  (first|assumption|exact F0|exact F1|exact F2)
  (first
   |(go_at_call 149;refine(ab3 _ b0).mono ?_;rintro e w1 ⟨rfl,b1,F1⟩)
   |(go_at_call 148;refine(ab4 _ b1).mono ?_;rintro e w2 ⟨rfl,b2,F2⟩))
 all_goals
  have Ad:=nQ.out _ b2;clear ab3 ab4 nQ wm F0 F1 F2 c1 cl gl0;go_wp2_with(fail);refine Ad.mono ?_;rintro e W4 ⟨rfl,tR⟩;obtain⟨v4,hv4⟩:=tR.pt (i:=i) (by rw[mM];exact hi);have g8:W4.cell? ⟨z.g,i*71+67+1,ν⟩=μ (.bool p.pe.both):=by
   have:=hv4.Xa;rw[WE,Il]at this;exact this
  have gl:=tR.G6;have k2:=tR.c2;have kl:=tR.lt;clear Ad hv4 b1 b2;cases hb:p.pe.both with
  |false=>
   rw[hb]at g8;have HW:Hid (iU w W4 z (lE r i) r.n):=by show iU _ _ _ _ _;rw[Sj.out hb];exact tR
   clear tR Sj Xg
   go_wp2
   first|go_end0|refine aj (ar rfl _ _ _) rfl ?_
   exact⟨rfl,HW.out⟩
  |true=>
   rw[hb]at g8;have HE:=Xg.out hb;obtain⟨z4,R4,hl4,EJ,ab5⟩:=tR.ex;have how:=Sh z4.Bb z4.fm 6 r1.K r1.O i W4 R4.bs (by rw[R4.bl,mM];exact hi);rw[hl4.Bb]at how;have HF:Hid (∀W,iU W4 W z4 (lE r i) r.n->iU w W z (lE r i) r.n):=λW hw=>tR.pF R4 hl4 EJ ab5 hw;have YG:Hid _:=R4;have HEq:Hid _:=HE;clear tR HE Sj Xg R4 EJ ab5;go_wp2_with(fail);refine how.mono ?_;rintro e W5 ⟨a,m,cap,S,E,rfl,hS,hL,h6,jw,Xh,b5⟩;have UT:=OA hL;rw[hO1]at UT;have R5:=YG.out.below b5;have vY:∀j,eF (σ a m cap)=μ j->¬z4.mine r.n j:=λj hj=>by
    have:=YG.out.sY (Nat.le_of_lt (jw j hj))
    rwa [mM]at this
   have yH:∀x,x<m->∀j,eF (σ (S x).a (S x).n (S x).cap)=μ j->¬z4.mine r.n j:=λx hx j hj=>by
    have:=YG.out.sY (Nat.le_of_lt (Xh x hx j hj))
    rwa [mM]at this
   have WG:Hid (∀wr rr,iU W5 wr z4 rr r.n->yO wr a m S E):=λwr rr hw=>yO.went (cap:=cap) hw R5 hS vY yH;have agk:Hid (∀x,x<m->pj (S x).own (S x).seq (E x)=0):=hL.ok;have agl:Hid (∀k,k<m->(mN (r.O i)).take (k+1)=(mN (r.O i)).take k++ [((S k).own,((S k).seq,E k))]):=by
    intro k hk;have hlen:k<(mN (r.O i)).length:=by rw[UT];simpa using hk
    rw[ax hlen];congr 2;simp[UT]
   have agm:Hid ((mN (r.O i)).length=m):=by show _=_;rw[UT];simp
   have HF5:Hid (∀W,iU W5 W z4 (lE r i) r.n->iU w W z (lE r i) r.n):=λW hw=>HF.out W (iU.first YG.out mM b5 (λ_=>hw));have H0:Hid (iU W5 W5 z4 (r1.jd i (p1.kA ((mN (r.O i)).take 0))) r.n):=by
    show iU _ _ _ _ _;have e:r1.jd i (p1.kA ((mN (r.O i)).take 0))=r1:=by
     show r1.jd i p1=r1;rw[<-kU,zj]
    rw[e,<-mM];exact iU.refl R5
   have hG4:z4.g=z.g:=hl4.g;have HG4:Hid _:=hG4;clear how hS hL jw Xh UT R5 vY yH HF hG4 b5 YG hl4 k2 kl g8 gl
   go_wp2
   go_loopw [46] (λx wr=>∃k:Nat,k<=m/\x=ι κ k/\iU W5 wr z4 (r1.jd i (p1.kA ((mN (r.O i)).take k))) r.n) (λx _=>m-(intOf x).toNat)
   case atStart=>exact⟨0,Nat.zero_le _,rfl,H0.out⟩
   case round=>
    obtain⟨k,hk,rfl,hwk⟩:=hrel;by_cases kH:k<m
    ·have nG:(k:Int)<(m:Int):=eE;have Ht:(0:Int)<=(k:Int):=eE;have SR:=WG.out _ _ hwk;rcases SR.row with h0|⟨b,off,rfl,ji⟩
     ·omega
     obtain⟨x0,x1,x2⟩:=ji k kH;have hop:=(SR.opt k kH).1;have kD:=agk.out k kH;have RV:=agl.out k kH;have xl:=af _ _ x0;have ba:=iB wr (γ #[ι κ (S k).own,ι κ (S k).seq,σ (S k).a (S k).n (S k).cap] 40);have hwa:=hwk.below (by show r1.n=r.n;exact mM) ba;obtain⟨pk,Om⟩:=gH (p1.kA ((mN (r.O i)).take k));have qN:pk.out.length<=800000000:=by
      rw[<-Om];have h1:=xm ((mN (r.O i)).take k) p1;have h2:((mN (r.O i)).take k).length<=k:=cr _ _;omega
     have tJ:fj fk 152 #[π (μ ⟨z.g,i*71,ν⟩),.string ⟨#[83]⟩,.agg #[ι κ (S k).own,ι κ (S k).seq,σ (S k).a (S k).n (S k).cap]] (wr.alloc (γ #[ι κ (S k).own,ι κ (S k).seq,σ (S k).a (S k).n (S k).cap] 40)) λe w'=>e=ρ (τ #[])/\iU W5 w' z4 (r1.jd i (p1.kA ((mN (r.O i)).take (k+1)))) r.n:=by
      rw[RV,Ae];rw[Om]at hwa⊢;refine hwa.call λz1 R1 hl=> ?_;have uD:i<(r1.jd i pk).n:=by show i<r1.n;rw[mM];exact hi
      have ab6:=R1.pt i uD;have hPk:(r1.jd i pk).P i=pk:=jz _ _ _;rw[hPk]at ab6;rw[<-HG4.out,<-hl.g];refine(wE ⟨#[83]⟩ 83 (S k).own (S k).seq (S k).a (S k).n (S k).cap (E k) z1.g (i*71) (z1.B i) (z1.v i) pk _ ab6 rfl (hop.below ba) kD qN).mono ?_;rintro e w6 ⟨rfl,Oz⟩;have h7:=R1.port uD Oz;rw[zj]at h7;exact⟨rfl,by rw[show r.n=(r1.jd i pk).n from mM.symm];exact h7⟩
     clear SR ji hop kD RV hwa hwk Om qN ba;go_wp2_with(fail);refine tJ.mono ?_;rintro e w6 ⟨rfl,Oz⟩;have HW6:Hid _:=Oz;clear tJ Oz
     go_wp2
     go_roundw
     case rel=>exact⟨k+1,eE,by go_num,HW6.out⟩
     case measure=>simp[intOf];omega
    ·have yG:¬(k:Int)<(m:Int):=eE;have HW:Hid (iU w wr z (lE r i) r.n):=by
      show iU _ _ _ _ _;refine HF5.out _ ?_;rw[HEq.out];have e1:(mN (r.O i)).take k=mN (r.O i):=aK (by have:=agm.out;omega);rw[e1]at hwk;exact hwk
     clear hwk
     go_wp2
     first|go_end0|refine aj (ar rfl _ _ _) rfl ?_
     exact⟨rfl,HW.out⟩
theorem qZ {l:List UInt8} {own seq:Int} {os:List j2} (h:iT l=(own,seq,os,0)):pj own seq os=0:=by
 unfold iT at h;split at h
 ·simp at h
 ·split at h
  ·rename_i h2
   simp only[Prod.mk.injEq,and_true]at h;obtain⟨rfl,rfl,rfl⟩:=h;exact h2
  ·simp at h
theorem K8(z:Zt)(r:iY)(i:Nat)(own seq:Int)(a:Option Addr)(n cap:Nat)(es:List j2)(w:eB)(h:lW w z r)(hi:i<r.n)(ho:jm w a n es)(hf:pj own seq es=0):
 fj fk 191 #[π (μ ⟨z.Bb,0,ν⟩),ι κ (i:Int),.agg #[ι κ own,ι κ seq,σ a n cap]] w λe w'=>e=ρ η/\iU w w' z {r with O:=λx=>if x=i/\0<=newF r.K own seq es then zc (r.O i) own else r.O x} r.n:=by
 refine(KO z.Bb z.fm 6 r.K r.O i own seq a n cap es w h.bs (qY (by have:=(jT hf).1;omega)) (by rw[h.bl];exact hi) ho hf (λ_=>BJ _ _ _ _)).mono ?_;rintro e w1 ⟨rfl,hB,hk⟩;exact⟨rfl,h.base hB hk⟩
def kO(r:iY)(i:Nat)(l:List UInt8):iY:=
 let q:=St.iT l
 if q.2.2.2=0 then {r with O:=λx=>if x=i/\0<=newF r.K q.1 q.2.1 q.2.2.1 then zc (r.O i) q.1 else r.O x}else r
theorem DZ(s:ByteArray)(z:Zt)(r:iY)(i:Nat)(w:eB)(h:lW w z r)(hi:i<r.n)(hs:s.size<=1000):
 fj fk 136 #[π (μ ⟨z.R,0,ν⟩),ι κ (i:Int),.string s] w λe w'=>e=ρ (τ #[])/\iU w w' z (kO r i s.data.toList) r.n:=by
 have hp:=Ci s w (by unfold maxLen;omega);have HR:Hid _:=h;clear h
 go_in
 go_wp2_with(fail);refine hp.mono ?_;rintro e w1 ⟨a,n,cap,f,own,seq,os,rfl,ho,hle,hR,b1,kj⟩;clear hp;by_cases hf:f=0
 ·subst hf;have e0:jy 0=η:=rfl;rw[e0];have kD:=qZ hR;have hE:kO r i s.data.toList={r with O:=λx=>if x=i/\0<=newF r.K own seq os then zc (r.O i) own else r.O x}:=by
   unfold kO;rw[hR];rfl
  have ba:=iB w1 (γ #[ι κ own,ι κ seq,σ a n cap] 40);have hA:=λj=>aq w1 #[ι κ own,ι κ seq,σ a n cap] 40 (0,0) j;have b2:=iA b1 (iA ba (jk _));have R2:=HR.out.below b2;have hh:=K8 z r i own seq a n cap os _ R2 hi (ho.below (iA ba (jk _))) kD;have hh2:fj fk 191 #[π (μ ⟨z.Bb,0,ν⟩),ι κ (i:Int),.agg #[ι κ own,ι κ seq,σ a n cap]] (w1.alloc (γ #[ι κ own,ι κ seq,σ a n cap] 40)).drew λe w'=>e=ρ η/\iU w w' z (kO r i s.data.toList) r.n:=by
   refine hh.mono ?_;rintro e w3 ⟨rfl,hw⟩;exact⟨rfl,by rw[hE];exact iU.first HR.out rfl b2 (λ_=>hw)⟩
  have c2:=R2.c2;have cl:=R2.lt;obtain⟨W2,nH⟩:=gH (w1.alloc (γ #[ι κ own,ι κ seq,σ a n cap] 40));obtain⟨Z,hZ⟩:=gH (w1.heap.size);rw[nH]at hh2 c2 cl;have d0:W2.drew.cell? ⟨Z,0,ν⟩=μ (ι κ own):=by rw[<-nH,<-hZ];exact hA 0
  have d1:W2.drew.cell? ⟨Z,1,ν⟩=μ (ι κ seq):=by rw[<-nH,<-hZ];exact hA 1
  have d2:W2.drew.cell? ⟨Z,2,ν⟩=μ (σ a n cap):=by rw[<-nH,<-hZ];exact hA 2
  have zl:Z<W2.drew.heap.size:=af _ _ d0;obtain⟨T,hT⟩:∃T:eB->Prop,(λx=>iU w x z (kO r i s.data.toList) r.n)=T:=⟨_,rfl⟩
  have IW:∀x,iU w x z (kO r i s.data.toList) r.n=T x:=λx=>ch hT x;simp only[IW]at hh2;have HT:Hid _:=IW;clear hh hA ba b2 R2 ho hR kD hE hle kj b1 hT IW;go_wp2_with(fail)
  try rw[nH]
  try rw[hZ]
  clear nH hZ
  go_region_with(go_at_call 191;refine hh2.mono ?_;rintro e w3 ⟨rfl,hW⟩)
  all_goals
   clear hh2
   go_wp2
   first|go_end0|refine aj (ar rfl _ _ _) rfl ?_
   exact⟨rfl,by rw[HT.out];exact hW⟩
 ·have ee:jy f=.iface 128 (ι κ (f:Int)):=by simp only[jy];rw[ae hf]
  rw[ee];have hE:kO r i s.data.toList=r:=by
   unfold kO;rw[hR];simp only;rw[ae hf]
  have HW:Hid (iU w (w1.alloc (γ #[ι κ own,ι κ seq,σ a n cap] 40)) z (kO r i s.data.toList) r.n):=by
   show iU _ _ _ _ _;rw[hE];exact iU.still HR.out (iA b1 (iB _ _))
  clear hR ho hf ee hE
  go_wp2
  first|go_end0|refine aj (ar rfl _ _ _) rfl ?_
  exact⟨rfl,HW.out⟩
end Rt
end Go.Proofs.YtieklnlbljejdaaGreatDoor
