/-
  THE STATEMENT 'Rows.TopAnewCardSaid': who begins anew knows just itself; behind some rounds it knows all that it knew
  Conditions: none but the form's own; the listed table of package auto is tied to the program's text by the given tie. The card's tie speaks of the pruned copy of the project (the seat's page says so).
-/
import Derived.Test.YtieklnlbljejdaaGreatDoorW17
import Derived.Test.YtieklnlbljejdaaGreatDoorCards
import Derived.Test.YtieklnlbljejdaaGreatDoorTie
import Derived.ProofKit
import Derived.ShutString
import Derived.OpenShut
import Derived.ChangeOld
import Derived.Below
import Derived.Deep.DeepHandedRow
import Derived.Lib.LaidTab
set_option maxRecDepth 100000
set_option maxHeartbeats 8000000
namespace Go.Proofs.YtieklnlbljejdaaGreatDoor.topAnew
open Go.ChangeShapes Go.WideShapes Go.ChangeAt Go.RowKit
open Go.ChangeMaps (open_string shut_string)
theorem own:ownKnob Tryz.prog.godebug=none:=by kernel_rfl
theorem laidOut:laidOutB Tryz.prog=true:=by kernel_rfl
theorem aeo(W:World)(hL:laidMet Tryz.prog Rows.topAnewRow.laid W):jh W:=by
 have h := IZ (P := Tryz.prog) (name := "towpath/auto.steps") (zs := CP) (g := 0) (m := 12) (n := 10) (by kernel_rfl) rfl Tryz.underlying318 Tryz.underlying317 Tryz.underlying9 (by kernel_rfl) (by kernel_rfl) (by kernel_rfl) (rest := []) hL
 intro e s he hs;have h1:CP[e]? =some (CP.getD e []):=by
  rw[List.getD_eq_getElem?_getD,List.getElem?_eq_getElem (show e<CP.length by simpa[CP]using he)];rfl
 have hlen:(CP.getD e []).length=10:=(show∀e,e<12->(CP.getD e []).length=10 by decide+kernel) e he;have h2:(CP.getD e [])[s]? =some (oW s e):=by
  unfold oW;rw[List.getD_eq_getElem?_getD (l:=CP.getD e []),List.getElem?_eq_getElem (show s<(CP.getD e []).length by omega)];rfl
 exact h e _ s _ h1 h2 hs
theorem contract(H:Type)(enc:TypeId×Value->H)(W:World)(base:Nat)(args:Array Value)(ds gs:List (DataW H))(before:List MemPlace)
 (hval0:∀(j:Nat) t v,Tryz.f13.params[j]? =some t->args[j]? =some v->Value.okWide Tryz.prog W .any base t v)
 (hW:DataW.Whole enc Tryz.prog Tryz.f13.params.toList Rows.topAnewSpec.vars false W args.toList ds gs before) (hL:laidMet Tryz.prog Rows.topAnewRow.laid W):
 Calls Tryz.prog 13 args W λe W'=>∃v,e=.returned v/\Rows.topAnewSpec.post enc Tryz.prog Tryz.f13 false true false false W args v W':=by
 have hval:∀(j:Nat) t v,Tryz.f13.params[j]? =some t->args[j]? =some v->Value.okWide Tryz.prog W .any base t v:=hval0;have hW':=hW;obtain⟨p,q,hA0,hV,rfl,hfz,hnd⟩:=hW;have hA:DataW.TrodAll enc Tryz.prog W 0 (λ_=>true) true Tryz.f13.params.toList args.toList ds p:=hA0;rw[Tryz.params13]at hA hval;obtain⟨v0,vs0,d0,ds0,p0,q0,hargs,rfl,rfl,h0,r0⟩:=trodAll_cons hA;obtain⟨v1,vs1,d1,ds1,p1,q1,rfl,rfl,rfl,h1,r1⟩:=trodAll_cons r0;obtain⟨v2,vs2,d2,ds2,p2,q2,rfl,rfl,rfl,h2,r2⟩:=trodAll_cons r1;obtain⟨v3,vs3,d3,ds3,p3,q3,rfl,rfl,rfl,h3,r3⟩:=trodAll_cons r2;obtain⟨rfl,rfl,rfl⟩:=trodAll_nil r3;obtain rfl:args= #[v0,v1,v2,v3] :=by cases args;simp_all
 obtain⟨rfl,rfl⟩:=trodVars_none hV;have k0:=h0;have lt0:∀x∈p0,x.block<W.heap.size:=by obtain⟨m,hm⟩:=k0;exact DataW.trod_lt m _ _ _ hm
 have k1:=h1;have lt1:∀x∈p1,x.block<W.heap.size:=by obtain⟨m,hm⟩:=k1;exact DataW.trod_lt m _ _ _ hm
 have k2:=h2;have lt2:∀x∈p2,x.block<W.heap.size:=by obtain⟨m,hm⟩:=k2;exact DataW.trod_lt m _ _ _ hm
 have k3:=h3;have lt3:∀x∈p3,x.block<W.heap.size:=by obtain⟨m,hm⟩:=k3;exact DataW.trod_lt m _ _ _ hm
 obtain⟨a0,rfl,rfl,rfl,w0⟩:=open_int Tryz.underlying3 (hval 0 3 v0 rfl rfl) h0;obtain⟨b1,n1,cap1,rfl⟩:=okWide_slice Tryz.underlying61 (hval 1 61 v1 rfl rfl);obtain⟨L1,o1,l1,m1⟩:=Rt.LZ h1;obtain⟨b2,n2,cap2,rfl⟩:=okWide_slice Tryz.underlying23 (hval 2 23 v2 rfl rfl);obtain⟨V2,E2,o2,m2⟩:=Q8 h2;obtain⟨a3,rfl,rfl,rfl,w3⟩:=open_int Tryz.underlying3 (hval 3 3 v3 rfl rfl) h3;clear hA0 hval0;refine(Rt.Xt a0 b1 n1 cap1 L1 b2 n2 cap2 V2 E2 a3 W o1 l1 m1 o2 (aeo W hL)).mono λe W' ⟨he,nU⟩=> ?_;subst he;exact⟨_,rfl,_,_,_,[],_,[],hW',trodAll_mk1 (shut_bool Tryz.underlying4 _),(trodAll_cons_mk (Below.trod laidOut (by kernel_rfl) (of_decide_eq_true (by kernel_rfl)) k0 nU lt0) (trodAll_cons_mk (Below.trod laidOut (by kernel_rfl) (of_decide_eq_true (by kernel_rfl)) k1 nU lt1) (trodAll_cons_mk (Below.trod laidOut (by kernel_rfl) (of_decide_eq_true (by kernel_rfl)) k2 nU lt2) (trodAll_cons_mk (Below.trod laidOut (by kernel_rfl) (of_decide_eq_true (by kernel_rfl)) k3 nU lt3) trodAll_mk0)))),rfl,nU.frame _,λh=>by cases h⟩
def put:Obj->Obj
 | .cells _ t frozen=>.cells ((CP.flatten.map λz=>Value.string ⟨z.toArray⟩).toArray) t frozen
 |o=>o
noncomputable def BP (os:Os):World:=
 {World.holding Tryz.prog os ⟨#[],#[.int .i64 0,.slice none 0 0,.slice none 0 0,.int .i64 0],[]⟩with heap:=(World.holding Tryz.prog os ⟨#[],#[.int .i64 0,.slice none 0 0,.slice none 0 0,.int .i64 0],[]⟩).heap.modify 0 put}
theorem Xw(os:Os):laidMet Tryz.prog Rows.topAnewRow.laid ((BP os).forCall (λ_ _=>0) ⟨#[],#[.int .i64 0,.slice none 0 0,.slice none 0 0,.int .i64 0],[]⟩).memory:=
 laidMet_of_run' 8 (by kernel_rfl) (by kernel_rfl)
theorem reads(os:Os) {H:Type} (enc:TypeId×Value->H):∃places,DataW.whole enc Tryz.prog ((BP os).forCall (λ_ _=>0) ⟨#[],#[.int .i64 0,.slice none 0 0,.slice none 0 0,.int .i64 0],[]⟩).memory Tryz.f13.params.toList Rows.topAnewSpec.vars false #[.int .i64 0,.slice none 0 0,.slice none 0 0,.int .i64 0].toList 8=some ([.lit (.int .i64 0),.nil,.nil,.lit (.int .i64 0)],[],places):=
 ⟨[],by kernel_rfl⟩
theorem lifted(os:Os)(started:os.Started)(H:Type)(enc:TypeId×Value->H)(F:Stop.Interp):
 ReturnsInHanded {} Tryz.checked os 13 .any ((OpenSpec.ofChange Rows.topAnewSpec).preRow enc Tryz.prog Tryz.f13 Rows.topAnewRow.domain false Rows.topAnewRow.laid) (((OpenSpec.ofChange Rows.topAnewSpec).at F).post enc Tryz.prog Tryz.f13 false true false false):=by
 obtain⟨places,hx⟩:=reads os enc;refine returnsInHanded_of_row (C:=Tryz.checked) (s:=OpenSpec.ofChange Rows.topAnewSpec) own started (by kernel_rfl) Tryz.func13
  (witness_row_at (enc:=enc) (C:=Tryz.checked) false (BP os) #[.int .i64 0,.slice none 0 0,.slice none 0 0,.int .i64 0] rfl (by kernel_rfl) (by kernel_rfl) (by kernel_rfl)
   (OpenSpec.preRow_of_cond 8 hx (by kernel_rfl) (λk hk=>by cases hk) (by kernel_rfl) (Xw os))) ?_
 intro W base args ds gs before hval hW _ _ _ hL _ _;exact contract H enc W base args ds gs before hval hW hL
theorem joined:joinedFacts Tryz.prog 13 Tryz.f13 (OpenSpec.ofChange Rows.topAnewSpec).bare Rows.topAnewRow=true:=by
 unfold joinedFacts;simp only[Bool.and_eq_true]
 repeat' apply And.intro
 all_goals as_aux_lemma=>kernel_rfl
theorem said:Rows.TopAnewSaid:=
 OpenClaim.holds_of_cond 13 Tryz.f13 rfl rfl rfl rfl rfl rfl rfl ⟨rfl,rfl,rfl,rfl,rfl⟩ rfl rfl rfl rfl rfl (by as_aux_lemma=>kernel_rfl) Tryz.func13 joined
  (of_decide_eq_true (by as_aux_lemma=>kernel_rfl)) (by as_aux_lemma=>unfold Func.isWrapper;first|(rw[if_pos (by decide+kernel)];kernel_rfl)|(rw[if_neg (by decide+kernel)];exact⟨rfl,rfl⟩))
  (λos started H enc _ F=>by rw[OpenClaim.pre_eq_preRow];exact lifted os started H enc F)
theorem plain (f : FuncId) (fn : Func) (hf : Tryz.pinned.checked.prog.funcNamed "towpath/towpathtop.TopAnew" = some f) (hfn : Tryz.pinned.checked.prog.funcs[f]? = some fn) :
 true=Tryz.pinned.checked.prog.looks [] /\∀(j:Nat) t,fn.params[j]? =some t->Tryz.pinned.checked.prog.wantsStandIn t=false:=by
 obtain rfl : f = 13 := Option.some.inj ((show Tryz.prog.funcNamed "towpath/towpathtop.TopAnew" = some 13 by kernel_rfl).symm.trans hf) |>.symm
 obtain rfl:fn=Tryz.f13:=(Option.some.inj (Tryz.func13.symm.trans hfn)).symm;refine⟨by kernel_rfl,λj t ht=> ?_⟩;rw[Tryz.params13]at ht;rcases j with _|_|_|_|j
 ·obtain rfl:3=t:=by simpa using ht
  kernel_rfl
 ·obtain rfl:61=t:=by simpa using ht
  kernel_rfl
 ·obtain rfl:23=t:=by simpa using ht
  kernel_rfl
 ·obtain rfl:3=t:=by simpa using ht
  kernel_rfl
 ·simp at ht
theorem card:Rows.TopAnewCardSaid:=
 Claim7.holds_tied_plain_at .later [] _ _ _ _ said (λ_ h=>by cases h) (by kernel_rfl) (λ_ h=>by cases h) topAnew_row_tie rfl ⟨rfl,rfl⟩ (by kernel_rfl) rfl plain (by kernel_rfl)
end Go.Proofs.YtieklnlbljejdaaGreatDoor.topAnew
namespace Go.Proofs.YtieklnlbljejdaaGreatDoor
theorem topAnew_card_holds:Rows.TopAnewCardSaid:=topAnew.card
#print axioms topAnew_card_holds
end Go.Proofs.YtieklnlbljejdaaGreatDoor
