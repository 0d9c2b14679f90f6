/-
  THE STATEMENT 'Rows.TopSameCardSaid': then those who can come to each other know just the same of each other, each what it tells itself
  Conditions: none but the form's own; the listed table of package auto is tied to the program's text by the given tie. The card's tie speaks of the pruned copy of the project (the seat's page says so).
-/
import Derived.Test.YtieklnlbljejdaaGreatDoorS09
import Derived.Test.YtieklnlbljejdaaGreatDoorCards
import Derived.Test.YtieklnlbljejdaaGreatDoorTie
import Derived.ProofKit
import Derived.ShutString
import Derived.OpenShut
import Derived.ChangeOld
import Derived.Below
import Derived.Deep.DeepHandedRow
import Derived.Lib.LaidTab
set_option maxRecDepth 100000
set_option maxHeartbeats 8000000
namespace Go.Proofs.YtieklnlbljejdaaGreatDoor.topSame
open Go.ChangeShapes Go.WideShapes Go.ChangeAt Go.RowKit
open Go.ChangeMaps (open_string shut_string)
theorem own:ownKnob Tryz.prog.godebug=none:=by kernel_rfl
theorem laidOut:laidOutB Tryz.prog=true:=by kernel_rfl
theorem ae1(W:World)(hL:laidMet Tryz.prog Rows.topSameRow.laid W):jt W:=by
 have h := Jb (P := Tryz.prog) (name := "towpath/auto.steps") (zs := C8) (g := 0) (m := 12) (n := 10) (by kernel_rfl) rfl Tryz.underlying318 Tryz.underlying317 Tryz.underlying9 (by kernel_rfl) (by kernel_rfl) (by kernel_rfl) (rest := []) hL
 intro e s he hs;have h1:C8[e]? =some (C8.getD e []):=by
  rw[List.getD_eq_getElem?_getD,List.getElem?_eq_getElem (show e<C8.length by simpa[C8]using he)];rfl
 have hlen:(C8.getD e []).length=10:=(show∀e,e<12->(C8.getD e []).length=10 by decide+kernel) e he;have h2:(C8.getD e [])[s]? =some (pv s e):=by
  unfold pv;rw[List.getD_eq_getElem?_getD (l:=C8.getD e []),List.getElem?_eq_getElem (show s<(C8.getD e []).length by omega)];rfl
 exact h e _ s _ h1 h2 hs
theorem contract(H:Type)(enc:TypeId×Value->H)(W:World)(base:Nat)(args:Array Value)(ds gs:List (DataW H))(before:List MemPlace)
 (hval0:∀(j:Nat) t v,Tryz.f6.params[j]? =some t->args[j]? =some v->Value.okWide Tryz.prog W .any base t v)
 (hW:DataW.Whole enc Tryz.prog Tryz.f6.params.toList Rows.topSameSpec.vars false W args.toList ds gs before) (hL:laidMet Tryz.prog Rows.topSameRow.laid W):
 Calls Tryz.prog 6 args W λe W'=>∃v,e=.returned v/\Rows.topSameSpec.post enc Tryz.prog Tryz.f6 false true false false W args v W':=by
 have hval:∀(j:Nat) t v,Tryz.f6.params[j]? =some t->args[j]? =some v->Value.okWide Tryz.prog W .any base t v:=hval0;have hW':=hW;obtain⟨p,q,hA0,hV,rfl,hfz,hnd⟩:=hW;have hA:DataW.TrodAll enc Tryz.prog W 0 (λ_=>true) true Tryz.f6.params.toList args.toList ds p:=hA0;rw[Tryz.params6]at hA hval;obtain⟨v0,vs0,d0,ds0,p0,q0,hargs,rfl,rfl,h0,r0⟩:=trodAll_cons hA;obtain⟨v1,vs1,d1,ds1,p1,q1,rfl,rfl,rfl,h1,r1⟩:=trodAll_cons r0;obtain⟨v2,vs2,d2,ds2,p2,q2,rfl,rfl,rfl,h2,r2⟩:=trodAll_cons r1;obtain⟨rfl,rfl,rfl⟩:=trodAll_nil r2;obtain rfl:args= #[v0,v1,v2] :=by cases args;simp_all
 obtain⟨rfl,rfl⟩:=trodVars_none hV;have k0:=h0;have lt0:∀x∈p0,x.block<W.heap.size:=by obtain⟨m,hm⟩:=k0;exact DataW.trod_lt m _ _ _ hm
 have k1:=h1;have lt1:∀x∈p1,x.block<W.heap.size:=by obtain⟨m,hm⟩:=k1;exact DataW.trod_lt m _ _ _ hm
 have k2:=h2;have lt2:∀x∈p2,x.block<W.heap.size:=by obtain⟨m,hm⟩:=k2;exact DataW.trod_lt m _ _ _ hm
 obtain⟨a0,rfl,rfl,rfl,w0⟩:=open_int Tryz.underlying3 (hval 0 3 v0 rfl rfl) h0;obtain⟨b1,n1,cap1,rfl⟩:=okWide_slice Tryz.underlying61 (hval 1 61 v1 rfl rfl);obtain⟨L1,o1,l1,m1⟩:=Rt.Mn h1;obtain⟨b2,n2,cap2,rfl⟩:=okWide_slice Tryz.underlying23 (hval 2 23 v2 rfl rfl);obtain⟨V2,E2,o2,m2⟩:=RN h2;clear hA0 hval0;refine(Rt.XM a0 b1 n1 cap1 L1 b2 n2 cap2 V2 E2 W o1 l1 m1 o2 (ae1 W hL)).mono λe W' ⟨he,ox⟩=> ?_;subst he;exact⟨_,rfl,_,_,_,[],_,[],hW',trodAll_mk1 (shut_bool Tryz.underlying4 _),(trodAll_cons_mk (Below.trod laidOut (by kernel_rfl) (of_decide_eq_true (by kernel_rfl)) k0 ox lt0) (trodAll_cons_mk (Below.trod laidOut (by kernel_rfl) (of_decide_eq_true (by kernel_rfl)) k1 ox lt1) (trodAll_cons_mk (Below.trod laidOut (by kernel_rfl) (of_decide_eq_true (by kernel_rfl)) k2 ox lt2) trodAll_mk0))),rfl,ox.frame _,λh=>by cases h⟩
def put:Obj->Obj
 | .cells _ t frozen=>.cells ((C8.flatten.map λz=>Value.string ⟨z.toArray⟩).toArray) t frozen
 |o=>o
noncomputable def Cf (os:Os):World:=
 {World.holding Tryz.prog os ⟨#[],#[.int .i64 0,.slice none 0 0,.slice none 0 0],[]⟩with heap:=(World.holding Tryz.prog os ⟨#[],#[.int .i64 0,.slice none 0 0,.slice none 0 0],[]⟩).heap.modify 0 put}
theorem XV(os:Os):laidMet Tryz.prog Rows.topSameRow.laid ((Cf os).forCall (λ_ _=>0) ⟨#[],#[.int .i64 0,.slice none 0 0,.slice none 0 0],[]⟩).memory:=
 laidMet_of_run' 8 (by kernel_rfl) (by kernel_rfl)
theorem reads(os:Os) {H:Type} (enc:TypeId×Value->H):∃places,DataW.whole enc Tryz.prog ((Cf os).forCall (λ_ _=>0) ⟨#[],#[.int .i64 0,.slice none 0 0,.slice none 0 0],[]⟩).memory Tryz.f6.params.toList Rows.topSameSpec.vars false #[.int .i64 0,.slice none 0 0,.slice none 0 0].toList 8=some ([.lit (.int .i64 0),.nil,.nil],[],places):=
 ⟨[],by kernel_rfl⟩
theorem lifted(os:Os)(started:os.Started)(H:Type)(enc:TypeId×Value->H)(F:Stop.Interp):
 ReturnsInHanded {} Tryz.checked os 6 .any ((OpenSpec.ofChange Rows.topSameSpec).preRow enc Tryz.prog Tryz.f6 Rows.topSameRow.domain false Rows.topSameRow.laid) (((OpenSpec.ofChange Rows.topSameSpec).at F).post enc Tryz.prog Tryz.f6 false true false false):=by
 obtain⟨places,hx⟩:=reads os enc;refine returnsInHanded_of_row (C:=Tryz.checked) (s:=OpenSpec.ofChange Rows.topSameSpec) own started (by kernel_rfl) Tryz.func6
  (witness_row_at (enc:=enc) (C:=Tryz.checked) false (Cf os) #[.int .i64 0,.slice none 0 0,.slice none 0 0] rfl (by kernel_rfl) (by kernel_rfl) (by kernel_rfl)
   (OpenSpec.preRow_of_cond 8 hx (by kernel_rfl) (λk hk=>by cases hk) (by kernel_rfl) (XV os))) ?_
 intro W base args ds gs before hval hW _ _ _ hL _ _;exact contract H enc W base args ds gs before hval hW hL
theorem joined:joinedFacts Tryz.prog 6 Tryz.f6 (OpenSpec.ofChange Rows.topSameSpec).bare Rows.topSameRow=true:=by
 unfold joinedFacts;simp only[Bool.and_eq_true]
 repeat' apply And.intro
 all_goals as_aux_lemma=>kernel_rfl
theorem said:Rows.TopSameSaid:=
 OpenClaim.holds_of_cond 6 Tryz.f6 rfl rfl rfl rfl rfl rfl rfl ⟨rfl,rfl,rfl,rfl,rfl⟩ rfl rfl rfl rfl rfl (by as_aux_lemma=>kernel_rfl) Tryz.func6 joined
  (of_decide_eq_true (by as_aux_lemma=>kernel_rfl)) (by as_aux_lemma=>unfold Func.isWrapper;first|(rw[if_pos (by decide+kernel)];kernel_rfl)|(rw[if_neg (by decide+kernel)];exact⟨rfl,rfl⟩))
  (λos started H enc _ F=>by rw[OpenClaim.pre_eq_preRow];exact lifted os started H enc F)
theorem plain (f : FuncId) (fn : Func) (hf : Tryz.pinned.checked.prog.funcNamed "towpath/towpathtop.TopSame" = some f) (hfn : Tryz.pinned.checked.prog.funcs[f]? = some fn) :
 true=Tryz.pinned.checked.prog.looks [] /\∀(j:Nat) t,fn.params[j]? =some t->Tryz.pinned.checked.prog.wantsStandIn t=false:=by
 obtain rfl : f = 6 := Option.some.inj ((show Tryz.prog.funcNamed "towpath/towpathtop.TopSame" = some 6 by kernel_rfl).symm.trans hf) |>.symm
 obtain rfl:fn=Tryz.f6:=(Option.some.inj (Tryz.func6.symm.trans hfn)).symm;refine⟨by kernel_rfl,λj t ht=> ?_⟩;rw[Tryz.params6]at ht;rcases j with _|_|_|j
 ·obtain rfl:3=t:=by simpa using ht
  kernel_rfl
 ·obtain rfl:61=t:=by simpa using ht
  kernel_rfl
 ·obtain rfl:23=t:=by simpa using ht
  kernel_rfl
 ·simp at ht
theorem card:Rows.TopSameCardSaid:=
 Claim7.holds_tied_plain_at .later [] _ _ _ _ said (λ_ h=>by cases h) (by kernel_rfl) (λ_ h=>by cases h) topSame_row_tie rfl ⟨rfl,rfl⟩ (by kernel_rfl) rfl plain (by kernel_rfl)
end Go.Proofs.YtieklnlbljejdaaGreatDoor.topSame
namespace Go.Proofs.YtieklnlbljejdaaGreatDoor
theorem topSame_card_holds:Rows.TopSameCardSaid:=topSame.card
#print axioms topSame_card_holds
end Go.Proofs.YtieklnlbljejdaaGreatDoor
