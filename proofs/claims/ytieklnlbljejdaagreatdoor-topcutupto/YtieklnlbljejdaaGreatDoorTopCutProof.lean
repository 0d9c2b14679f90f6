/-
  THE STATEMENT 'Rows.TopCutUptoCardSaid': a cable is cut: behind some rounds the hops are those of what is left
  Conditions: none but the form's own; the listed table of package auto is tied to the program's text by the given tie. The card's tie speaks of the pruned copy of the project (the seat's page says so).
-/
import Derived.Test.YtieklnlbljejdaaGreatDoorC15
import Derived.Test.YtieklnlbljejdaaGreatDoorCards
import Derived.Test.YtieklnlbljejdaaGreatDoorTie
import Derived.ProofKit
import Derived.ShutString
import Derived.OpenShut
import Derived.ChangeOld
import Derived.Below
import Derived.Deep.DeepHandedRow
import Derived.Lib.LaidTab
set_option maxRecDepth 100000
set_option maxHeartbeats 8000000
namespace Go.Proofs.YtieklnlbljejdaaGreatDoor.topCut
open Go.ChangeShapes Go.WideShapes Go.ChangeAt Go.RowKit
open Go.ChangeMaps (open_string shut_string)
variable {H:Type}
theorem own:ownKnob Tryz.prog.godebug=none:=by kernel_rfl
theorem laidOut:laidOutB Tryz.prog=true:=by kernel_rfl
theorem aek(W:World)(hL:laidMet Tryz.prog Rows.topCutUptoRow.laid W):jf W:=by
 have h := IQ (P := Tryz.prog) (name := "towpath/auto.steps") (zs := CJ) (g := 0) (m := 12) (n := 10) (by kernel_rfl) rfl Tryz.underlying318 Tryz.underlying317 Tryz.underlying9 (by kernel_rfl) (by kernel_rfl) (by kernel_rfl) (rest := []) hL
 intro e s he hs;have h1:CJ[e]? =some (CJ.getD e []):=by
  rw[List.getD_eq_getElem?_getD,List.getElem?_eq_getElem (show e<CJ.length by simpa[CJ]using he)];rfl
 have hlen:(CJ.getD e []).length=10:=(show∀e,e<12->(CJ.getD e []).length=10 by decide+kernel) e he;have h2:(CJ.getD e [])[s]? =some (oR s e):=by
  unfold oR;rw[List.getD_eq_getElem?_getD (l:=CJ.getD e []),List.getElem?_eq_getElem (show s<(CJ.getD e []).length by omega)];rfl
 exact h e _ s _ h1 h2 hs
theorem one_le(d:DataW H):1<=Rows.uptoBulk d:=by
 cases d with
 |lit l=>cases l<;>simp[Rows.uptoBulk]
 |_=>simp[Rows.uptoBulk]
theorem Z6(l:List (DataW H)):l.length<=Rows.uptoBulkAll l:=by
 induction l with
 |nil=>simp[Rows.uptoBulkAll]
 |cons x r ih=>have:=one_le x;simp only[Rows.uptoBulkAll,List.length_cons];omega
theorem Tn {enc:TypeId×Value->H} {W:World} {a:Option Addr} {n cap:Nat} {d d0 d2:DataW H} {ps:List MemPlace}
 (h:DataW.Trod enc Tryz.prog W 0 (λ_=>true) true 61 (.slice a n cap) d ps) (hk:Rows.uptoSmall H ([d0,d,d2] ++ [])=true):n<=1048576:=by
 have hb:Rows.uptoBulkAll ([d0,d,d2] ++ [])<=1048576:=of_decide_eq_true hk;simp only[List.append_nil,Rows.uptoBulkAll]at hb;obtain⟨fuel,hf⟩:=h;rcases Go.Deep.open_slice Tryz.underlying61 hf with⟨hcs,_⟩|⟨x,len,cp,m',n',D,Pl,hcs,_,hl,hm,hmm,hx,_⟩
 ·simp[Value.cells]at hcs;obtain⟨rfl,rfl,rfl⟩:=hcs;exact Nat.zero_le _
 ·simp[Value.cells]at hcs;obtain⟨rfl,rfl,rfl⟩:=hcs;have hd:d=_:=(Prod.ext_iff.1 hx).1;rw[hd]at hb;simp only[Rows.uptoBulk]at hb;have h1:=Z6 ((List.range n).map D);rw[List.length_map,List.length_range]at h1;omega
theorem contract(H:Type)(enc:TypeId×Value->H)(W:World)(base:Nat)(args:Array Value)(ds gs:List (DataW H))(before:List MemPlace)
 (hval0:∀(j:Nat) t v,Tryz.f9.params[j]? =some t->args[j]? =some v->Value.okWide Tryz.prog W .any base t v)
 (hW:DataW.Whole enc Tryz.prog Tryz.f9.params.toList Rows.topCutSpec.vars false W args.toList ds gs before) (hL:laidMet Tryz.prog Rows.topCutUptoRow.laid W) (hk:Rows.uptoSmall H (ds++gs)=true):
 Calls Tryz.prog 9 args W λe W'=>∃v,e=.returned v/\Rows.topCutSpec.post enc Tryz.prog Tryz.f9 false true false false W args v W':=by
 have hval:∀(j:Nat) t v,Tryz.f9.params[j]? =some t->args[j]? =some v->Value.okWide Tryz.prog W .any base t v:=hval0;have hW':=hW;obtain⟨p,q,hA0,hV,rfl,hfz,hnd⟩:=hW;have hA:DataW.TrodAll enc Tryz.prog W 0 (λ_=>true) true Tryz.f9.params.toList args.toList ds p:=hA0;rw[Tryz.params9]at hA hval;obtain⟨v0,vs0,d0,ds0,p0,q0,hargs,rfl,rfl,h0,r0⟩:=trodAll_cons hA;obtain⟨v1,vs1,d1,ds1,p1,q1,rfl,rfl,rfl,h1,r1⟩:=trodAll_cons r0;obtain⟨v2,vs2,d2,ds2,p2,q2,rfl,rfl,rfl,h2,r2⟩:=trodAll_cons r1;obtain⟨rfl,rfl,rfl⟩:=trodAll_nil r2;obtain rfl:args= #[v0,v1,v2] :=by cases args;simp_all
 obtain⟨rfl,rfl⟩:=trodVars_none hV;have k0:=h0;have lt0:∀x∈p0,x.block<W.heap.size:=by obtain⟨m,hm⟩:=k0;exact DataW.trod_lt m _ _ _ hm
 have k1:=h1;have lt1:∀x∈p1,x.block<W.heap.size:=by obtain⟨m,hm⟩:=k1;exact DataW.trod_lt m _ _ _ hm
 have k2:=h2;have lt2:∀x∈p2,x.block<W.heap.size:=by obtain⟨m,hm⟩:=k2;exact DataW.trod_lt m _ _ _ hm
 obtain⟨a0,rfl,rfl,rfl,w0⟩:=open_int Tryz.underlying3 (hval 0 3 v0 rfl rfl) h0;obtain⟨b1,n1,cap1,rfl⟩:=okWide_slice Tryz.underlying61 (hval 1 61 v1 rfl rfl);obtain⟨L1,o1,l1,m1⟩:=Rt.LY h1;obtain⟨a2,rfl,rfl,rfl,w2⟩:=open_int Tryz.underlying3 (hval 2 3 v2 rfl rfl) h2;clear hA0 hval0;refine(Rt.Z5 a0 b1 n1 cap1 L1 a2 W o1 l1 (Tn h1 hk) (aek W hL)).mono λe W' ⟨he,nQ⟩=> ?_;subst he;exact⟨_,rfl,_,_,_,[],_,[],hW',trodAll_mk1 (shut_bool Tryz.underlying4 _),(trodAll_cons_mk (Below.trod laidOut (by kernel_rfl) (of_decide_eq_true (by kernel_rfl)) k0 nQ lt0) (trodAll_cons_mk (Below.trod laidOut (by kernel_rfl) (of_decide_eq_true (by kernel_rfl)) k1 nQ lt1) (trodAll_cons_mk (Below.trod laidOut (by kernel_rfl) (of_decide_eq_true (by kernel_rfl)) k2 nQ lt2) trodAll_mk0))),rfl,nQ.frame _,λh=>by cases h⟩
def put:Obj->Obj
 | .cells _ t frozen=>.cells ((CJ.flatten.map λz=>Value.string ⟨z.toArray⟩).toArray) t frozen
 |o=>o
noncomputable def BK (os:Os):World:=
 {World.holding Tryz.prog os ⟨#[],#[.int .i64 0,.slice none 0 0,.int .i64 0],[]⟩with heap:=(World.holding Tryz.prog os ⟨#[],#[.int .i64 0,.slice none 0 0,.int .i64 0],[]⟩).heap.modify 0 put}
theorem Xn(os:Os):laidMet Tryz.prog Rows.topCutUptoRow.laid ((BK os).forCall (λ_ _=>0) ⟨#[],#[.int .i64 0,.slice none 0 0,.int .i64 0],[]⟩).memory:=
 laidMet_of_run' 8 (by kernel_rfl) (by kernel_rfl)
theorem reads(os:Os)(enc:TypeId×Value->H):∃places,DataW.whole enc Tryz.prog ((BK os).forCall (λ_ _=>0) ⟨#[],#[.int .i64 0,.slice none 0 0,.int .i64 0],[]⟩).memory Tryz.f9.params.toList Rows.topCutSpec.vars false #[.int .i64 0,.slice none 0 0,.int .i64 0].toList 8=some ([.lit (.int .i64 0),.nil,.lit (.int .i64 0)],[],places):=
 ⟨[],by kernel_rfl⟩
theorem lifted(os:Os)(started:os.Started)(H:Type)(enc:TypeId×Value->H)(F:Stop.Interp):
 ReturnsInHanded {} Tryz.checked os 9 .any ((Rows.OpenSpec.upto Rows.topCutSpec).preRow enc Tryz.prog Tryz.f9 Rows.topCutUptoRow.domain false Rows.topCutUptoRow.laid) (((Rows.OpenSpec.upto Rows.topCutSpec).at F).post enc Tryz.prog Tryz.f9 false true false false):=by
 obtain⟨places,hx⟩:=reads os enc;refine returnsInHanded_of_row (C:=Tryz.checked) (s:=Rows.OpenSpec.upto Rows.topCutSpec) own started (by kernel_rfl) Tryz.func9
  (witness_row_at (enc:=enc) (C:=Tryz.checked) false (BK os) #[.int .i64 0,.slice none 0 0,.int .i64 0] rfl (by kernel_rfl) (by kernel_rfl) (by kernel_rfl)
   (OpenSpec.preRow_of_cond 8 hx (by kernel_rfl) (λk hk=>by cases hk;kernel_rfl) (by kernel_rfl) (Xn os))) ?_
 intro W base args ds gs before hval hW _ hcond _ hL _ _;exact contract H enc W base args ds gs before hval hW hL (hcond _ rfl)
theorem joined:joinedFacts Tryz.prog 9 Tryz.f9 (Rows.OpenSpec.upto Rows.topCutSpec).bare Rows.topCutUptoRow=true:=by
 unfold joinedFacts;simp only[Bool.and_eq_true]
 repeat' apply And.intro
 all_goals as_aux_lemma=>kernel_rfl
theorem said:Rows.TopCutUptoSaid:=
 OpenClaim.holds_of_cond 9 Tryz.f9 rfl rfl rfl rfl rfl rfl rfl ⟨rfl,rfl,rfl,rfl,rfl⟩ rfl rfl rfl rfl rfl (by as_aux_lemma=>kernel_rfl) Tryz.func9 joined
  (of_decide_eq_true (by as_aux_lemma=>kernel_rfl)) (by as_aux_lemma=>unfold Func.isWrapper;first|(rw[if_pos (by decide+kernel)];kernel_rfl)|(rw[if_neg (by decide+kernel)];exact⟨rfl,rfl⟩))
  (λos started H enc _ F=>by rw[OpenClaim.pre_eq_preRow];exact lifted os started H enc F)
theorem plain (f : FuncId) (fn : Func) (hf : Tryz.pinned.checked.prog.funcNamed "towpath/towpathtop.TopCut" = some f) (hfn : Tryz.pinned.checked.prog.funcs[f]? = some fn) :
 true=Tryz.pinned.checked.prog.looks [] /\∀(j:Nat) t,fn.params[j]? =some t->Tryz.pinned.checked.prog.wantsStandIn t=false:=by
 obtain rfl : f = 9 := Option.some.inj ((show Tryz.prog.funcNamed "towpath/towpathtop.TopCut" = some 9 by kernel_rfl).symm.trans hf) |>.symm
 obtain rfl:fn=Tryz.f9:=(Option.some.inj (Tryz.func9.symm.trans hfn)).symm;refine⟨by kernel_rfl,λj t ht=> ?_⟩;rw[Tryz.params9]at ht;rcases j with _|_|_|j
 ·obtain rfl:3=t:=by simpa using ht
  kernel_rfl
 ·obtain rfl:61=t:=by simpa using ht
  kernel_rfl
 ·obtain rfl:3=t:=by simpa using ht
  kernel_rfl
 ·simp at ht
theorem card:Rows.TopCutUptoCardSaid:=
 Claim7.holds_tied_plain_at .later [] _ _ _ _ said (λ_ h=>by cases h) (by kernel_rfl) (λ_ h=>by cases h) topCutUpto_row_tie rfl ⟨rfl,rfl⟩ (by kernel_rfl) rfl plain (by kernel_rfl)
end Go.Proofs.YtieklnlbljejdaaGreatDoor.topCut
namespace Go.Proofs.YtieklnlbljejdaaGreatDoor
theorem topCutUpto_card_holds:Rows.TopCutUptoCardSaid:=topCut.card
#print axioms topCutUpto_card_holds
end Go.Proofs.YtieklnlbljejdaaGreatDoor
