/-
  THE STATEMENT 'Rows.TopGateCardSaid': at each step of a net, whatever happens, also if bytes are spoilt, who is heard at a port is heard over a link that is open, and no more is on a cable than may be.
  Conditions: none but the form's own; the listed table of package auto is tied to the program's text by the given tie. The card's tie speaks of the pruned copy of the project (the seat's page says so).
-/
import Derived.WalkKit
import Derived.LaidLaws
import Derived.ChangeArms
import Derived.Test.YtieklnlbljejdaaGreatDoorG47
import Derived.Test.YtieklnlbljejdaaGreatDoorG51
import Derived.Test.YtieklnlbljejdaaGreatDoorCards
import Derived.Test.YtieklnlbljejdaaGreatDoorTie
import Derived.Test.YtieklnlbljejdaaGreatDoorJTopGate
import Derived.ProofKit
import Derived.ShutString
import Derived.OpenShut
import Derived.ChangeOld
import Derived.Below
import Derived.Deep.DeepHandedRow
import Derived.Lib.LaidTab
namespace Go.Proofs.YtieklnlbljejdaaGreatDoor
open Go.RowKit
def rowData {H : Type} (l : List (List UInt8)) : DataW H := .agg (l.map fun s => .lit (.string s))
def gridData {H : Type} (t : List (List (List UInt8))) : DataW H := .agg (t.map rowData)

theorem cells_of_row {H : Type} {enc : TypeId × Value → H} {P : Program} {w : World} {base : Nat} {sp : Nat → Bool} {held : Bool} {fuel : Nat} {t e : TypeId} {n : Nat} {cs : List Value} {zs : List (List UInt8)} {p : List MemPlace}
    (ht : P.underlying t = some (.array n e)) (he : P.underlying e = some .string) (hce : P.cellsOf e = 1) (hct : P.cellsOf t = n)
    (h : DataW.trod enc P w base sp held fuel t cs = some (rowData zs, p)) : cs = zs.map fun z => Value.string ⟨z.toArray⟩ := by
  cases fuel with
  | zero => simp [DataW.trod] at h
  | succ fuel =>
    simp only [DataW.trod, ht, hce, hct, Nat.mul_one] at h
    split at h
    · rename_i hl
      obtain ⟨xs, hm, hx⟩ := Option.map_eq_some_iff.1 h
      have hxs : xs.map (·.1) = zs.map fun z => (DataW.lit (.string z) : DataW H) := by
        have := congrArg Prod.fst hx
        simpa [rowData] using this
      have hxl : xs.length = n := by simpa using Lib.mapM_length hm
      have hzl : zs.length = n := by
        have := congrArg List.length hxs
        simp at this
        omega
      apply List.ext_getElem?
      intro i
      by_cases hi : i < n
      · obtain ⟨b, hb, hf⟩ := Lib.mapM_at hm i i (by simp [hi])
        obtain ⟨z, hc, rfl, _⟩ := DataW.trod_string he hf
        have h1 : cs[i]? = some (.string z) := by
          have := congrArg (·[0]?) hc
          simpa [List.getElem?_take, List.getElem?_drop] using this
        have h2 : (xs.map (·.1))[i]? = some (DataW.lit (.string z.data.toList) : DataW H) := by simp [hb]
        rw [hxs] at h2
        simp only [List.getElem?_map, Option.map_eq_some_iff, DataW.lit.injEq, Lit.string.injEq] at h2
        obtain ⟨z', hz', rfl⟩ := h2
        simp [h1, hz']
      · rw [List.getElem?_eq_none (by omega), List.getElem?_eq_none (by simp; omega)]
    · cases h

theorem cell_of_grid {H : Type} {enc : TypeId × Value → H} {P : Program} {w : World} {base : Nat} {sp : Nat → Bool} {held : Bool} {fuel : Nat} {t r e : TypeId} {m n : Nat} {cs : List Value} {zs : List (List (List UInt8))} {p : List MemPlace}
    (ht : P.underlying t = some (.array m r)) (hr : P.underlying r = some (.array n e)) (he : P.underlying e = some .string) (hce : P.cellsOf e = 1) (hcr : P.cellsOf r = n) (hct : P.cellsOf t = m * n)
    (h : DataW.trod enc P w base sp held fuel t cs = some (gridData zs, p)) : zs.length = m ∧ ∀ i row, zs[i]? = some row → (cs.drop (i * n)).take n = row.map fun z => Value.string ⟨z.toArray⟩ := by
  cases fuel with
  | zero => simp [DataW.trod] at h
  | succ fuel =>
    simp only [DataW.trod, ht, hcr, hct] at h
    split at h
    · rename_i hl
      obtain ⟨xs, hm, hx⟩ := Option.map_eq_some_iff.1 h
      have hxs : xs.map (·.1) = zs.map fun z => (rowData z : DataW H) := by
        have := congrArg Prod.fst hx
        simpa [gridData] using this
      have hxl : xs.length = m := by simpa using Lib.mapM_length hm
      have hzl : zs.length = m := by
        have := congrArg List.length hxs
        simp at this
        omega
      refine ⟨hzl, fun i row hrow => ?_⟩
      have hi : i < m := by rw [← hzl]; exact (List.getElem?_eq_some_iff.1 hrow).1
      obtain ⟨b, hb, hf⟩ := Lib.mapM_at hm i i (by simp [hi])
      have h2 : (xs.map (·.1))[i]? = some b.1 := by simp [hb]
      rw [hxs] at h2
      simp only [List.getElem?_map, hrow, Option.map_some, Option.some.injEq] at h2
      obtain ⟨b1, b2⟩ := b
      simp only at h2
      subst h2
      exact cells_of_row hr he hce hcr hf
    · cases h

/-- From the row's condition: each cell of the table. -/
theorem grid_of_head {P : Program} {W : World} {name : String} {zs : List (List (List UInt8))} {rest : List (String × DataW Unit)} {g : Nat} {t r e : TypeId} {m n : Nat}
    (hg : P.globalNamed name = some g) (hty : (P.globals[g]?).map (·.type) = some t) (ht : P.underlying t = some (.array m r)) (hr : P.underlying r = some (.array n e)) (he : P.underlying e = some .string) (hce : P.cellsOf e = 1) (hcr : P.cellsOf r = n) (hct : P.cellsOf t = m * n)
    (h : laidMet P ((name, gridData zs) :: rest) W) : ∀ i row j z, zs[i]? = some row → row[j]? = some z → j < n → W.cell? ⟨g, i * n + j, none⟩ = some (.string ⟨z.toArray⟩) := by
  obtain ⟨ps, ⟨g', t', cs, fuel, p, q, hg', ht', hvar, hd, _, _⟩, _⟩ := h
  obtain rfl := Option.some.inj (hg.symm.trans hg')
  obtain rfl := Option.some.inj (hty.symm.trans ht')
  intro i row j z hi hj hjn
  have h1 := (cell_of_grid ht hr he hce hcr hct hd).2 i row hi
  rw [World.var?_cell hg hvar]
  have h2 : ((cs.toList.drop (i * n)).take n)[j]? = some (Value.string ⟨z.toArray⟩) := by rw [h1]; simp [hj]
  rw [List.getElem?_take_of_lt hjn, List.getElem?_drop] at h2
  simpa using h2
end Go.Proofs.YtieklnlbljejdaaGreatDoor
namespace Go.Proofs.YtieklnlbljejdaaGreatDoor.topGate
open Go.ChangeShapes Go.WideShapes Go.ChangeAt Go.RowKit
open Go.ChangeMaps (open_string shut_string)
theorem own : ownKnob Tryz.prog.godebug = none := by kernel_rfl
theorem laidOut : laidOutB Tryz.prog = true := by kernel_rfl
set_option maxRecDepth 100000 in
theorem tab_ok (W : World) (hL : laidMet Tryz.prog Rows.topGateRow.laid W) : TabOk W := by
 have h := grid_of_head (P := Tryz.prog) (name := "towpath/auto.steps") (zs := tabL) (g := 0) (m := 12) (n := 10) (by kernel_rfl) rfl Tryz.underlying318 Tryz.underlying317 Tryz.underlying9 (by kernel_rfl) (by kernel_rfl) (by kernel_rfl) (rest := []) hL
 intro e s he hs
 have h1 : tabL[e]? = some (tabL.getD e []) := by
  rw [List.getD_eq_getElem?_getD, List.getElem?_eq_getElem (show e < tabL.length by simpa [tabL] using he)]
  rfl
 have hlen : (tabL.getD e []).length = 10 := (show ∀ e, e < 12 → (tabL.getD e []).length = 10 by decide +kernel) e he
 have h2 : (tabL.getD e [])[s]? = some (cellL s e) := by
  unfold cellL
  rw [List.getD_eq_getElem?_getD (l := tabL.getD e []), List.getElem?_eq_getElem (show s < (tabL.getD e []).length by omega)]
  rfl
 exact h e _ s _ h1 h2 hs
set_option maxRecDepth 100000 in
theorem contract (H : Type) (enc : TypeId × Value → H) (W : World) (base : Nat) (args : Array Value) (ds gs : List (DataW H)) (before : List MemPlace)
 (hval0 : ∀ (j : Nat) t v, Tryz.f10.params[j]? = some t → args[j]? = some v → Value.okWide Tryz.prog W .any base t v)
 (hW : DataW.Whole enc Tryz.prog Tryz.f10.params.toList Rows.topGateSpec.vars false W args.toList ds gs before) (hL : laidMet Tryz.prog Rows.topGateRow.laid W) :
 Calls Tryz.prog 10 args W fun e W' => ∃ v, e = .returned v ∧ Rows.topGateSpec.post enc Tryz.prog Tryz.f10 false true false false W args v W' := by
 have hval : ∀ (j : Nat) t v, Tryz.f10.params[j]? = some t → args[j]? = some v → Value.okWide Tryz.prog W .any base t v := hval0
 have hW' := hW
 obtain ⟨p, q, hA0, hV, rfl, hfz, hnd⟩ := hW
 have hA : DataW.TrodAll enc Tryz.prog W 0 (fun _ => true) true Tryz.f10.params.toList args.toList ds p := hA0
 rw [Tryz.params10] at hA hval
 obtain ⟨v0, vs0, d0, ds0, p0, q0, hargs, rfl, rfl, h0, r0⟩ := trodAll_cons hA
 obtain ⟨v1, vs1, d1, ds1, p1, q1, rfl, rfl, rfl, h1, r1⟩ := trodAll_cons r0
 obtain ⟨v2, vs2, d2, ds2, p2, q2, rfl, rfl, rfl, h2, r2⟩ := trodAll_cons r1
 obtain ⟨rfl, rfl, rfl⟩ := trodAll_nil r2
 obtain rfl : args = #[v0, v1, v2] := by cases args; simp_all
 obtain ⟨rfl, rfl⟩ := trodVars_none hV
 have k0 := h0
 have lt0 : ∀ x ∈ p0, x.block < W.heap.size := by obtain ⟨m, hm⟩ := k0; exact DataW.trod_lt m _ _ _ hm
 have k1 := h1
 have lt1 : ∀ x ∈ p1, x.block < W.heap.size := by obtain ⟨m, hm⟩ := k1; exact DataW.trod_lt m _ _ _ hm
 have k2 := h2
 have lt2 : ∀ x ∈ p2, x.block < W.heap.size := by obtain ⟨m, hm⟩ := k2; exact DataW.trod_lt m _ _ _ hm
 obtain ⟨a0, rfl, rfl, rfl, w0⟩ := open_int Tryz.underlying3 (hval 0 3 v0 rfl rfl) h0
 obtain ⟨b1, n1, cap1, rfl⟩ := okWide_slice Tryz.underlying61 (hval 1 61 v1 rfl rfl)
 obtain ⟨L1, o1, l1, m1⟩ := Rt.open_cables h1
 obtain ⟨b2, n2, cap2, rfl⟩ := okWide_slice Tryz.underlying23 (hval 2 23 v2 rfl rfl)
 obtain ⟨V2, E2, o2, m2⟩ := open_acts h2
 clear hA0 hval0
 refine (Rt.gate_any a0 b1 n1 cap1 L1 b2 n2 cap2 V2 E2 W o1 l1 m1 o2 (tab_ok W hL)).mono fun e W' ⟨he, bel⟩ => ?_
 subst he
 exact ⟨_, rfl, _, _, _, [], _, [], hW', trodAll_mk1 (shut_bool Tryz.underlying4 _), (trodAll_cons_mk (Below.trod laidOut (by kernel_rfl) (of_decide_eq_true (by kernel_rfl)) k0 bel lt0) (trodAll_cons_mk (Below.trod laidOut (by kernel_rfl) (of_decide_eq_true (by kernel_rfl)) k1 bel lt1) (trodAll_cons_mk (Below.trod laidOut (by kernel_rfl) (of_decide_eq_true (by kernel_rfl)) k2 bel lt2) trodAll_mk0))), rfl, bel.frame _, fun h => by cases h⟩
def put : Obj → Obj
 | .cells _ t frozen => .cells ((tabL.flatten.map fun z => Value.string ⟨z.toArray⟩).toArray) t frozen
 | o => o
noncomputable def laidWorld (os : Os) : World :=
 { World.holding Tryz.prog os ⟨#[], #[.int .i64 0, .slice none 0 0, .slice none 0 0], []⟩ with heap := (World.holding Tryz.prog os ⟨#[], #[.int .i64 0, .slice none 0 0, .slice none 0 0], []⟩).heap.modify 0 put }
theorem laid_met (os : Os) : laidMet Tryz.prog Rows.topGateRow.laid ((laidWorld os).forCall (fun _ _ => 0) ⟨#[], #[.int .i64 0, .slice none 0 0, .slice none 0 0], []⟩).memory :=
 laidMet_of_run' 8 (by kernel_rfl) (by kernel_rfl)
theorem reads (os : Os) {H : Type} (enc : TypeId × Value → H) : ∃ places, DataW.whole enc Tryz.prog ((laidWorld os).forCall (fun _ _ => 0) ⟨#[], #[.int .i64 0, .slice none 0 0, .slice none 0 0], []⟩).memory Tryz.f10.params.toList Rows.topGateSpec.vars false #[.int .i64 0, .slice none 0 0, .slice none 0 0].toList 8 = some ([.lit (.int .i64 0), .nil, .nil], [], places) :=
 ⟨[], by kernel_rfl⟩
set_option maxRecDepth 100000 in
theorem lifted (os : Os) (started : os.Started) (H : Type) (enc : TypeId × Value → H) (F : Stop.Interp) :
 ReturnsInHanded {} Tryz.checked os 10 .any ((OpenSpec.ofChange Rows.topGateSpec).preRow enc Tryz.prog Tryz.f10 Rows.topGateRow.domain false Rows.topGateRow.laid) (((OpenSpec.ofChange Rows.topGateSpec).at F).post enc Tryz.prog Tryz.f10 false true false false) := by
 obtain ⟨places, hx⟩ := reads os enc
 refine returnsInHanded_of_row (C := Tryz.checked) (s := OpenSpec.ofChange Rows.topGateSpec) own started (by kernel_rfl) Tryz.func10
  (witness_row_at (enc := enc) (C := Tryz.checked) false (laidWorld os) #[.int .i64 0, .slice none 0 0, .slice none 0 0] rfl (by kernel_rfl) (by kernel_rfl) (by kernel_rfl)
    (OpenSpec.preRow_of_cond 8 hx (by kernel_rfl) (fun k hk => by cases hk) (by kernel_rfl) (laid_met os))) ?_
 intro W base args ds gs before hval hW _ _ _ hL _ _
 exact contract H enc W base args ds gs before hval hW hL
theorem said : Rows.TopGateSaid :=
 OpenClaim.holds_of_cond 10 Tryz.f10 rfl rfl rfl rfl rfl rfl rfl ⟨rfl, rfl, rfl, rfl, rfl⟩ rfl rfl rfl rfl rfl (by as_aux_lemma => kernel_rfl) Tryz.func10 joined
  (of_decide_eq_true (by as_aux_lemma => kernel_rfl)) (by as_aux_lemma => unfold Func.isWrapper; first | (rw [if_pos (by decide +kernel)]; kernel_rfl) | (rw [if_neg (by decide +kernel)]; exact ⟨rfl, rfl⟩))
  (fun os started H enc _ F => by rw [OpenClaim.pre_eq_preRow]; exact lifted os started H enc F)
theorem plain (f : FuncId) (fn : Func) (hf : Tryz.pinned.checked.prog.funcNamed "towpath/towpathtop.TopGate" = some f) (hfn : Tryz.pinned.checked.prog.funcs[f]? = some fn) :
 true = Tryz.pinned.checked.prog.looks [] ∧ ∀ (j : Nat) t, fn.params[j]? = some t → Tryz.pinned.checked.prog.wantsStandIn t = false := by
 obtain rfl : f = 10 := Option.some.inj ((show Tryz.prog.funcNamed "towpath/towpathtop.TopGate" = some 10 by kernel_rfl).symm.trans hf) |>.symm
 obtain rfl : fn = Tryz.f10 := (Option.some.inj (Tryz.func10.symm.trans hfn)).symm
 refine ⟨by kernel_rfl, fun j t ht => ?_⟩
 rw [Tryz.params10] at ht
 rcases j with _ | _ | _ | j
 · obtain rfl : 3 = t := by simpa using ht
   kernel_rfl
 · obtain rfl : 61 = t := by simpa using ht
   kernel_rfl
 · obtain rfl : 23 = t := by simpa using ht
   kernel_rfl
 · simp at ht
theorem card : Rows.TopGateCardSaid :=
 Claim7.holds_tied_plain_at .later [] _ _ _ _ said (fun _ h => by cases h) (by kernel_rfl) (fun _ h => by cases h) topGate_row_tie rfl ⟨rfl, rfl⟩ (by kernel_rfl) rfl plain (by kernel_rfl)
end Go.Proofs.YtieklnlbljejdaaGreatDoor.topGate
namespace Go.Proofs.YtieklnlbljejdaaGreatDoor
theorem topGate_card_holds : Rows.TopGateCardSaid := topGate.card
#print axioms topGate_card_holds
end Go.Proofs.YtieklnlbljejdaaGreatDoor
