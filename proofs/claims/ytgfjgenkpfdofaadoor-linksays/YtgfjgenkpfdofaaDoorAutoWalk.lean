/-
  The program's Step and Timed: what they answer, at every state and event.
-/
import Derived.Test.YtgfjgenkpfdofaaDoorBase
import Derived.Test.YtgfjgenkpfdofaaDoorTab
namespace Go.Proofs.YtgfjgenkpfdofaaDoor
open Go.RowKit

/-- The table, by events and states. -/
def tabL : List (List (List UInt8)) := [
  [[50], [105, 114, 54], [45], [45], [45], [45], [45], [45], [45], [45]],
  [[45], [45], [48], [115, 49], [48], [49], [49], [49], [49], [100, 49]],
  [[115, 49], [49], [105, 114, 54], [51], [53], [53], [54], [55], [56], [57]],
  [[48], [102, 48], [50], [50], [52], [52], [105, 116, 52], [105, 116, 52], [105, 116, 52], [100, 105, 116, 52]],
  [[45], [45], [45], [45], [116, 52], [116, 53], [114, 54], [114, 54], [114, 56], [45]],
  [[45], [45], [45], [45], [102, 50], [102, 51], [102, 51], [102, 51], [102, 51], [45]],
  [[45], [45], [107, 50], [105, 114, 97, 56], [52], [53], [97, 56], [97, 117, 57], [97, 56], [100, 114, 97, 56]],
  [[45], [45], [107, 50], [105, 114, 110, 54], [52], [53], [110, 54], [110, 55], [110, 54], [100, 114, 110, 54]],
  [[45], [45], [107, 50], [107, 51], [52], [53], [105, 55], [114, 54], [105, 117, 57], [100, 114, 54]],
  [[45], [45], [107, 50], [107, 51], [52], [53], [105, 114, 54], [114, 54], [105, 114, 56], [100, 114, 54]],
  [[45], [45], [107, 50], [107, 51], [107, 52], [107, 53], [107, 54], [107, 54], [107, 54], [100, 122, 107, 53]],
  [[45], [45], [50], [51], [102, 50], [102, 51], [54], [54], [56], [100, 114, 54]]]
def cellL (s e : Nat) : List UInt8 := (tabL.getD e []).getD s []
/-- What is done, the next state, the error's number. -/
def stepR (s e : Nat) : List UInt8 × Int × Nat :=
  if cellL s e = [45] then ([], 0, 7) else ((cellL s e).dropLast, (((cellL s e).getLastD 0).toNat : Int) - 48, 0)
def stepI (s e : Int) : List UInt8 × Int × Nat :=
  if s < 0 ∨ 10 ≤ s ∨ e < 0 ∨ 12 ≤ e then ([], 0, 1) else stepR s.toNat e.toNat
/-- The program's table stands. -/
def TabOk (w : World) : Prop := ∀ e s, e < 12 → s < 10 → w.cell? ⟨0, e * 10 + s, none⟩ = some (.string ⟨(cellL s e).toArray⟩)
theorem TabOk.below {w w' : World} (h : TabOk w) (hb : Below w.heap.size w w') : TabOk w' := fun e s he hs =>
  (hb.cell (World.block_lt_of_cell? w _ (h e s he hs))).trans (h e s he hs)
theorem TabOk.drewN {w : World} (h : TabOk w) (m : Nat) : TabOk (w.drewN m) := h
theorem TabOk.lt {w : World} (h : TabOk w) : 0 < w.heap.size := World.block_lt_of_cell? w _ (h 0 0 (by decide) (by decide))
theorem stepI_in (s e : Nat) (hs : s < 10) (he : e < 12) : stepI s e = stepR s e := by
  unfold stepI
  rw [if_neg (by omega)]
  rfl
theorem cellL_ok : ∀ e, e < 12 → ∀ s, s < 10 → 1 ≤ (cellL s e).length ∧ (cellL s e).length ≤ 5 ∧ (48 ≤ ((cellL s e).getLastD 0).toNat ∧ ((cellL s e).getLastD 0).toNat ≤ 57 ∨ cellL s e = [45]) := by decide +kernel

set_option maxRecDepth 100000 in
theorem timed_any (s : Int) (w : World) : Calls Tryd.prog 23 #[.int .i64 s] w fun e w' => e = .returned (.bool (decide (4 ≤ s) && decide (s ≤ 8))) ∧ w = w' := by
  by_cases h0 : 4 ≤ s
  · have e0 : decide (4 ≤ s) = true := by simp [h0]
    rw [e0, Bool.true_and]
    clear e0
    go_enter Tryd.func23, Tryd.ntmps23
    go_wp2
    go_ret
    exact ⟨rfl, rfl⟩
  · have e0 : decide (4 ≤ s) = false := by simp [h0]
    rw [e0, Bool.false_and]
    clear e0
    go_enter Tryd.func23, Tryd.ntmps23
    go_wp2
    go_ret
    exact ⟨rfl, rfl⟩

set_option maxRecDepth 100000 in
theorem step_out (s e : Int) (w : World) (h : s < 0 ∨ 10 ≤ s ∨ e < 0 ∨ 12 ≤ e) : Calls Tryd.prog 32 #[.int .i64 s, .int .i64 e] w fun x w' => x = .returned (.tuple #[.string ⟨#[]⟩, .int .i64 0, errV 1]) ∧ w = w' := by
  have e1 : errV 1 = .iface 61 (.int .i64 1) := rfl
  rw [e1]
  clear e1
  by_cases h0 : s < 0
  · clear h
    go_enter Tryd.func32, Tryd.ntmps32
    go_wp2
    go_ret3
    exact ⟨rfl, rfl⟩
  · by_cases h1 : 10 ≤ s
    · clear h
      go_enter Tryd.func32, Tryd.ntmps32
      go_wp2
      go_ret3
      exact ⟨rfl, rfl⟩
    · by_cases h2 : e < 0
      · clear h
        go_enter Tryd.func32, Tryd.ntmps32
        go_wp2
        go_ret3
        exact ⟨rfl, rfl⟩
      · have h3 : 12 ≤ e := by omega
        clear h
        go_enter Tryd.func32, Tryd.ntmps32
        go_wp2
        go_ret3
        exact ⟨rfl, rfl⟩

set_option maxRecDepth 100000 in
theorem step_none (s e : Nat) (S : ByteArray) (w : World) (hs : s < 10) (he : e < 12) (hc : w.cell? ⟨0, e * 10 + s, none⟩ = some (.string S)) (hS : (S.toList == [45]) = true) :
    Calls Tryd.prog 32 #[.int .i64 s, .int .i64 e] w fun x w' => x = .returned (.tuple #[.string ⟨#[]⟩, .int .i64 0, errV 7]) ∧ w = w' := by
  have e1 : errV 7 = .iface 61 (.int .i64 7) := rfl
  have h0 : ¬ (s : Int) < 0 := by omega
  have h1 : ¬ (10 : Int) ≤ s := by omega
  have h2 : ¬ (e : Int) < 0 := by omega
  have h3 : ¬ (12 : Int) ≤ e := by omega
  have h4 : (s : Int) < 10 := by omega
  have h5 : (e : Int) < 12 := by omega
  have h6 : 0 < w.heap.size := World.block_lt_of_cell? w _ hc
  rw [e1]
  clear e1
  go_enter Tryd.func32, Tryd.ntmps32
  go_wp2
  go_ret3
  exact ⟨rfl, rfl⟩

set_option maxRecDepth 100000 in
theorem step_some (s e : Nat) (S : ByteArray) (w : World) (hs : s < 10) (he : e < 12) (hc : w.cell? ⟨0, e * 10 + s, none⟩ = some (.string S)) (hS : (S.toList == [45]) = false) (n : Nat) (hl : S.size = n + 1) (hn : n ≤ 4) (d : Nat) (hd : (S[n]).toNat = 48 + d) (hd9 : d ≤ 9) :
    Calls Tryd.prog 32 #[.int .i64 s, .int .i64 e] w fun x w' => x = .returned (.tuple #[.string (S.extract 0 n), .int .i64 (d : Int), .nilIface]) ∧ ∃ m, w' = w.drewN m := by
  have h0 : ¬ (s : Int) < 0 := by omega
  have h1 : ¬ (10 : Int) ≤ s := by omega
  have h2 : ¬ (e : Int) < 0 := by omega
  have h3 : ¬ (12 : Int) ≤ e := by omega
  have h4 : (s : Int) < 10 := by omega
  have h5 : (e : Int) < 12 := by omega
  have h6 : 0 < w.heap.size := World.block_lt_of_cell? w _ hc
  have h7 : wrap64 ((S.size : Int) - 1) = n := by unfold wrap64; omega
  have h8 : ((0 : Int) ≤ (n : Int)) := by omega
  have h9 : ((n : Int) ≤ (S.size : Int)) := by omega
  have h10 : ((n : Int) < (S.size : Int)) := by omega
  go_enter Tryd.func32, Tryd.ntmps32
  go_wp2
  go_quiet (fail)
  go_wp2
  go_ret3
  refine ⟨?_, _, rfl⟩
  rw [show (48 : Int) + (d : Int) - 48 = d by omega]
  rfl

theorem cellL_cut : ∀ e, e < 12 → ∀ s, s < 10 → cellL s e ≠ [45] → ((⟨(cellL s e).toArray⟩ : ByteArray).extract 0 ((cellL s e).length - 1) = ⟨(cellL s e).dropLast.toArray⟩) ∧ ((cellL s e).getD ((cellL s e).length - 1) 0 = (cellL s e).getLastD 0) := by decide +kernel

theorem step_any (s e : Int) (w : World) (h : TabOk w) : Calls Tryd.prog 32 #[.int .i64 s, .int .i64 e] w fun x w' =>
    x = .returned (.tuple #[.string ⟨(stepI s e).1.toArray⟩, .int .i64 (stepI s e).2.1, errV (stepI s e).2.2]) ∧ ∃ m, w' = w.drewN m := by
  by_cases ho : s < 0 ∨ 10 ≤ s ∨ e < 0 ∨ 12 ≤ e
  · refine (step_out s e w ho).mono ?_
    rintro x w' ⟨rfl, rfl⟩
    have hv : stepI s e = ([], 0, 1) := by unfold stepI; rw [if_pos ho]
    rw [hv]
    exact ⟨rfl, 0, rfl⟩
  · obtain ⟨s', rfl⟩ : ∃ s' : Nat, s = s' := ⟨s.toNat, by omega⟩
    obtain ⟨e', rfl⟩ : ∃ e' : Nat, e = e' := ⟨e.toNat, by omega⟩
    have hs : s' < 10 := by omega
    have he : e' < 12 := by omega
    rw [stepI_in s' e' hs he]
    have hc := h e' s' he hs
    obtain ⟨l1, l2, l3⟩ := cellL_ok e' he s' hs
    by_cases hq : cellL s' e' = [45]
    · refine (step_none s' e' _ w hs he hc (by rw [hq]; decide +kernel)).mono ?_
      rintro x w' ⟨rfl, rfl⟩
      have hv : stepR s' e' = ([], 0, 7) := by unfold stepR; rw [if_pos hq]
      rw [hv]
      exact ⟨rfl, 0, rfl⟩
    · obtain ⟨c1, c2⟩ := cellL_cut e' he s' hs hq
      have l4 := l3.resolve_right hq
      have hv : stepR s' e' = ((cellL s' e').dropLast, (((cellL s' e').getLastD 0).toNat : Int) - 48, 0) := by unfold stepR; rw [if_neg hq]
      rw [hv]
      clear hv
      generalize cellL s' e' = L at *
      have hsz : (⟨L.toArray⟩ : ByteArray).size = (L.length - 1) + 1 := by show L.toArray.size = _; simp; omega
      refine (step_some s' e' ⟨L.toArray⟩ w hs he hc ?_ (L.length - 1) hsz (by omega) ((L.getLastD 0).toNat - 48) ?_ (by omega)).mono ?_
      · rw [beq_eq_false_iff_ne]
        intro hb
        apply hq
        rw [← hb]
        simp [ByteArray.toList_eq]
      · rw [← c2]
        show (L.toArray[L.length - 1]'_).toNat = _
        rw [List.getElem_toArray, List.getD_eq_getElem?_getD, List.getElem?_eq_getElem (by omega)]
        rw [List.getD_eq_getElem?_getD, List.getElem?_eq_getElem (by omega)] at c2
        simp only [Option.getD_some] at c2 ⊢
        rw [c2]
        omega
      · rintro x w' ⟨rfl, m, rfl⟩
        refine ⟨?_, m, rfl⟩
        rw [c1]
        have hz : (((L.getLastD 0).toNat - 48 : Nat) : Int) = ((L.getLastD 0).toNat : Int) - 48 := by omega
        rw [hz]
        rfl
/-- The same, what is answered by name. -/
theorem step_as (s e : Int) (D : List UInt8) (nx : Int) (f : Nat) (hR : stepI s e = (D, nx, f)) (w : World) (h : TabOk w) :
    Calls Tryd.prog 32 #[.int .i64 s, .int .i64 e] w fun x w' => x = .returned (.tuple #[.string ⟨D.toArray⟩, .int .i64 nx, errV f]) ∧ ∃ m, w' = w.drewN m := by
  have := step_any s e w h
  rw [hR] at this
  exact this
end Go.Proofs.YtgfjgenkpfdofaaDoor
