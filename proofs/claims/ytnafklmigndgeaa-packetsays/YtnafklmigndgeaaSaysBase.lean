/-
  What the statement on frames leans on: errors held against numbers, the closed fact, frames made twice, a piece read twice.
-/
import Derived.Test.YtnafklmigndgeaaAgree
import Derived.Test.YtnafklmigndgeaaTopStreamWalk
namespace Go.Proofs.Ytnafklmigndgeaa
open Go.RowKit Plain

set_option maxRecDepth 100000 in
theorem same_ok (k : Nat) (w : World) : Calls Try.prog 12 #[errV k, .int .i64 (k : Int)] w fun e w' => e = .returned (.bool true) ∧ w = w' := by
  by_cases hk : k = 0
  · subst hk
    have e0 : errV 0 = .nilIface := rfl
    rw [e0]
    go_enter Try.func12, Try.ntmps12
    go_wp2
    go_ret
    exact ⟨rfl, rfl⟩
  · have e0 : errV k = .iface 64 (.int .i64 (k : Int)) := by simp [errV, hk]
    have hp : (0 : Int) < (k : Int) := by omega
    have hta := assert64
    rw [e0]
    clear e0
    go_enter Try.func12, Try.ntmps12
    go_wp2
    go_ret
    exact ⟨rfl, rfl⟩

set_option maxRecDepth 100000 in
theorem frames_true (w : World) : Calls Try.prog 9 #[] w fun e w' => e = .returned (.bool true) ∧ Below w.heap.size w w' := by
  have hz := zero35.1
  go_enter Try.func9, Try.ntmps9
  go_wp2_with (fail)
  refine (make_ok ⟨#[97, 98]⟩ _ (by decide)).mono ?_
  rintro e w1 ⟨F, rfl, hF, hA, hb1⟩
  have s1 : F.size ≤ 100000 := by omega
  go_wp2_with (fail)
  refine (all_one _ R0 R0 _ F _ (rd_new w1) s1 hA).mono ?_
  rintro e w2 ⟨g, cp, rfl, hrow, hg, hR, hg2⟩
  have hw2 : Below w.heap.size w w2 := below_grown (hb1.alloc hb1.size _) hg2 hb1.size
  have hrow' : Row w2 1 (.slice (some ⟨g, 0, none⟩) 1 cp) 1 [.string ⟨#[97, 98]⟩] := hrow
  clear hg2 hR hrow
  go_wp2_with (fail)
  refine (same_ok 0 _).mono ?_
  rintro e w3 ⟨rfl, rfl⟩
  go_wp2_with (fail)
  refine (same_one ⟨#[97, 98]⟩ _ _ _ (hrow'.alloc _).reads (one_made w2 ⟨#[97, 98]⟩)).mono ?_
  rintro e w3 ⟨rfl, n3, rfl⟩
  have hw3 : Below w.heap.size w ((w2.alloc (.cells #[.string ⟨#[97, 98]⟩] 9)).drewN n3) := below_drewN (hw2.alloc hw2.size _) n3
  go_wp2_with (fail)
  go_ret
  exact ⟨rfl, hw3⟩

/-- Make and FrameOf answer alike. -/
theorem make_both (s : ByteArray) (hs : s.size ≤ 500) : ∃ (F : ByteArray) (er : Nat), (∀ W, Calls Try.prog 10 #[.string s] W fun e w' => e = .returned (.tuple #[.string F, errV er]) ∧ Below W.heap.size W w') ∧
    (∀ W, Calls Try.prog 11 #[.string s] W fun e w' => e = .returned (.tuple #[.string F, .int .i64 (er : Int)]) ∧ Below W.heap.size W w') := by
  by_cases h : s.size ≤ 60
  · exact ⟨_, 0, fun W => make_yes s W h, fun W => rframe_yes s W h⟩
  · refine ⟨ByteArray.empty, 2, fun W => (make_no s W (by omega) (by unfold maxLen; omega)).mono ?_, fun W => (rframe_no s W (by omega) (by unfold maxLen; omega)).mono ?_⟩
    · rintro e w' ⟨rfl, rfl⟩; exact ⟨rfl, Below.refl _ _⟩
    · rintro e w' ⟨rfl, rfl⟩; exact ⟨rfl, Below.refl _ _⟩

/-- All of a piece, behind what is left. -/
theorem all_piece (b : Nat) (r : List UInt8) (p : ByteArray) (w : World) (h : Rd w b (stateOf r).1 (stateOf r).2.1 (stateOf r).2.2) (hs : p.size ≤ 100000) :
    Calls Try.prog 15 #[.pointer (some ⟨b, 0, none⟩), .string p] w fun e w' => ∃ v, e = .returned (.tuple #[v, .int .i64 ((readR r p.data.toList).2.1.length : Int)]) ∧
      Row w' 1 v (readR r p.data.toList).1.length (strs (readR r p.data.toList).1) ∧ (∀ k, v.ownBlock = some k → w.heap.size ≤ k) ∧
      Rd w' b (stateOf (readR r p.data.toList).2.2).1 (stateOf (readR r p.data.toList).2.2).2.1 (stateOf (readR r p.data.toList).2.2).2.2 ∧ w.grownBy w' (some b) := by
  have hq := all_any b (stateOf r) p w h hs
  rw [all_agree] at hq
  refine hq.mono ?_
  rintro e w' ⟨v, rfl, h1, h2, h3, h4, h5⟩
  exact ⟨v, rfl, h1, h2, h4, h5⟩
theorem Rd.below {w w' : World} {b : Nat} {l : List UInt8} {e d : Bool} (h : Rd w b l e d) (hb : Below w.heap.size w w') : Rd w' b l e d := by
  obtain ⟨C, hC, hR⟩ := h
  exact ⟨C, by rw [hb.block b (Array.getElem?_eq_some_iff.1 hC).1]; exact hC, hR⟩
theorem Rd.lt {w : World} {b : Nat} {l : List UInt8} {e d : Bool} (h : Rd w b l e d) : b < w.heap.size := by
  obtain ⟨C, hC, hR⟩ := h
  exact (Array.getElem?_eq_some_iff.1 hC).1
end Go.Proofs.Ytnafklmigndgeaa
