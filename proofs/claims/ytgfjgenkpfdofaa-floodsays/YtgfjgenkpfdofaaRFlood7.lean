/-
  The document's base of states: Part.
-/
import Derived.Test.YtgfjgenkpfdofaaRFlood6
namespace Go.Proofs.Ytgfjgenkpfdofaa
open Go.RowKit St

/-- What Part leaves owed. -/
def parO (O : Nat → Nat → Bool) (p x y : Nat) : Bool := if x = p then false else O x y
theorem oC_congr {ports : Nat} {O P : Nat → Nat → Bool} (h : ∀ x y, x < ports → y < 7 → O x y = P x y) : oC ports O = oC ports P := by
  apply Array.ext_getElem?
  intro i
  by_cases hi : i < ports * 7
  · rw [oC_at _ _ i hi, oC_at _ _ i hi, h (i / 7) (i % 7) (by omega) (by omega)]
  · rw [Array.getElem?_eq_none (by rw [oC_size]; omega), Array.getElem?_eq_none (by rw [oC_size]; omega)]
set_option maxRecDepth 100000 in
set_option maxHeartbeats 4000000 in
theorem rpart_yes (M g ports : Nat) (K : Nat → SV) (O : Nat → Nat → Bool) (p : Nat) (hp : p < ports) (w : World) (h : RB w M g ports K O) :
    Calls Try.prog 17 #[.pointer (some ⟨M, 0, none⟩), .int .i64 (p : Int)] w fun e w' => e = .returned (.tuple #[]) ∧ (∃ O', RB w' M g ports K O' ∧ (∀ x y, x < ports → y < 7 → O' x y = parO O p x y)) ∧ KeptR w w' M g := by
  have c21 := h.owed
  have lM := h.k.lt
  have lg := h.o.lt
  have hp0 : (0 : Int) ≤ (p : Int) := by omega
  have hp2 : (p : Int) < (ports : Int) := by omega
  have e0 := (h.o.cell (p * 7 + 0)).trans (oC_get ports O p 0 hp (by omega))
  have e1 := (h.o.cell (p * 7 + 1)).trans (oC_get ports O p 1 hp (by omega))
  have e2 := (h.o.cell (p * 7 + 2)).trans (oC_get ports O p 2 hp (by omega))
  have e3 := (h.o.cell (p * 7 + 3)).trans (oC_get ports O p 3 hp (by omega))
  have e4 := (h.o.cell (p * 7 + 4)).trans (oC_get ports O p 4 hp (by omega))
  have e5 := (h.o.cell (p * 7 + 5)).trans (oC_get ports O p 5 hp (by omega))
  have e6 := (h.o.cell (p * 7 + 6)).trans (oC_get ports O p 6 hp (by omega))
  rw [Nat.add_zero] at e0
  have f0 := h.o.frozen (p * 7)
  have f1 := h.o.frozen (p * 7 + 1)
  have f2 := h.o.frozen (p * 7 + 2)
  have f3 := h.o.frozen (p * 7 + 3)
  have f4 := h.o.frozen (p * 7 + 4)
  have f5 := h.o.frozen (p * 7 + 5)
  have f6 := h.o.frozen (p * 7 + 6)
  have HR : Hid _ := h
  clear h
  go_enter Try.func17, Try.ntmps17
  go_wp2_with (fail)
  first | go_end0 | refine bodyPost_ret (results_none rfl _ _ _) rfl ?_
  have hne := HR.out.ne
  refine ⟨rfl, ⟨updO (updO (updO (updO (updO (updO (updO O p 0 false) p 1 false) p 2 false) p 3 false) p 4 false) p 5 false) p 6 false, ⟨?_, ?_, hne⟩, fun x y hx hy => ?_⟩, ?_⟩
  · exact Blk.other (Blk.other (Blk.other (Blk.other (Blk.other (Blk.other (Blk.other HR.out.k hne _) hne _) hne _) hne _) hne _) hne _) hne _
  · rw [← oC_set _ _ _ _ _ (by omega), ← oC_set _ _ _ _ _ (by omega), ← oC_set _ _ _ _ _ (by omega), ← oC_set _ _ _ _ _ (by omega), ← oC_set _ _ _ _ _ (by omega), ← oC_set _ _ _ _ _ (by omega), ← oC_set _ _ _ _ _ (by omega)]
    exact Blk.set (Blk.set (Blk.set (Blk.set (Blk.set (Blk.set (Blk.set HR.out.o _ _) _ _) _ _) _ _) _ _) _ _) _ _
  · simp only [updO, parO]
    by_cases e : x = p
    · rw [if_pos e]
      rcases (show y = 0 ∨ y = 1 ∨ y = 2 ∨ y = 3 ∨ y = 4 ∨ y = 5 ∨ y = 6 by omega) with rfl | rfl | rfl | rfl | rfl | rfl | rfl <;> simp [e]
    · rw [if_neg e]
      simp [e]
  · exact KeptR.setCell (KeptR.setCell (KeptR.setCell (KeptR.setCell (KeptR.setCell (KeptR.setCell (KeptR.setCell (KeptR.of_below M g (Below.refl _ _)) (.inr rfl) _) (.inr rfl) _) (.inr rfl) _) (.inr rfl) _) (.inr rfl) _) (.inr rfl) _) (.inr rfl) _
set_option maxRecDepth 100000 in
theorem rpart_no (M g ports : Nat) (K : Nat → SV) (O : Nat → Nat → Bool) (p : Int) (hp : ¬ (0 ≤ p ∧ p < (ports : Int))) (w : World) (h : RB w M g ports K O) :
    Calls Try.prog 17 #[.pointer (some ⟨M, 0, none⟩), .int .i64 p] w fun e w' => e = .returned (.tuple #[]) ∧ w = w' := by
  have c21 := h.owed
  have lM := h.k.lt
  have main : ∀ Q : Prop, (decide (0 ≤ p) = false → ¬ 0 ≤ p → Q) → (0 ≤ p → ¬ p < (ports : Int) → decide (p < (ports : Int)) = false → Q) → Q := fun Q q1 q2 => by
    by_cases e : 0 ≤ p
    · exact q2 e (by omega) (decide_eq_false (by omega))
    · exact q1 (decide_eq_false e) e
  clear h hp
  refine main _ ?_ ?_ <;> clear main
  all_goals
    intros
    go_enter Try.func17, Try.ntmps17
    go_wp2_with (fail)
    first | go_end0 | refine bodyPost_ret (results_none rfl _ _ _) rfl ?_
    exact ⟨rfl, rfl⟩
end Go.Proofs.Ytgfjgenkpfdofaa
