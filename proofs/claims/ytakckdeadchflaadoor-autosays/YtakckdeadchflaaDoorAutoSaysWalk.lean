/-
  'AutoSays' returns true at every state and event, and changes nothing that was there.
-/
import Derived.Test.YtakckdeadchflaaDoorTurnWalk
namespace Go.Proofs.YtakckdeadchflaaDoor
open Go.RowKit
namespace autoSays

theorem stepR_ok : ∀ e, e < 12 → ∀ s, s < 10 → ((stepR s e).2.2 = 0 ∧ 0 ≤ (stepR s e).2.1) ∨ ((stepR s e).2.2 = 7 ∧ (stepR s e).1 = [] ∧ (stepR s e).2.1 = 0) := by decide +kernel
theorem out_tail (w : World) : Calls Tryd.prog 8 #[.iface 23 (.int .i64 1), .int .i64 1] w fun e w' => e = .returned (.bool true) ∧ w = w' := same_ok 1 w
theorem state_tail (w : World) : Calls Tryd.prog 8 #[.iface 23 (.int .i64 7), .int .i64 7] w fun e w' => e = .returned (.bool true) ∧ w = w' := same_ok 7 w

set_option maxRecDepth 100000 in
set_option maxHeartbeats 2000000 in
theorem walk (s e : Int) (w : World) (h : TabOk w) :
    Calls Tryd.prog 4 #[.int .i64 s, .int .i64 e] w fun x w' => x = .returned (.bool true) ∧ Below w.heap.size w w' := by
  have hfirst := step_as 0 2 [115] 1 0 (by decide +kernel) w h
  have e0 : errV 0 = .nilIface := rfl
  rw [e0] at hfirst
  by_cases ho : s < 0 ∨ 10 ≤ s ∨ e < 0 ∨ 12 ≤ e
  · have hR : stepI s e = ([], 0, 1) := by unfold stepI; rw [if_pos ho]
    have hst := fun w => step_as s e _ _ _ hR w
    have e1 : errV 1 = .iface 23 (.int .i64 1) := rfl
    rw [e1] at hst
    clear hR e1 e0
    have main : ∀ (Q : Prop), (s < 0 → Q) → (¬ s < 0 → 9 < s → Q) → (¬ s < 0 → ¬ 9 < s → e < 0 → Q) → (¬ s < 0 → ¬ 9 < s → ¬ e < 0 → 11 < e → Q) → Q := by
      intro Q a b c d
      by_cases h1 : s < 0
      · exact a h1
      · by_cases h2 : 9 < s
        · exact b h1 h2
        · by_cases h3 : e < 0
          · exact c h1 h2 h3
          · exact d h1 h2 h3 (by omega)
    clear ho
    refine main _ ?_ ?_ ?_ ?_ <;> clear main
    all_goals
      intros
      by_cases t1 : 4 ≤ s <;> by_cases t2 : s ≤ 8
    all_goals first | (exfalso; omega) | skip
    all_goals
      go_enter Tryd.func4, Tryd.ntmps4
      go_wp2_with (fail)
      refine hfirst.mono ?_
      rintro x w1 ⟨rfl, m1, rfl⟩
      clear hfirst
      go_wp2_with (fail)
      refine (hst _ (h.drewN _)).mono ?_
      rintro x w1 ⟨rfl, m2, rfl⟩
      clear hst
      go_wp2_with (fail)
      refine (timed_any s _).mono ?_
      rintro x w1 ⟨rfl, rfl⟩
      go_wp2_with (fail)
      refine (out_tail _).mono ?_
      rintro x w1 ⟨rfl, rfl⟩
      go_wp2_with (fail)
      go_ret
      exact ⟨rfl, below_drewN (Below.refl _ _) _⟩
  · obtain ⟨s', rfl⟩ : ∃ s' : Nat, s = s' := ⟨s.toNat, by omega⟩
    obtain ⟨e', rfl⟩ : ∃ e' : Nat, e = e' := ⟨e.toNat, by omega⟩
    have hs : s' < 10 := by omega
    have he : e' < 12 := by omega
    have b1 : ¬ (s' : Int) < 0 := by omega
    have b2 : ¬ 9 < (s' : Int) := by omega
    have b3 : ¬ (e' : Int) < 0 := by omega
    have b4 : ¬ 11 < (e' : Int) := by omega
    obtain ⟨D, nx, f, hR⟩ : ∃ D nx f, stepI s' e' = (D, nx, f) := ⟨_, _, _, rfl⟩
    have hR' : stepR s' e' = (D, nx, f) := by rw [← stepI_in s' e' hs he]; exact hR
    have hst := fun w => step_as s' e' D nx f hR w
    have htu := fun w => turn_any s' e' w hs he
    rw [hR'] at htu
    have hf := stepR_ok e' he s' hs
    rw [hR'] at hf
    clear hR hR' ho e0
    rcases hf with hf | hf
    · have hf1 : f = 0 := hf.1
      have hf2 : 0 ≤ nx := hf.2
      subst hf1
      have e0 : errV 0 = .nilIface := rfl
      rw [e0] at hst
      simp only [if_true] at htu
      have hn : ¬ nx < 0 := by omega
      clear hf e0
      by_cases t1 : 4 ≤ (s' : Int) <;> by_cases t2 : (s' : Int) ≤ 8
      all_goals first | (exfalso; omega) | skip
      all_goals
        go_enter Tryd.func4, Tryd.ntmps4
        go_wp2_with (fail)
        refine hfirst.mono ?_
        rintro x w1 ⟨rfl, m1, rfl⟩
        clear hfirst
        go_wp2_with (fail)
        refine (hst _ (h.drewN _)).mono ?_
        rintro x w1 ⟨rfl, m2, rfl⟩
        clear hst
        go_wp2_with (fail)
        refine (timed_any s' _).mono ?_
        rintro x w1 ⟨rfl, rfl⟩
        go_wp2_with (fail)
        refine (htu _).mono ?_
        rintro x w1 ⟨rfl, hb⟩
        have hb1 : Below w.heap.size w w1 := below_chain (below_drewN (Below.refl _ _) _) hb
        clear htu hb
        go_wp2_with (fail)
        go_ret
        exact ⟨rfl, hb1⟩
    · have hf1 : f = 7 := hf.1
      have hf2 : D = [] := hf.2.1
      have hf3 : nx = 0 := hf.2.2
      subst hf1 hf2 hf3
      have e1 : errV 7 = .iface 23 (.int .i64 7) := rfl
      rw [e1] at hst
      have e2 : (if (7 : Nat) = 0 then (0 : Int) else -1) = -1 := rfl
      simp only [e2] at htu
      clear hf e1 e2
      by_cases t1 : 4 ≤ (s' : Int) <;> by_cases t2 : (s' : Int) ≤ 8
      all_goals first | (exfalso; omega) | skip
      all_goals
        go_enter Tryd.func4, Tryd.ntmps4
        go_wp2_with (fail)
        refine hfirst.mono ?_
        rintro x w1 ⟨rfl, m1, rfl⟩
        clear hfirst
        go_wp2_with (fail)
        refine (hst _ (h.drewN _)).mono ?_
        rintro x w1 ⟨rfl, m2, rfl⟩
        clear hst
        go_wp2_with (fail)
        refine (timed_any s' _).mono ?_
        rintro x w1 ⟨rfl, rfl⟩
        go_wp2_with (fail)
        refine (htu _).mono ?_
        rintro x w1 ⟨rfl, hb⟩
        have hb1 : Below w.heap.size w w1 := below_chain (below_drewN (Below.refl _ _) _) hb
        clear htu hb
        go_wp2_with (fail)
        refine (state_tail _).mono ?_
        rintro x w2 ⟨rfl, rfl⟩
        go_wp2_with (fail)
        go_ret
        exact ⟨rfl, hb1⟩
end autoSays
end Go.Proofs.YtakckdeadchflaaDoor
