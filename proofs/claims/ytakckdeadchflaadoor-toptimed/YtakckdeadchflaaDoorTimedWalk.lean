/-
  'TopTimed' returns true at every state and list of events, and changes nothing that was there.
-/
import Derived.Test.YtakckdeadchflaaDoorUpWalk
namespace Go.Proofs.YtakckdeadchflaaDoor
open Go.RowKit
namespace topTimed

set_option maxRecDepth 100000 in
theorem number_seven (w : World) : Calls Tryd.prog 28 #[.iface 23 (.int .i64 7)] w fun x w' => x = .returned (.int .i64 7) ∧ w = w' := by
  have hta := assertErr
  go_enter Tryd.func28, Tryd.ntmps28
  go_wp2
  go_ret
  exact ⟨rfl, rfl⟩

theorem over_ok : ∀ s, s < 10 → ((4 ≤ s ∧ s ≤ 8) ∧ (stepR s 5 = ([102], 2, 0) ∨ stepR s 5 = ([102], 3, 0))) ∨ (¬ (4 ≤ s ∧ s ≤ 8) ∧ stepR s 5 = ([], 0, 7) ∧ (s ≤ 3 ∨ s = 9)) := by decide +kernel

set_option maxRecDepth 100000 in
set_option maxHeartbeats 4000000 in
theorem walk (t : Int) (a : Option Addr) (n cap : Nat) (xs : List Int) (w : World) (h : TabOk w) (hx : IntsR w a n xs) (hn : n ≤ maxLen) :
    Calls Tryd.prog 7 #[.int .i64 t, .slice a n cap] w fun x w' => x = .returned (.bool true) ∧ Below w.heap.size w w' := by
  have hfirst := step_as 4 5 [102] 2 0 (by decide +kernel) w h
  have e0 : errV 0 = .nilIface := rfl
  rw [e0] at hfirst
  unfold maxLen at hn
  have quit : ∀ (Q : Prop), (t < 0 → Q) → (¬ t < 0 → 9 < t → Q) → (¬ t < 0 → ¬ 9 < t → (100 : Int) < (n : Int) → Q) → (¬ t < 0 → ¬ 9 < t → ¬ (100 : Int) < (n : Int) → Q) → Q := by
    intro Q a b c d
    by_cases h1 : t < 0
    · exact a h1
    · by_cases h2 : 9 < t
      · exact b h1 h2
      · by_cases h3 : (100 : Int) < (n : Int)
        · exact c h1 h2 h3
        · exact d h1 h2 h3
  refine quit _ ?_ ?_ ?_ ?_ <;> clear quit
  · intros
    go_enter Tryd.func7, Tryd.ntmps7
    go_wp2_with (fail)
    refine hfirst.mono ?_
    rintro x w1 ⟨rfl, m1, rfl⟩
    clear hfirst
    go_wp2_with (fail)
    go_ret
    exact ⟨rfl, below_drewN (Below.refl _ _) _⟩
  · intros
    go_enter Tryd.func7, Tryd.ntmps7
    go_wp2_with (fail)
    refine hfirst.mono ?_
    rintro x w1 ⟨rfl, m1, rfl⟩
    clear hfirst
    go_wp2_with (fail)
    go_ret
    exact ⟨rfl, below_drewN (Below.refl _ _) _⟩
  · intros
    go_enter Tryd.func7, Tryd.ntmps7
    go_wp2_with (fail)
    refine hfirst.mono ?_
    rintro x w1 ⟨rfl, m1, rfl⟩
    clear hfirst
    go_wp2_with (fail)
    go_ret
    exact ⟨rfl, below_drewN (Below.refl _ _) _⟩
  · intro t1 t2 t3
    obtain ⟨t', rfl⟩ : ∃ t' : Nat, t = t' := ⟨t.toNat, by omega⟩
    go_enter Tryd.func7, Tryd.ntmps7
    go_wp2_with (fail)
    refine hfirst.mono ?_
    rintro x w1 ⟨rfl, m1, rfl⟩
    clear hfirst
    go_wp2_with (fail)
    go_loopw [0, 8] (fun at' i wr => ∃ k s m : Nat, k ≤ n ∧ s < 10 ∧ at' = .int .i64 s ∧ i = .int .i64 k ∧ wr = w.drewN m) (fun _ i _ => n - (intOf i).toNat)
    case atStart => exact ⟨0, t', m1, Nat.zero_le _, by omega, rfl, rfl, rfl⟩
    case round =>
      obtain ⟨k, s, m, hk, hs, rfl, rfl, rfl⟩ := hrel
      by_cases hlt : k < n
      · rcases hx.2 with h0 | ⟨b, off, rfl, hc⟩
        · omega
        have c1 := hc k (by rw [hx.1]; exact hlt)
        generalize xs[k]'(by rw [hx.1]; exact hlt) = ev at c1
        clear hc
        have hlt' : (k : Int) < (n : Int) := by omega
        obtain ⟨D, nx, f, hR⟩ : ∃ D nx f, stepI s ev = (D, nx, f) := ⟨_, _, _, rfl⟩
        have hst := step_as s ev D nx f hR (w.drewN m) (h.drewN m)
        have hcase : (f ≠ 0) ∨ (f = 0 ∧ 0 ≤ nx ∧ nx < 10) := by
          by_cases ho : (s : Int) < 0 ∨ 10 ≤ (s : Int) ∨ ev < 0 ∨ 12 ≤ ev
          · left
            unfold stepI at hR
            rw [if_pos ho] at hR
            simp only [Prod.mk.injEq] at hR
            omega
          · obtain ⟨e', rfl⟩ : ∃ e' : Nat, ev = e' := ⟨ev.toNat, by omega⟩
            rw [stepI_in s e' hs (by omega)] at hR
            have := topUp.upL_ok e' (by omega) s hs
            rw [hR] at this
            by_cases hf : f = 0
            · exact .inr ⟨hf, (this hf).2.2⟩
            · exact .inl hf
        rcases hcase with hf | ⟨hf, hn0, hn9⟩
        · have e1 : errV f = .iface 23 (.int .i64 (f : Int)) := by simp [errV, hf]
          rw [e1] at hst
          clear hR e1 e0
          go_wp2_with (fail)
          refine hst.mono ?_
          rintro x w1 ⟨rfl, m2, rfl⟩
          clear hst
          go_wp2_with (fail)
          go_roundw
          case rel => exact ⟨k + 1, s, _, by omega, hs, rfl, by go_num, rfl⟩
          case measure => simp [intOf]; omega
        · subst hf
          rw [e0] at hst
          obtain ⟨s', rfl⟩ : ∃ s' : Nat, nx = s' := ⟨nx.toNat, by omega⟩
          clear hR e0
          go_wp2_with (fail)
          refine hst.mono ?_
          rintro x w1 ⟨rfl, m2, rfl⟩
          clear hst
          go_wp2_with (fail)
          go_roundw
          case rel => exact ⟨k + 1, s', _, by omega, by omega, rfl, by go_num, rfl⟩
          case measure => simp [intOf]; omega
      · have hst := fun D nx f hR => step_as s (5 : Nat) D nx f hR (w.drewN m) (h.drewN m)
        rw [stepI_in s 5 hs (by decide)] at hst
        have htm := timed_any (s : Int) (w.drewN m)
        rcases over_ok s hs with ⟨⟨a1, a2⟩, hv⟩ | ⟨hno, hv, hends⟩
        · have ht : (decide (4 ≤ (s : Int)) && decide ((s : Int) ≤ 8)) = true := by simp; omega
          rw [ht] at htm
          rcases hv with hv | hv
          all_goals
            have hst1 := hst _ _ _ hv
            rw [e0] at hst1
            clear hst hv ht e0
            go_wp2_with (fail)
            refine htm.mono ?_
            rintro x w1 ⟨rfl, rfl⟩
            clear htm
            go_wp2_with (fail)
            refine hst1.mono ?_
            rintro x w1 ⟨rfl, m2, rfl⟩
            clear hst1
            go_wp2_with (fail)
            go_ret
            exact ⟨rfl, below_drewN (Below.refl _ _) _⟩
        · have ht : (decide (4 ≤ (s : Int)) && decide ((s : Int) ≤ 8)) = false := by
            simp only [Bool.and_eq_false_iff, decide_eq_false_iff_not]
            omega
          rw [ht] at htm
          have hst1 := hst _ _ _ hv
          have e1 : errV 7 = .iface 23 (.int .i64 7) := rfl
          rw [e1] at hst1
          clear hst hv ht e0 e1
          by_cases h3 : (s : Int) ≤ 3
          all_goals
            go_wp2_with (fail)
            refine htm.mono ?_
            rintro x w1 ⟨rfl, rfl⟩
            clear htm
            go_wp2_with (fail)
            refine hst1.mono ?_
            rintro x w1 ⟨rfl, m2, rfl⟩
            clear hst1
            go_wp2_with (fail)
            refine (number_seven _).mono ?_
            rintro x w1 ⟨rfl, rfl⟩
            go_wp2_with (fail)
            go_ret
            refine ⟨?_, below_drewN (Below.refl _ _) _⟩
            first
              | rfl
              | (have hs9 : s = 9 := by omega
                 subst hs9
                 rfl)
end topTimed
end Go.Proofs.YtakckdeadchflaaDoor
