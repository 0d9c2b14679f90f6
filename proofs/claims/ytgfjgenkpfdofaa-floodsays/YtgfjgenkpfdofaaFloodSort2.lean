/-
  States in a row, sorted by their owners: slices.SortFunc, of few.
-/
import Derived.Test.YtgfjgenkpfdofaaFloodSort
namespace Go.Proofs.Ytgfjgenkpfdofaa
open Go.RowKit St

set_option maxRecDepth 100000 in
set_option maxHeartbeats 2000000 in
theorem len_any (n : Nat) (hn : n ≤ 6) (w : World) : Calls Try.prog 47 #[.int .u64 (n : Int)] w fun e w' => ∃ r : Int, e = .returned (.int .i64 r) ∧ w = w' := by
  have h64 : ∀ W : World, Calls Try.prog 58 #[.int .u64 (n : Int)] W fun e w' => ∃ r : Int, e = .returned (.int .i64 r) ∧ W = w' := by
    intro W
    rcases (show n = 0 ∨ n = 1 ∨ n = 2 ∨ n = 3 ∨ n = 4 ∨ n = 5 ∨ n = 6 by omega) with rfl | rfl | rfl | rfl | rfl | rfl | rfl
    all_goals
      go_enter Try.func58, Try.ntmps58
      go_wp2
      go_ret
      exact ⟨_, rfl, rfl⟩
  go_enter Try.func47, Try.ntmps47
  go_wp2_with (fail)
  refine (h64 _).mono ?_
  rintro e w1 ⟨r, rfl, rfl⟩
  go_wp2_with (fail)
  go_ret
  exact ⟨_, rfl, rfl⟩

set_option maxRecDepth 100000 in
set_option maxHeartbeats 2000000 in
theorem pdq_any (g n cap : Nat) (L : Int) (ss : List SV) (w : World) (h : SR w g cap ss) (hl : ss.length = n) (hn : n ≤ 12) (hd : ss.Pairwise (fun x y => x.own ≠ y.own)) :
    Calls Try.prog 46 #[.slice (some ⟨g, 0, none⟩) n cap, .int .i64 0, .int .i64 (n : Int), .int .i64 L, .func (.func 40) #[] #[]] w fun e w' => e = .returned (.tuple #[]) ∧ ∃ ts, SR w' g cap ts ∧ ts.Perm ss ∧ Ris ts ∧ w.grownBy w' (some g) := by
  have hc := insort_any g n cap ss w h hl hn hd
  have h12 : (n : Int) ≤ 12 := by omega
  go_enter Try.func46, Try.ntmps46
  go_wp2_with (fail)
  refine wp_loop_rounds 1 ?_
  rw [rounds_succ]
  go_wp2_with (fail)
  refine hc.mono ?_
  rintro e w1 ⟨rfl, hE⟩
  have HE : Hid _ := hE
  clear hE hc
  go_wp2_with (fail)
  first | go_end0 | refine bodyPost_ret (results_none rfl _ _ _) rfl ?_
  exact ⟨rfl, HE.out⟩

set_option maxRecDepth 100000 in
set_option maxHeartbeats 2000000 in
theorem sort_any (g n cap : Nat) (ss : List SV) (w : World) (h : SR w g cap ss) (hl : ss.length = n) (hn : n ≤ 6) (hd : ss.Pairwise (fun x y => x.own ≠ y.own)) :
    Calls Try.prog 39 #[.slice (some ⟨g, 0, none⟩) n cap, .func (.func 40) #[] #[]] w fun e w' => e = .returned (.tuple #[]) ∧ ∃ ts, SR w' g cap ts ∧ ts.Perm ss ∧ Ris ts ∧ w.grownBy w' (some g) := by
  have hle := len_any n hn w
  have h12 : (n : Int) ≤ 6 := by omega
  go_enter Try.func39, Try.ntmps39
  go_wp2_with (fail)
  refine hle.mono ?_
  rintro e w1 ⟨r, rfl, rfl⟩
  go_wp2_with (fail)
  refine (pdq_any g n cap r ss w h hl (by omega) hd).mono ?_
  rintro e w2 ⟨rfl, hE⟩
  have HE : Hid _ := hE
  clear hE hle
  go_wp2_with (fail)
  first | go_end0 | refine bodyPost_ret (results_none rfl _ _ _) rfl ?_
  exact ⟨rfl, HE.out⟩
end Go.Proofs.Ytgfjgenkpfdofaa
