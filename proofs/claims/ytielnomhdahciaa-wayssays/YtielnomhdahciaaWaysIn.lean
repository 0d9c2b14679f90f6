/-
  Edges lead from one of 1 to 6 to another one.
-/
import Derived.Test.YtielnomhdahciaaWaysNear
namespace Go.Proofs.Ytielnomhdahciaa
open St

theorem tell_diag (S : Nat → SV) (E : Nat → List Opt) : ∀ n, (∀ j, j < n → stF (S j).own (S j).seq (E j) = 0) → ∀ x, tellF S E n x x = 0
  | 0, _, x => rfl
  | n + 1, h, x => by
    have ih := tell_diag S E n (fun j hj => h j (by omega)) x
    have hz := h n (by omega)
    have ho := (stF_zero hz).1
    have he := (stF_zero hz).2.2.2
    simp only [tellF, putE]
    generalize E n = es at he
    generalize tellF S E n = C at ih
    have he2 : ∃ ah : Int, edgF (S n).own ah es = 0 := ⟨0, he⟩
    clear he
    induction es generalizing C with
    | nil => exact ih
    | cons e es ihs =>
      rw [List.foldl_cons]
      obtain ⟨ah, he⟩ := he2
      simp only [edgF] at he
      split at he
      · cases he
      · rename_i h1
        split at he
        · cases he
        · rename_i h2
          refine ihs _ ?_ ⟨_, he⟩
          simp only [updG]
          rw [if_neg (by omega)]
          exact ih
/-- An edge leads from one of 1 to 6 to another one. -/
theorem tell_in (S : Nat → SV) (E : Nat → List Opt) : ∀ n, (∀ j, j < n → stF (S j).own (S j).seq (E j) = 0) → ∀ x y, 0 < tellF S E n x y → (1 ≤ x ∧ x ≤ 6) ∧ 1 ≤ y ∧ y ≤ 6
  | 0, _, x, y, h => by simp [tellF] at h
  | n + 1, h, x, y, hp => by
    have ih := tell_in S E n (fun j hj => h j (by omega))
    have hz := h n (by omega)
    have ho := (stF_zero hz).1
    have he := edgF_all _ (E n) 0 (stF_zero hz).2.2.2
    simp only [tellF, putE] at hp
    generalize E n = es at he hp
    generalize tellF S E n = C at ih hp
    induction es generalizing C with
    | nil => exact ih x y hp
    | cons e es ihs =>
      rw [List.foldl_cons] at hp
      refine ihs (fun q hq => he q (by simp [hq])) _ (fun u v huv => ?_) hp
      have h1 := he e (by simp)
      simp only [updG] at huv
      split at huv
      · rename_i h2
        omega
      · exact ih u v huv
theorem both_diag (S : Nat → SV) (E : Nat → List Opt) (n : Nat) (h : ∀ j, j < n → stF (S j).own (S j).seq (E j) = 0) (x : Nat) : bothG (tellF S E n) x x = 0 := by
  simp only [bothG, tell_diag S E n h x]
  rfl
theorem both_in (S : Nat → SV) (E : Nat → List Opt) (n : Nat) (h : ∀ j, j < n → stF (S j).own (S j).seq (E j) = 0) (x y : Nat) (hp : 0 < bothG (tellF S E n) x y) : (1 ≤ x ∧ x ≤ 6) ∧ 1 ≤ y ∧ y ≤ 6 := by
  simp only [bothG] at hp
  split at hp
  · exact tell_in S E n h x y hp
  · omega
end Go.Proofs.Ytielnomhdahciaa
