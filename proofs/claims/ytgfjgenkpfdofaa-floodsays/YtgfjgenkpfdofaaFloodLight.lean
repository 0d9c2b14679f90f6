/-
  What stands ahead of the laws over bases: lightList, based.
-/
import Derived.Test.YtgfjgenkpfdofaaFloodRead
namespace Go.Proofs.Ytgfjgenkpfdofaa
open Go.RowKit St

theorem hS3 (seq : Int) (es : List Opt) : ∀ q : PS, newS seq es q.1 q.2 = -1 ∨ newS seq es q.1 q.2 = 0 ∨ newS seq es q.1 q.2 = 1 := fun _ => newS_three _ _ _ _
theorem one_listed {F : Int → Option PS} {n : Nat} {S : Nat → SV} {E : Nat → List Opt} (h : Lists F n S E) (k : Int) (hk : inR k) (h1 : (F k).isSome = true) (h2 : ∀ x, x ≠ k → F x = none) : n = 1 := by
  obtain ⟨j, hj, ho⟩ := h.all k hk h1
  by_cases h2n : 2 ≤ n
  · have e0 : (S 0).own = k := by
      by_cases e : (S 0).own = k
      · exact e
      · have := (h.at_ 0 (by omega)).2
        rw [h2 _ e] at this
        cases this
    have e1 : (S 1).own = k := by
      by_cases e : (S 1).own = k
      · exact e
      · have := (h.at_ 1 (by omega)).2
        rw [h2 _ e] at this
        cases this
    have := h.ris 0 1 (by omega) (by omega)
    omega
  · omega
end Go.Proofs.Ytgfjgenkpfdofaa
