/-
  States that come one behind the other: what is known and owed, plainly.
-/
import Derived.Test.YtgfjgenkpfdofaaFloodBase2
namespace Go.Proofs.Ytgfjgenkpfdofaa
open Go.RowKit St

section
variable (S : Nat → SV) (E : Nat → List Opt) (pt : Nat → Nat)
def foldK : Nat → Int → Option PS
  | 0 => fun _ => none
  | i + 1 => takeK (foldK i) (S i).own (S i).seq (E i)
def foldO : Nat → Nat → Int → Option PS
  | 0 => fun _ _ => none
  | i + 1 => takeO (foldK S E i) (foldO i) (pt i) (S i).own (S i).seq (E i)
/-- The first of the newest of an owner. -/
def bst (n : Int) : Nat → Option Nat
  | 0 => none
  | i + 1 => if (S i).own = n then (match bst n i with
    | none => some i
    | some b => if 0 < newS (S i).seq (E i) (S b).seq (E b) then some i else some b) else bst n i
theorem foldK_at (n : Int) : ∀ i, foldK S E i n = (bst S E n i).map fun b => ((S b).seq, E b)
  | 0 => rfl
  | i + 1 => by
    have ih := foldK_at n i
    simp only [foldK, bst, takeK]
    by_cases h : (S i).own = n
    · subst h
      rw [if_pos rfl]
      cases hb : bst S E (S i).own i with
      | none =>
        rw [hb] at ih
        have hn : newF (foldK S E i) (S i).own (S i).seq (E i) = 1 := by rw [newF, ih]; rfl
        rw [hn]
        simp [updF]
      | some b =>
        rw [hb] at ih
        have hn : newF (foldK S E i) (S i).own (S i).seq (E i) = newS (S i).seq (E i) (S b).seq (E b) := by rw [newF, ih]; rfl
        rw [hn]
        by_cases h2 : 0 < newS (S i).seq (E i) (S b).seq (E b)
        · simp only [if_pos h2, updF]
          simp
        · simp only [if_neg h2]
          exact ih
    · rw [if_neg h]
      split
      · simp only [updF]
        rw [if_neg (fun e => h e.symm)]
        exact ih
      · exact ih
theorem bst_lt (n : Int) : ∀ i b, bst S E n i = some b → b < i ∧ (S b).own = n
  | 0, b, h => by simp [bst] at h
  | i + 1, b, h => by
    simp only [bst] at h
    by_cases ho : (S i).own = n
    · rw [if_pos ho] at h
      cases hb : bst S E n i with
      | none =>
        rw [hb] at h
        have : i = b := by simpa using h
        subst this
        exact ⟨Nat.lt_succ_self _, ho⟩
      | some c =>
        rw [hb] at h
        simp only at h
        split at h
        · have : i = b := by simpa using h
          subst this
          exact ⟨Nat.lt_succ_self _, ho⟩
        · have : c = b := by simpa using h
          subst this
          have := bst_lt n i c hb
          exact ⟨by omega, this.2⟩
    · rw [if_neg ho] at h
      have := bst_lt n i b h
      exact ⟨by omega, this.2⟩
/-- Does a port owe it, behind k more that came? -/
def owes (n : Int) (b p : Nat) : Nat → Bool
  | 0 => decide (p ≠ pt b)
  | k + 1 => if (S (b + 1 + k)).own = n ∧ pt (b + 1 + k) = p then decide (newS (S (b + 1 + k)).seq (E (b + 1 + k)) (S b).seq (E b) < 0) else owes n b p k
theorem takeO_other (K : Int → Option PS) (O : Nat → Int → Option PS) (q : Nat) (own seq : Int) (es : List Opt) (n : Int) (h : own ≠ n) (p : Nat) : takeO K O q own seq es p n = O p n := by
  have h' : n ≠ own := fun e => h e.symm
  simp only [takeO]
  by_cases hp : p = q
  · subst hp
    split
    · simp [delF, updF, h']
    · split
      · cases K own with
        | none => simp
        | some x => simp [updF, h']
      · simp [delF, h']
  · split
    · simp [updF, h']
    · split <;> simp
theorem foldO_at (n : Int) : ∀ i b, bst S E n i = some b → ∀ p, (foldO S E pt i p n).isSome = owes S E pt n b p (i - (b + 1))
  | 0, b, h => by simp [bst] at h
  | i + 1, b, h => by
    intro p
    have hlt := bst_lt S E n (i + 1) b h
    have hK := foldK_at S E n i
    simp only [foldO]
    simp only [bst] at h
    by_cases ho : (S i).own = n
    · rw [if_pos ho] at h
      cases hb : bst S E n i with
      | none =>
        rw [hb] at h hK
        have : i = b := by simpa using h
        subst this
        have hn : newF (foldK S E i) (S i).own (S i).seq (E i) = 1 := by rw [newF, ho, hK]; rfl
        rw [show i + 1 - (i + 1) = 0 by omega]
        simp only [takeO, hn, owes]
        by_cases hp : p = pt i
        · simp [hp, delF, ho]
        · simp [hp, updF, ho]
      | some c =>
        rw [hb] at h hK
        have hn : newF (foldK S E i) (S i).own (S i).seq (E i) = newS (S i).seq (E i) (S c).seq (E c) := by rw [newF, ho, hK]; rfl
        by_cases h2 : 0 < newS (S i).seq (E i) (S c).seq (E c)
        · simp only [if_pos h2] at h
          have : i = b := by simpa using h
          subst this
          rw [show i + 1 - (i + 1) = 0 by omega]
          simp only [takeO, hn, h2, owes, if_true]
          by_cases hp : p = pt i
          · simp [hp, delF, ho]
          · simp [hp, updF, ho]
        · simp only [if_neg h2] at h
          have : c = b := by simpa using h
          subst this
          have ih := foldO_at n i c hb p
          have hc := bst_lt S E n i c hb
          rw [show i + 1 - (c + 1) = (i - (c + 1)) + 1 by omega]
          simp only [owes]
          rw [show c + 1 + (i - (c + 1)) = i by omega]
          simp only [takeO, hn, if_neg h2]
          by_cases hp : p = pt i
          · subst hp
            by_cases h3 : newS (S i).seq (E i) (S c).seq (E c) < 0
            · simp only [if_pos h3, if_true, ho, hK, and_self, Option.map_some]
              simp [updF, h3]
            · simp only [if_neg h3, if_true, ho, and_self]
              simp [delF, h3]
          · rw [if_neg (show ¬ ((S i).own = n ∧ pt i = p) from fun e => hp e.2.symm), ← ih]
            simp only [if_neg hp, ite_self]
    · rw [if_neg ho] at h
      have ih := foldO_at n i b h p
      have hc := bst_lt S E n i b h
      rw [takeO_other _ _ _ _ _ _ _ ho, ih, show i + 1 - (b + 1) = (i - (b + 1)) + 1 by omega]
      simp only [owes]
      rw [show b + 1 + (i - (b + 1)) = i by omega, if_neg (fun e => ho e.1)]
end
end Go.Proofs.Ytgfjgenkpfdofaa
