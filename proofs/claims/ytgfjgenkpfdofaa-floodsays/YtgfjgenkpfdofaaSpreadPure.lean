/-
  Two who tell each other what they owe: what both come to know, plainly.
-/
import Derived.Test.YtgfjgenkpfdofaaFloodTwo
namespace Go.Proofs.Ytgfjgenkpfdofaa
open Go.RowKit St

/-- How new it is beside what is known. -/
def cmpO (s : PS) : Option PS → Int
  | none => 1
  | some q => newS s.1 s.2 q.1 q.2
theorem newF_cmpO (K : Int → Option PS) (own seq : Int) (es : List Opt) : newF K own seq es = cmpO (seq, es) (K own) := by
  unfold newF cmpO
  cases K own <;> rfl
/-- What one who tells owes behind it; what the other one knows; owes. -/
def nO (ox ky : Option PS) : Option PS := match ox with | none => none | some s => if 0 ≤ cmpO s ky then none else some s
def nK (ox ky : Option PS) : Option PS := match ox with | none => ky | some s => if 0 < cmpO s ky then some s else ky
def nP (ox ky oy : Option PS) : Option PS := match ox with | none => oy | some s => if 0 ≤ cmpO s ky then none else ky
def hit (S : Nat → SV) (k : Int) (j : Nat) : Bool := decide (∃ i, i < j ∧ (S i).own = k)
theorem hit_succ_same (S : Nat → SV) (j : Nat) : hit S (S j).own (j + 1) = true := decide_eq_true ⟨j, by omega, rfl⟩
theorem hit_succ_other (S : Nat → SV) (j : Nat) (k : Int) (h : k ≠ (S j).own) : hit S k (j + 1) = hit S k j := by
  unfold hit
  rw [decide_eq_decide]
  constructor
  · rintro ⟨i, h1, h2⟩
    refine ⟨i, ?_, h2⟩
    by_cases e : i = j
    · subst e
      exact absurd h2.symm h
    · omega
  · rintro ⟨i, h1, h2⟩
    exact ⟨i, by omega, h2⟩
theorem hit_not {F : Int → Option PS} {n : Nat} {S : Nat → SV} {E : Nat → List Opt} (h : Lists F n S E) (j : Nat) (hj : j < n) : hit S (S j).own j = false := by
  refine decide_eq_false ?_
  rintro ⟨i, h1, h2⟩
  have := h.ris i j h1 hj
  omega
theorem hit_all {F : Int → Option PS} {n : Nat} {S : Nat → SV} {E : Nat → List Opt} (h : Lists F n S E) (k : Int) (hk : inR k) (hs : (F k).isSome = true) : hit S k n = true := by
  obtain ⟨i, h1, h2⟩ := h.all k hk hs
  exact decide_eq_true ⟨i, h1, h2⟩
theorem hit_none {F : Int → Option PS} {n : Nat} {S : Nat → SV} {E : Nat → List Opt} (h : Lists F n S E) (k : Int) (hs : F k = none) (j : Nat) (hj : j ≤ n) : hit S k j = false := by
  refine decide_eq_false ?_
  rintro ⟨i, h1, h2⟩
  have := (h.at_ i (by omega)).2
  rw [h2, hs] at this
  cases this
section
variable (S : Nat → SV) (Ox Ky Oy : Int → Option PS)
def stO (j : Nat) : Int → Option PS := fun k => if hit S k j = true then nO (Ox k) (Ky k) else Ox k
def stK (j : Nat) : Int → Option PS := fun k => if hit S k j = true then nK (Ox k) (Ky k) else Ky k
def stP (j : Nat) : Int → Option PS := fun k => if hit S k j = true then nP (Ox k) (Ky k) (Oy k) else Oy k
theorem stO_zero : stO S Ox Ky 0 = Ox := by funext k; simp [stO, hit]
theorem stK_zero : stK S Ox Ky 0 = Ky := by funext k; simp [stK, hit]
theorem stP_zero : stP S Ox Ky Oy 0 = Oy := by funext k; simp [stP, hit]
end
section
variable {Ox Ky Oy : Int → Option PS} {n : Nat} {S : Nat → SV} {E : Nat → List Opt}
theorem newF_at (h : Lists Ox n S E) (j : Nat) (hj : j < n) : newF (stK S Ox Ky j) (S j).own (S j).seq (E j) = cmpO ((S j).seq, E j) (Ky (S j).own) := by
  rw [newF_cmpO]
  simp only [stK, hit_not h j hj, Bool.false_eq_true, if_false]
theorem stK_step (h : Lists Ox n S E) (j : Nat) (hj : j < n) : takeK (stK S Ox Ky j) (S j).own (S j).seq (E j) = stK S Ox Ky (j + 1) := by
  have hn := newF_at (Ky := Ky) h j hj
  have ho := (h.at_ j hj).2
  funext k
  simp only [takeK, hn]
  by_cases hk : k = (S j).own
  · subst hk
    have hh := hit_not h j hj
    have hs := hit_succ_same S j
    split
    · rename_i h1
      simp [updF, stK, hs, nK, ho, h1]
    · rename_i h1
      simp [stK, hs, hh, nK, ho, h1]
  · have hs := hit_succ_other S j k hk
    split
    · simp [updF, hk, stK, hs]
    · simp [stK, hs]
theorem stP_step (h : Lists Ox n S E) (j : Nat) (hj : j < n) (O : Nat → Int → Option PS) (hO : O 0 = stP S Ox Ky Oy j) : takeO (stK S Ox Ky j) O 0 (S j).own (S j).seq (E j) 0 = stP S Ox Ky Oy (j + 1) := by
  have hn := newF_at (Ky := Ky) h j hj
  have ho := (h.at_ j hj).2
  have hh := hit_not h j hj
  have hs := hit_succ_same S j
  funext k
  by_cases hk : k = (S j).own
  · subst hk
    simp only [takeO, hn, if_true, hO]
    by_cases h1 : 0 < cmpO ((S j).seq, E j) (Ky (S j).own)
    · have h2 : 0 ≤ cmpO ((S j).seq, E j) (Ky (S j).own) := by omega
      simp [h1, delF, stP, hs, nP, ho, h2]
    · by_cases h2 : cmpO ((S j).seq, E j) (Ky (S j).own) < 0
      · have h3 : ¬ 0 ≤ cmpO ((S j).seq, E j) (Ky (S j).own) := by omega
        have hK : stK S Ox Ky j (S j).own = Ky (S j).own := by simp [stK, hh]
        rw [if_neg h1, if_pos h2, hK]
        cases hky : Ky (S j).own with
        | none =>
          rw [hky] at h2
          simp [cmpO] at h2
        | some q =>
          rw [hky] at h3
          simp [updF, stP, hs, nP, ho, hky, h3]
      · have h3 : 0 ≤ cmpO ((S j).seq, E j) (Ky (S j).own) := by omega
        simp [h1, h2, delF, stP, hs, nP, ho, h3]
  · have hs2 := hit_succ_other S j k hk
    rw [takeO_other _ _ _ _ _ _ _ (fun e => hk e.symm), hO]
    simp [stP, hs2]
theorem stO_step (h : Lists Ox n S E) (j : Nat) (hj : j < n) : (if 0 ≤ cmpO ((S j).seq, E j) (Ky (S j).own) then delF (stO S Ox Ky j) (S j).own else stO S Ox Ky j) = stO S Ox Ky (j + 1) := by
  have ho := (h.at_ j hj).2
  have hh := hit_not h j hj
  have hs := hit_succ_same S j
  funext k
  by_cases hk : k = (S j).own
  · subst hk
    split
    · rename_i h1
      simp [delF, stO, hs, nO, ho, h1]
    · rename_i h1
      simp [stO, hs, hh, nO, ho, h1]
  · have hs2 := hit_succ_other S j k hk
    split
    · simp [delF, hk, stO, hs2]
    · simp [stO, hs2]
end
/-- What the newest of both is. -/
def mxO (kx ky : Option PS) : Option PS := nK kx ky
theorem cmp_self (s : PS) : cmpO s (some s) = 0 := newS_zero.2 ⟨rfl, rfl⟩
theorem cmp_anti (s q : PS) : cmpO s (some q) = - cmpO q (some s) := newS_anti _ _ _ _
theorem cmp_zero {s q : PS} (h : cmpO s (some q) = 0) : s = q := by
  have := newS_zero.1 h
  exact Prod.ext this.1 this.2
/-- Both ways, where all is owed. -/
theorem both_ways (kx ky : Option PS) : nK (nP kx ky ky) kx = mxO kx ky ∧ nK kx ky = mxO kx ky ∧ nP (nP kx ky ky) kx (nO kx ky) = none ∧ nO (nP kx ky ky) kx = none := by
  unfold mxO
  cases kx with
  | none =>
    cases ky with
    | none => simp [nK, nP, nO]
    | some t => simp [nK, nP, nO, cmpO]
  | some s =>
    cases ky with
    | none => simp [nK, nP, nO, cmpO]
    | some t =>
      have ha := cmp_anti s t
      by_cases h1 : 0 < cmpO s (some t)
      · have h2 : 0 ≤ cmpO s (some t) := by omega
        simp [nK, nP, nO, h1, h2]
      · by_cases h2 : cmpO s (some t) = 0
        · have := cmp_zero h2
          subst this
          simp [nK, nP, nO, h2]
        · have h3 : ¬ 0 ≤ cmpO s (some t) := by omega
          have h4 : 0 < cmpO t (some s) := by omega
          have h5 : 0 ≤ cmpO t (some s) := by omega
          simp [nK, nP, nO, h1, h3, h4, h5]
theorem mx_left {kx ky : Option PS} {s : PS} (h : kx = some s) : ∃ q, mxO kx ky = some q ∧ ¬ 0 < newS s.1 s.2 q.1 q.2 := by
  subst h
  unfold mxO
  cases ky with
  | none => exact ⟨s, by simp [nK, cmpO], by rw [newS_zero.2 ⟨rfl, rfl⟩]; omega⟩
  | some t =>
    by_cases h1 : 0 < cmpO s (some t)
    · exact ⟨s, by simp [nK, h1], by rw [newS_zero.2 ⟨rfl, rfl⟩]; omega⟩
    · exact ⟨t, by simp [nK, h1], h1⟩
theorem mx_right {kx ky : Option PS} {t : PS} (h : ky = some t) : ∃ q, mxO kx ky = some q ∧ ¬ 0 < newS t.1 t.2 q.1 q.2 := by
  subst h
  unfold mxO
  cases kx with
  | none => exact ⟨t, by simp [nK], by rw [newS_zero.2 ⟨rfl, rfl⟩]; omega⟩
  | some s =>
    have ha := cmp_anti s t
    by_cases h1 : 0 < cmpO s (some t)
    · refine ⟨s, by simp [nK, h1], ?_⟩
      show ¬ 0 < cmpO t (some s)
      omega
    · exact ⟨t, by simp [nK, h1], by rw [newS_zero.2 ⟨rfl, rfl⟩]; omega⟩
/-- What is owed is what is known. -/
theorem foldO_inv (S : Nat → SV) (E : Nat → List Opt) : ∀ (i : Nat) (k : Int), foldO S E (fun _ => 0) i 0 k = none ∨ foldO S E (fun _ => 0) i 0 k = foldK S E i k
  | 0, k => .inl rfl
  | i + 1, k => by
    have ih := foldO_inv S E i k
    simp only [foldO, foldK]
    by_cases hk : k = (S i).own
    · subst hk
      simp only [takeO, takeK, if_true]
      by_cases h1 : 0 < newF (foldK S E i) (S i).own (S i).seq (E i)
      · left
        simp [h1, delF]
      · by_cases h2 : newF (foldK S E i) (S i).own (S i).seq (E i) < 0
        · right
          rw [if_neg h1, if_pos h2, if_neg h1]
          cases hK : foldK S E i (S i).own with
          | none =>
            rw [newF, hK] at h2
            simp at h2
          | some q => simp [updF]
        · left
          simp [h1, h2, delF]
    · rw [takeO_other _ _ _ _ _ _ _ (fun e => hk e.symm)]
      have : takeK (foldK S E i) (S i).own (S i).seq (E i) k = foldK S E i k := by
        simp only [takeK]
        split
        · simp [updF, hk]
        · rfl
      rw [this]
      exact ih
theorem over_inv {O K : Int → Option PS} (h : ∀ k, O k = none ∨ O k = K k) : overF O K = K := by
  funext k
  simp only [overF]
  cases e : K k with
  | none =>
    rcases h k with h1 | h1
    · simp [h1]
    · simp [h1, e]
  | some q => simp
end Go.Proofs.Ytgfjgenkpfdofaa
