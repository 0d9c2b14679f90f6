/-
  Frames read: of a frame's bytes just what it carries is told.
-/
import Derived.Test.YtnafklmigndgeaaAllWalk
namespace Go.Proofs.Ytnafklmigndgeaa
open Go.RowKit Plain

theorem esc_facts : ∀ c : UInt8, isEsc c = true → (c ^^^ 32 ≠ 126 ∧ ¬ c ^^^ 32 < 32 ∧ c ^^^ 32 ≠ 125) ∧ c ^^^ 32 ^^^ 32 = c := by
  have h : ∀ n : Fin 256, isEsc (UInt8.ofNat n) = true → (UInt8.ofNat n ^^^ 32 ≠ 126 ∧ ¬ UInt8.ofNat n ^^^ 32 < 32 ∧ UInt8.ofNat n ^^^ 32 ≠ 125) ∧ UInt8.ofNat n ^^^ 32 ^^^ 32 = UInt8.ofNat n := by decide +kernel
  intro c
  have := h ⟨c.toNat, c.toNat_lt⟩
  simpa using this
theorem plain_facts : ∀ c : UInt8, isEsc c = false → c ≠ 126 ∧ ¬ c < 32 ∧ c ≠ 125 := by
  intro c h
  unfold isEsc at h
  simp at h
  exact ⟨h.1.1, by rw [UInt8.lt_iff_toNat_lt]; have := h.2; rw [UInt8.le_iff_toNat_le] at this; omega, h.1.2⟩

theorem foldl_acc : ∀ (l : List UInt8) (o : List (List UInt8)) (n : Nat) (st : RState), l.foldl stepA (o, n, st) = (o ++ (l.foldl stepA ([], 0, st)).1, n + (l.foldl stepA ([], 0, st)).2.1, (l.foldl stepA ([], 0, st)).2.2)
  | [], o, n, st => by simp
  | c :: l, o, n, st => by
    have key : ∀ (o : List (List UInt8)) (n : Nat), stepA (o, n, st) c = (o ++ (stepA ([], 0, st) c).1, n + (stepA ([], 0, st) c).2.1, (stepA ([], 0, st) c).2.2) := by
      intro o n
      unfold stepA
      simp only
      split
      · simp
      · split <;> simp
    rw [List.foldl_cons, List.foldl_cons, key o n, foldl_acc l (o ++ _) _ _]
    obtain ⟨x, y, z, e⟩ : ∃ x y z, stepA ([], 0, st) c = (x, y, z) := ⟨_, _, _, rfl⟩
    rw [e]
    simp only
    rw [foldl_acc l x y z]
    simp [Nat.add_assoc]
theorem allR_append (st : RState) (a b : List UInt8) : allR st (a ++ b) = ((allR st a).1 ++ (allR (allR st a).2.2 b).1, (allR st a).2.1 + (allR (allR st a).2.2 b).2.1, (allR (allR st a).2.2 b).2.2) := by
  unfold allR
  rw [List.foldl_append]
  exact foldl_acc b _ _ _

/-- A byte that is no flag: nothing is told. -/
theorem step_add (o : List (List UInt8)) (n : Nat) (l : List UInt8) (e d : Bool) (c : UInt8) (h : c ≠ 126) : stepA (o, n, (l, e, d)) c = (o, n, addR (l, e, d) c) := by
  simp [stepA, takeA, takeR, h]
theorem read_escB (o : List (List UInt8)) (n : Nat) (l : List UInt8) (c : UInt8) (h : l.length < 62) : (escB c).foldl stepA (o, n, (l, false, false)) = (o, n, (l ++ [c], false, false)) := by
  unfold escB
  by_cases hc : isEsc c = true
  · obtain ⟨⟨h1, h2, h3⟩, h4⟩ := esc_facts c hc
    rw [if_pos hc, List.foldl_cons, List.foldl_cons, List.foldl_nil, step_add o n l false false 125 (by decide)]
    have e1 : addR (l, false, false) 125 = (l, true, false) := by simp [addR]
    rw [e1, step_add _ _ _ _ _ _ h1]
    have e2 : addR (l, true, false) (c ^^^ 32) = (l ++ [c ^^^ 32 ^^^ 32], false, false) := by
      simp [addR, h2, h3, Nat.ne_of_lt h]
    rw [e2, h4]
  · have hc' : isEsc c = false := by simpa using hc
    obtain ⟨h1, h2, h3⟩ := plain_facts c hc'
    rw [if_neg hc, List.foldl_cons, List.foldl_nil, step_add _ _ _ _ _ _ h1]
    have e2 : addR (l, false, false) c = (l ++ [c], false, false) := by
      simp [addR, h2, h3, Nat.ne_of_lt h]
    rw [e2]
theorem read_escL (o : List (List UInt8)) (n : Nat) : ∀ (m l : List UInt8), l.length + m.length ≤ 62 → (escL m).foldl stepA (o, n, (l, false, false)) = (o, n, (l ++ m, false, false))
  | [], l, _ => by simp [escL]
  | c :: m, l, h => by
    have h' : l.length + (m.length + 1) ≤ 62 := by simpa using h
    have e : escL (c :: m) = escB c ++ escL m := by simp [escL]
    rw [e, List.foldl_append, read_escB o n l c (by omega), read_escL o n m (l ++ [c]) (by simp; omega)]
    simp
theorem told_withSum (l : List UInt8) : toldR (withSum l) false false = (l, true, 0) := by
  have hl : (withSum l).length = l.length + 2 := withSum_length l
  have ht : (withSum l).take ((withSum l).length - 2) = l := by rw [hl]; simp [withSum]
  have e1 : (withSum l).getD ((withSum l).length - 2) 0 = sumLo l := by
    rw [hl]; simp [withSum]
  have e2 : (withSum l).getD ((withSum l).length - 1) 0 = sumHi l := by
    rw [hl]; simp [withSum]
  unfold toldR
  rw [if_neg (by simp), if_neg (by omega), if_neg (by omega), e1, e2, ht, if_pos]
  rw [sumLo_nat, sumHi_nat]
  omega
/-- A frame's bytes: what it carries is told, no more; behind it the reader is as at the beginning. -/
theorem allR_frame (l : List UInt8) (h : l.length ≤ 60) : allR ([], false, false) (frameL l) = ([l], 0, ([], false, false)) := by
  unfold allR frameL
  rw [List.foldl_cons, List.foldl_append]
  have e0 : stepA ([], 0, ([], false, false)) 126 = ([], 0, ([], false, false)) := by simp [stepA, takeA, takeR, toldR]
  rw [e0, read_escL [] 0 (withSum l) [] (by rw [withSum_length]; simp; omega)]
  simp [stepA, takeA, takeR, told_withSum]
/-- Inside of a frame there is no flag, nor a byte below 32. -/
theorem escL_mem : ∀ (m : List UInt8) (c : UInt8), c ∈ escL m → c ≠ 126 ∧ ¬ c < 32 := by
  intro m c hc
  unfold escL at hc
  rw [List.mem_flatMap] at hc
  obtain ⟨x, _, hx⟩ := hc
  unfold escB at hx
  by_cases hq : isEsc x = true
  · rw [if_pos hq] at hx
    obtain ⟨⟨h1, h2, h3⟩, h4⟩ := esc_facts x hq
    simp at hx
    rcases hx with rfl | rfl
    · exact ⟨by decide, by decide⟩
    · exact ⟨h1, h2⟩
  · rw [if_neg hq] at hx
    have := plain_facts x (by simpa using hq)
    simp at hx
    subst hx
    exact ⟨this.1, this.2.1⟩
theorem frameL_length (l : List UInt8) : (frameL l).length = (escL (withSum l)).length + 2 := by simp [frameL]
theorem frameL_in (l : List UInt8) (i : Nat) (h1 : 1 ≤ i) (h2 : i + 1 < (frameL l).length) : (frameL l)[i] ≠ 126 ∧ ¬ (frameL l)[i] < 32 := by
  obtain ⟨j, rfl⟩ : ∃ j, i = j + 1 := ⟨i - 1, by omega⟩
  rw [frameL_length] at h2
  have : (frameL l)[j + 1]'(by rw [frameL_length]; omega) = (escL (withSum l))[j] := by
    simp [frameL, List.getElem_append_left (show j < (escL (withSum l)).length by omega)]
  rw [this]
  exact escL_mem (withSum l) _ (List.getElem_mem _)
theorem frameL_le (l : List UInt8) (h : l.length ≤ 60) : (frameL l).length ≤ 126 := by
  rw [frameL_length]
  have := escL_le (withSum l)
  rw [withSum_length] at this
  omega
theorem frameL_ge (l : List UInt8) : 2 ≤ (frameL l).length := by rw [frameL_length]; omega
end Go.Proofs.Ytnafklmigndgeaa
