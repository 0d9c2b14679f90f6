/-
  The plain mathematics: the reader, byte by byte, and the document's Reading agree.
-/
import Derived.Test.YtnafklmigndgeaaReadingWalk
import Derived.Test.YtnafklmigndgeaaFrames
namespace Go.Proofs.Ytnafklmigndgeaa
open Go.RowKit Plain

def stateOf (r : List UInt8) : RState := r.foldl addR ([], false, false)
theorem stateOf_snoc (r : List UInt8) (c : UInt8) : stateOf (r ++ [c]) = addR (stateOf r) c := by simp [stateOf]

theorem bad_addR (l : List UInt8) (e : Bool) (c : UInt8) : (addR (l, e, true) c).2.2 = true := by
  simp only [addR]
  split
  · rfl
  · split
    · rfl
    · split <;> rfl
theorem bad_stays : ∀ (s l : List UInt8) (e : Bool), (s.foldl addR (l, e, true)).2.2 = true
  | [], _, _ => rfl
  | c :: s, l, e => by
    obtain ⟨l', e', d', h⟩ : ∃ l' e' d', addR (l, e, true) c = (l', e', d') := ⟨_, _, _, rfl⟩
    have hd := bad_addR l e c
    rw [h] at hd
    simp only at hd
    subst hd
    rw [List.foldl_cons, h]
    exact bad_stays s l' e'

theorem carB_state : ∀ (s b : List UInt8), b.length ≤ 62 →
    (carB s b = none ∧ ((s.foldl addR (b, false, false)).2.2 = true ∨ (s.foldl addR (b, false, false)).2.1 = true)) ∨
    (carB s b = some (s.foldl addR (b, false, false)).1 ∧ (s.foldl addR (b, false, false)).2.1 = false ∧ (s.foldl addR (b, false, false)).2.2 = false)
  | [], b, _ => .inr ⟨by simp [carB], rfl, rfl⟩
  | c :: s, b, hb => by
    rw [List.foldl_cons]
    by_cases h1 : c < 32
    · left
      have e1 : addR (b, false, false) c = (b, false, true) := by simp [addR, h1]
      rw [carB_low c s b h1, e1]
      exact ⟨rfl, .inl (bad_stays _ _ _)⟩
    · by_cases h2 : c = 125
      · subst h2
        have e1 : addR (b, false, false) 125 = (b, true, false) := by simp [addR]
        rw [e1]
        match s with
        | [] => exact .inl ⟨carB_end b, .inr rfl⟩
        | x :: r =>
          rw [List.foldl_cons]
          by_cases h3 : x = 125 ∨ x < 32
          · left
            rw [carB_esc_bad x r b h3]
            have e2 : addR (b, true, false) x = (b, true, true) := by
              rcases h3 with h3 | h3 <;> simp [addR, h3]
            rw [e2]
            exact ⟨rfl, .inl (bad_stays _ _ _)⟩
          · have hx1 : ¬ x = 125 := fun e => h3 (.inl e)
            have hx2 : ¬ x < 32 := fun e => h3 (.inr e)
            by_cases h4 : 62 ≤ b.length
            · left
              have h62 : b.length = 62 := by omega
              rw [carB_esc_full x r b h4]
              have e2 : addR (b, true, false) x = (b, false, true) := by simp [addR, hx1, hx2, h62]
              rw [e2]
              exact ⟨rfl, .inl (bad_stays _ _ _)⟩
            · have h62 : ¬ b.length = 62 := by omega
              rw [carB_esc x r b h3 h4]
              have e2 : addR (b, true, false) x = (b ++ [x ^^^ 32], false, false) := by simp [addR, hx1, hx2, h62]
              rw [e2]
              exact carB_state r (b ++ [x ^^^ 32]) (by simp; omega)
      · by_cases h4 : 62 ≤ b.length
        · left
          have h62 : b.length = 62 := by omega
          rw [carB_full c s b h1 h2 h4]
          have e2 : addR (b, false, false) c = (b, false, true) := by simp [addR, h1, h2, h62]
          rw [e2]
          exact ⟨rfl, .inl (bad_stays _ _ _)⟩
        · have h62 : ¬ b.length = 62 := by omega
          rw [carB_plain c s b h1 h2 h4]
          have e2 : addR (b, false, false) c = (b ++ [c], false, false) := by simp [addR, h1, h2, h62]
          rw [e2]
          exact carB_state s (b ++ [c]) (by simp; omega)
  termination_by s => s.length

theorem carB_grows_n : ∀ (n : Nat) (s b l : List UInt8), s.length ≤ n → carB s b = some l → s ≠ [] → b.length < l.length
  | _, [], _, _, _, _, h => absurd rfl h
  | 0, _ :: _, _, _, h, _, _ => by simp at h
  | n + 1, c :: s, b, l, hn, h, _ => by
    have hn' : s.length ≤ n := by simpa using hn
    by_cases h1 : c < 32
    · rw [carB_low c s b h1] at h; simp at h
    · by_cases h2 : c = 125
      · subst h2
        match s, hn', h with
        | [], _, h => rw [carB_end] at h; simp at h
        | x :: r, hn', h =>
          by_cases h3 : x = 125 ∨ x < 32
          · rw [carB_esc_bad x r b h3] at h; simp at h
          · by_cases h4 : 62 ≤ b.length
            · rw [carB_esc_full x r b h4] at h; simp at h
            · rw [carB_esc x r b h3 h4] at h
              by_cases hr : r = []
              · subst hr; simp [carB] at h; subst h; simp
              · have := carB_grows_n n r _ l (by simp at hn'; omega) h hr; simp at this; omega
      · by_cases h4 : 62 ≤ b.length
        · rw [carB_full c s b h1 h2 h4] at h; simp at h
        · rw [carB_plain c s b h1 h2 h4] at h
          by_cases hr : s = []
          · subst hr; simp [carB] at h; subst h; simp
          · have := carB_grows_n n s _ l hn' h hr; simp at this; omega
theorem carB_grows (s b l : List UInt8) (h : carB s b = some l) (hs : s ≠ []) : b.length < l.length := carB_grows_n s.length s b l (Nat.le_refl _) h hs

/-- At a flag, something having come since the last one, the reader tells what the document's Carried answers. -/
theorem told_state (r : List UInt8) (h : r ≠ []) : toldR (stateOf r).1 (stateOf r).2.1 (stateOf r).2.2 = ((carriedR r).1, true, (carriedR r).2) := by
  rcases carB_state r [] (by simp) with ⟨h1, h2⟩ | ⟨h1, h2, h3⟩
  · have e1 : carriedR r = ([], 4) := by unfold carriedR; rw [h1]
    have h2' : (stateOf r).2.2 = true ∨ (stateOf r).2.1 = true := h2
    rw [e1]
    unfold toldR
    rw [if_pos h2']
  · have hg := carB_grows r [] _ h1 h
    have h2' : (stateOf r).2.1 = false := h2
    have h3' : (stateOf r).2.2 = false := h3
    have e1 : carriedR r = endR (stateOf r).1 := by unfold carriedR; rw [h1]; rfl
    have hg' : 0 < (stateOf r).1.length := hg
    rw [e1, h2', h3']
    unfold toldR endR
    rw [if_neg (by simp), if_neg (by omega)]
    split
    · rfl
    · split <;> rfl

theorem step_agree (o : List (List UInt8)) (bl : List Nat) (r : List UInt8) (c : UInt8) : stepA (o, bl.length, stateOf r) c = ((stepB (o, bl, r) c).1, (stepB (o, bl, r) c).2.1.length, stateOf (stepB (o, bl, r) c).2.2) := by
  by_cases hc : c = 126
  · subst hc
    by_cases hr : r = []
    · subst hr
      simp [stepA, stepB, takeA, takeR, stateOf, toldR]
    · have ht := told_state r hr
      have e0 : stateOf [] = ([], false, false) := rfl
      unfold stepA stepB takeA takeR
      simp only [ht, if_true, hr, if_false]
      by_cases hf : (carriedR r).2 = 0
      · simp [hf, e0]
      · simp [hf, e0]
  · have e1 : stepB (o, bl, r) c = (o, bl, r ++ [c]) := by simp [stepB, hc]
    rw [e1, step_add _ _ _ _ _ _ hc, stateOf_snoc]
theorem foldl_agree : ∀ (p : List UInt8) (o : List (List UInt8)) (bl : List Nat) (r : List UInt8), p.foldl stepA (o, bl.length, stateOf r) = ((p.foldl stepB (o, bl, r)).1, (p.foldl stepB (o, bl, r)).2.1.length, stateOf (p.foldl stepB (o, bl, r)).2.2)
  | [], _, _, _ => rfl
  | c :: p, o, bl, r => by
    rw [List.foldl_cons, List.foldl_cons, step_agree]
    obtain ⟨o', bl', r', h⟩ : ∃ o' bl' r', stepB (o, bl, r) c = (o', bl', r') := ⟨_, _, _, rfl⟩
    rw [h]
    exact foldl_agree p o' bl' r'
theorem all_agree (r p : List UInt8) : allR (stateOf r) p = ((readR r p).1, (readR r p).2.1.length, stateOf (readR r p).2.2) := foldl_agree p [] [] r

def NoFlag (r : List UInt8) : Prop := ∀ c ∈ r, c ≠ 126
theorem noFlag_step (a : BState) (c : UInt8) (h : NoFlag a.2.2) : NoFlag (stepB a c).2.2 := by
  unfold stepB
  split
  · split
    · exact h
    · split <;> (intro x hx; simp at hx)
  · intro x hx
    simp at hx
    rcases hx with hx | hx
    · exact h x hx
    · subst hx; assumption
theorem noFlag_foldl : ∀ (p : List UInt8) (a : BState), NoFlag a.2.2 → NoFlag (p.foldl stepB a).2.2
  | [], _, h => h
  | c :: p, a, h => noFlag_foldl p _ (noFlag_step a c h)
theorem noFlag_read (r p : List UInt8) (h : NoFlag r) : NoFlag (readR r p).2.2 := noFlag_foldl p ([], [], r) h
theorem foldl_noFlag : ∀ (p : List UInt8) (a : BState), NoFlag p → p.foldl stepB a = (a.1, a.2.1, a.2.2 ++ p)
  | [], a, _ => by simp
  | c :: p, a, h => by
    have e1 : stepB a c = (a.1, a.2.1, a.2.2 ++ [c]) := by
      have : c ≠ 126 := h c (by simp)
      simp [stepB, this]
    rw [List.foldl_cons, e1, foldl_noFlag p _ (fun x hx => h x (by simp [hx]))]
    simp
/-- What is left is read on. -/
theorem read_rest (r p : List UInt8) (h : NoFlag r) : readR [] (r ++ p) = readR r p := by
  unfold readR
  rw [List.foldl_append, foldl_noFlag r _ h]
  simp
theorem foldlB_len : ∀ (p : List UInt8) (a : BState), (p.foldl stepB a).2.2.length ≤ a.2.2.length + p.length
  | [], a => by simp
  | c :: p, a => by
    have h1 := foldlB_len p (stepB a c)
    have h2 : (stepB a c).2.2.length ≤ a.2.2.length + 1 := by
      unfold stepB
      split
      · split
        · omega
        · split <;> simp
      · simp
    simp only [List.foldl_cons, List.length_cons]
    omega
theorem read_len (r p : List UInt8) : (readR r p).2.2.length ≤ r.length + p.length := foldlB_len p ([], [], r)
end Go.Proofs.Ytnafklmigndgeaa
