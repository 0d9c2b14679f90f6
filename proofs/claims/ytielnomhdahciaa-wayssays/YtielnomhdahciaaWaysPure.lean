/-
  Ways, plainly: what the rounds find is the best of all ways.
-/
import Derived.Test.YtielnomhdahciaaWaysHops
namespace Go.Proofs.Ytielnomhdahciaa
open St

section
variable (C : Grid) (r : Nat)
/-- A way from r, its end first: what it costs; whether it is one; who is first on it. -/
def pc : List Nat → Int
  | [] => 0
  | [n] => C r n
  | n :: m :: l => pc (m :: l) + C m n
def okP : List Nat → Prop
  | [] => False
  | [n] => 0 < C r n ∧ n ≠ r ∧ n < 7
  | n :: m :: l => okP (m :: l) ∧ 0 < C m n ∧ n ≠ r ∧ n < 7
end
def fstP : List Nat → Nat
  | [] => 0
  | [n] => n
  | _ :: m :: l => fstP (m :: l)
def LEp (a : Int × Int) (b : Int × Int) : Prop := a.1 < b.1 ∨ (a.1 = b.1 ∧ a.2 ≤ b.2)
theorem LEp.trans {a b c : Int × Int} (h : LEp a b) (k : LEp b c) : LEp a c := by unfold LEp at *; omega
theorem LEp.rfl' (a : Int × Int) : LEp a a := .inr ⟨rfl, Int.le_refl _⟩
def HP.v (h : HP) : Int × Int := (h.far, h.nxt)
def MLe (G' G : Nat → HP) : Prop := ∀ x, 0 < (G x).far → 0 < (G' x).far ∧ LEp (G' x).v (G x).v
theorem MLe.refl (G : Nat → HP) : MLe G G := fun _ h => ⟨h, LEp.rfl' _⟩
theorem MLe.trans {A B D : Nat → HP} (h : MLe A B) (k : MLe B D) : MLe A D := fun x hx => ⟨(h x (k x hx).1).1, (h x (k x hx).1).2.trans (k x hx).2⟩
theorem betB_iff (a b : HP) : betB a b = true ↔ b.far = 0 ∨ a.far < b.far ∨ (a.far = b.far ∧ a.nxt < b.nxt) := by
  unfold betB
  simp [or_assoc]
section
variable {C : Grid} {r : Nat}
/-- What is known is a way. -/
structure Sound (C : Grid) (r : Nat) (G : Nat → HP) : Prop where
  nn : ∀ n, 0 ≤ (G n).far
  way : ∀ n, 0 < (G n).far → (G n).dst = n ∧ ∃ p, okP C r p ∧ p.head? = some n ∧ pc C r p = (G n).far ∧ ((fstP p : Nat) : Int) = (G n).nxt
theorem okP_pos (hC : ∀ x y, 0 ≤ C x y) : ∀ p, okP C r p → 0 < pc C r p
  | [], h => h.elim
  | [n], h => h.1
  | n :: m :: l, h => by
    have := okP_pos hC (m :: l) h.1
    have h2 := h.2.1
    simp only [pc]
    omega
theorem step_mono (b n : Nat) (G : Nat → HP) (hG : ∀ x, 0 ≤ (G x).far) (hC : ∀ x y, 0 ≤ C x y) : MLe (stepH C r b n G) G := by
  intro x hx
  unfold stepH
  split
  · exact ⟨hx, LEp.rfl' _⟩
  · rename_i hc
    split
    · rename_i hb
      rw [betB_iff] at hb
      simp only [updH]
      by_cases e : x = n
      · subst e
        rw [if_pos rfl]
        have h1 := hG b
        have h2 := hC b x
        refine ⟨by simp only; omega, ?_⟩
        simp only [HP.v, LEp] at hb ⊢
        omega
      · rw [if_neg e]
        exact ⟨hx, LEp.rfl' _⟩
    · exact ⟨hx, LEp.rfl' _⟩
theorem step_relax (b n : Nat) (G : Nat → HP) (hG : ∀ x, 0 ≤ (G x).far) (h1 : 0 < (G b).far) (h2 : 0 < C b n) (h3 : n ≠ r) : 0 < (stepH C r b n G n).far ∧ LEp (stepH C r b n G n).v ((G b).far + C b n, (G b).nxt) := by
  unfold stepH
  rw [if_neg (by omega)]
  by_cases hb : betB ⟨n, (G b).far + C b n, (G b).nxt⟩ (G n) = true
  · rw [if_pos hb]
    simp only [updH, if_true]
    exact ⟨by omega, LEp.rfl' _⟩
  · rw [if_neg hb]
    rw [betB_iff] at hb
    have := hG n
    simp only at hb
    refine ⟨by omega, ?_⟩
    simp only [HP.v, LEp]
    omega
theorem step_sound (b n : Nat) (hn : n < 7) (G : Nat → HP) (hS : Sound C r G) (hC : ∀ x y, 0 ≤ C x y) : Sound C r (stepH C r b n G) := by
  unfold stepH
  split
  · exact hS
  · rename_i hc
    split
    · have h1 := hS.nn b
      have h2 := hC b n
      refine ⟨fun x => ?_, fun x hx => ?_⟩
      · simp only [updH]
        split
        · simp only; omega
        · exact hS.nn x
      · simp only [updH] at hx ⊢
        by_cases e : x = n
        · subst e
          simp only [if_true] at hx ⊢
          obtain ⟨_, p, p1, p2, p3, p4⟩ := hS.way b (by omega)
          refine ⟨trivial, x :: p, ?_, rfl, ?_, ?_⟩
          · cases p with
            | nil => exact p1.elim
            | cons m l =>
              have : m = b := by simpa using p2
              subst this
              exact ⟨p1, by omega, by omega, hn⟩
          · cases p with
            | nil => exact p1.elim
            | cons m l =>
              have : m = b := by simpa using p2
              subst this
              simp only [pc, p3]
          · cases p with
            | nil => exact p1.elim
            | cons m l => exact p4
        · rw [if_neg e] at hx ⊢
          exact hS.way x hx
    · exact hS
theorem row_sound (b : Nat) (G : Nat → HP) (hS : Sound C r G) (hC : ∀ x y, 0 ≤ C x y) : ∀ n, n ≤ 7 → Sound C r (rowF C r b G n)
  | 0, _ => hS
  | n + 1, h => step_sound b n (by omega) _ (row_sound b G hS hC n (by omega)) hC
theorem go_sound (G : Nat → HP) (hS : Sound C r G) (hC : ∀ x y, 0 ≤ C x y) : ∀ b, Sound C r (goF C r G b)
  | 0 => hS
  | b + 1 => row_sound b _ (go_sound G hS hC b) hC 7 (Nat.le_refl _)
theorem row_mono (b : Nat) (G : Nat → HP) (hS : Sound C r G) (hC : ∀ x y, 0 ≤ C x y) (i : Nat) : ∀ d, i + d ≤ 7 → MLe (rowF C r b G (i + d)) (rowF C r b G i)
  | 0, _ => MLe.refl _
  | d + 1, h => (step_mono b (i + d) _ (row_sound b G hS hC (i + d) (by omega)).nn hC).trans (row_mono b G hS hC i d (by omega))
theorem row_relax (b : Nat) (G : Nat → HP) (hS : Sound C r G) (hC : ∀ x y, 0 ≤ C x y) (m : Nat) (hm : m < 7) (h1 : 0 < (G b).far) (h2 : 0 < C b m) (h3 : m ≠ r) : 0 < (rowF C r b G 7 m).far ∧ LEp (rowF C r b G 7 m).v ((G b).far + C b m, (G b).nxt) := by
  have k0 := row_mono b G hS hC 0 m (by omega)
  rw [Nat.zero_add] at k0
  have k1 := k0 b h1
  have k2 := step_relax (r := r) b m (rowF C r b G m) (row_sound b G hS hC m (by omega)).nn k1.1 h2 h3
  have k3 := row_mono b G hS hC (m + 1) (7 - (m + 1)) (by omega)
  rw [show m + 1 + (7 - (m + 1)) = 7 by omega] at k3
  have k4 := k3 m k2.1
  refine ⟨k4.1, k4.2.trans (LEp.trans k2.2 ?_)⟩
  have := k1.2
  simp only [LEp, HP.v, rowF] at this ⊢
  omega
theorem go_mono (G : Nat → HP) (hS : Sound C r G) (hC : ∀ x y, 0 ≤ C x y) (i : Nat) : ∀ d, MLe (goF C r G (i + d)) (goF C r G i)
  | 0 => MLe.refl _
  | d + 1 => by
    have h := row_mono (i + d) _ (go_sound G hS hC (i + d)) hC 0 7 (by omega)
    exact MLe.trans h (go_mono G hS hC i d)
theorem go_relax (G : Nat → HP) (hS : Sound C r G) (hC : ∀ x y, 0 ≤ C x y) (b m : Nat) (hb : b < 7) (hm : m < 7) (h1 : 0 < (G b).far) (h2 : 0 < C b m) (h3 : m ≠ r) : 0 < (goF C r G 7 m).far ∧ LEp (goF C r G 7 m).v ((G b).far + C b m, (G b).nxt) := by
  have k0 := go_mono G hS hC 0 b
  rw [Nat.zero_add] at k0
  have k1 := k0 b h1
  have k2 := row_relax b _ (go_sound G hS hC b) hC m hm k1.1 h2 h3
  have k3 := go_mono G hS hC (b + 1) (7 - (b + 1))
  rw [show b + 1 + (7 - (b + 1)) = 7 by omega] at k3
  have k4 := k3 m k2.1
  refine ⟨k4.1, k4.2.trans (LEp.trans k2.2 ?_)⟩
  have := k1.2
  simp only [LEp, HP.v, goF] at this ⊢
  omega
/-- What is known is no worse than a way. -/
def Dom (C : Grid) (r : Nat) (G : Nat → HP) (p : List Nat) : Prop := ∀ n, p.head? = some n → 0 < (G n).far ∧ LEp (G n).v (pc C r p, ((fstP p : Nat) : Int))
theorem first_sound (hC : ∀ x y, 0 ≤ C x y) (hd : C r r = 0) : Sound C r (firstF C r 7) := by
  refine ⟨fun n => ?_, fun n hn => ?_⟩
  · simp only [firstF]
    have := hC r n
    split
    · simp only; omega
    · simp [HP.zero]
  · simp only [firstF] at hn ⊢
    by_cases h : n < 7 ∧ 0 < C r n
    · rw [if_pos h] at hn ⊢
      refine ⟨rfl, [n], ⟨h.2, ?_, h.1⟩, rfl, rfl, rfl⟩
      rintro rfl
      omega
    · rw [if_neg h] at hn
      simp [HP.zero] at hn
theorem rounds_sound (hC : ∀ x y, 0 ≤ C x y) (hd : C r r = 0) : ∀ k, Sound C r (roundsF C r k)
  | 0 => first_sound hC hd
  | k + 1 => go_sound _ (rounds_sound hC hd k) hC 7
theorem head_lt : ∀ {p : List Nat} {n : Nat}, okP C r p → p.head? = some n → n < 7 ∧ n ≠ r
  | [], n, h, _ => h.elim
  | [m], n, h, e => by
    have : m = n := by simpa using e
    subst this
    exact ⟨h.2.2, h.2.1⟩
  | m :: x :: l, n, h, e => by
    have : m = n := by simpa using e
    subst this
    exact ⟨h.2.2.2, h.2.2.1⟩
theorem rounds_dom (hC : ∀ x y, 0 ≤ C x y) (hd : C r r = 0) : ∀ k p, okP C r p → p.length ≤ k + 1 → Dom C r (roundsF C r k) p
  | 0, [], h, _ => h.elim
  | 0, [n], h, _ => by
    intro x hx
    have : n = x := by simpa using hx
    subst this
    simp only [roundsF, firstF, if_pos (show n < 7 ∧ 0 < C r n from ⟨h.2.2, h.1⟩)]
    exact ⟨h.1, LEp.rfl' _⟩
  | 0, n :: m :: l, h, hl => by simp at hl
  | k + 1, p, h, hl => by
    by_cases hs : p.length ≤ k + 1
    · intro n hn
      have h1 := rounds_dom hC hd k p h hs n hn
      have h2 := go_mono (roundsF C r k) (rounds_sound hC hd k) hC 0 7 n h1.1
      exact ⟨h2.1, h2.2.trans h1.2⟩
    · match p, h, hl, hs with
      | [], h, _, _ => exact h.elim
      | [n], h, _, hs => simp at hs
      | n :: m :: l, h, hl, hs =>
        intro x hx
        have : n = x := by simpa using hx
        subst this
        have h1 := rounds_dom hC hd k (m :: l) h.1 (by simp at hl ⊢; omega) m rfl
        have hm := (head_lt h.1 (show (m :: l).head? = some m from rfl)).1
        have h2 := go_relax (roundsF C r k) (rounds_sound hC hd k) hC m n hm h.2.2.2 h1.1 h.2.1 h.2.2.1
        refine ⟨h2.1, LEp.trans h2.2 ?_⟩
        have := h1.2
        simp only [LEp, HP.v, pc, fstP] at this ⊢
        omega
/-- A way that comes nowhere twice, no worse. -/
theorem tail_way (hC : ∀ x y, 0 ≤ C x y) (n : Nat) : ∀ q : List Nat, okP C r q → q.Nodup → n ∈ q → ∃ t, okP C r t ∧ t.Nodup ∧ t.head? = some n ∧ fstP t = fstP q ∧ pc C r t ≤ pc C r q ∧ t.length ≤ q.length
  | [], h, _, _ => h.elim
  | [m], h, hd, hm => by
    have : n = m := by simpa using hm
    subst this
    exact ⟨[n], h, hd, rfl, rfl, Int.le_refl _, Nat.le_refl _⟩
  | m :: x :: l, h, hd, hm => by
    by_cases e : m = n
    · subst e
      exact ⟨_, h, hd, rfl, rfl, Int.le_refl _, Nat.le_refl _⟩
    · have hm' : n ∈ x :: l := by
        rcases List.mem_cons.1 hm with h1 | h1
        · exact absurd h1.symm e
        · exact h1
      obtain ⟨t, t1, t2, t3, t4, t5, t6⟩ := tail_way hC n (x :: l) h.1 (List.nodup_cons.1 hd).2 hm'
      refine ⟨t, t1, t2, t3, t4, ?_, by simp at t6 ⊢; omega⟩
      have := h.2.1
      simp only [pc]
      omega
theorem nodup_way (hC : ∀ x y, 0 ≤ C x y) : ∀ p : List Nat, okP C r p → ∃ q, okP C r q ∧ q.Nodup ∧ q.head? = p.head? ∧ fstP q = fstP p ∧ pc C r q ≤ pc C r p
  | [], h => h.elim
  | [n], h => ⟨[n], h, by simp, rfl, rfl, Int.le_refl _⟩
  | n :: m :: l, h => by
    obtain ⟨q, q1, q2, q3, q4, q5⟩ := nodup_way hC (m :: l) h.1
    have h2 := h.2.1
    by_cases hn : n ∈ q
    · obtain ⟨t, t1, t2, t3, t4, t5, _⟩ := tail_way hC n q q1 q2 hn
      refine ⟨t, t1, t2, t3, by rw [t4, q4]; rfl, ?_⟩
      simp only [pc]
      omega
    · cases q with
      | nil => exact q1.elim
      | cons x t =>
        have : x = m := by simpa using q3
        subst this
        refine ⟨n :: x :: t, ⟨q1, h2, h.2.2.1, h.2.2.2⟩, List.nodup_cons.2 ⟨hn, q2⟩, rfl, ?_, ?_⟩
        · exact q4
        · simp only [pc]
          omega
theorem ok_lt : ∀ {p : List Nat}, okP C r p → ∀ x ∈ p, x < 7 ∧ x ≠ r
  | [], h, _, _ => h.elim
  | [n], h, x, hx => by
    have : x = n := by simpa using hx
    subst this
    exact ⟨h.2.2, h.2.1⟩
  | n :: m :: l, h, x, hx => by
    rcases List.mem_cons.1 hx with e | e
    · subst e
      exact ⟨h.2.2.2, h.2.2.1⟩
    · exact ok_lt h.1 x e
theorem len_nat : ∀ (l m : List Nat), l.Nodup → (∀ x ∈ l, x ∈ m) → l.length ≤ m.length
  | [], _, _, _ => Nat.zero_le _
  | x :: l, m, hp, hs => by
    obtain ⟨h1, h2⟩ := List.nodup_cons.1 hp
    have hx := hs x (by simp)
    have := len_nat l (m.erase x) h2 (fun y hy => (List.mem_erase_of_ne (fun e => h1 (by rw [← e]; exact hy))).2 (hs y (List.mem_cons_of_mem _ hy)))
    rw [List.length_erase_of_mem hx] at this
    have hm : 0 < m.length := List.length_pos_of_mem hx
    simp only [List.length_cons]
    omega
/-- What the six rounds find: the best of all ways. -/
theorem best_dom (hC : ∀ x y, 0 ≤ C x y) (hd : C r r = 0) (p : List Nat) (hp : okP C r p) : Dom C r (roundsF C r 6) p := by
  obtain ⟨q, q1, q2, q3, q4, q5⟩ := nodup_way hC p hp
  have hl := len_nat q (List.range 7) q2 (fun x hx => List.mem_range.2 (ok_lt q1 x hx).1)
  rw [List.length_range] at hl
  intro n hn
  have := rounds_dom hC hd 6 q q1 hl n (by rw [q3]; exact hn)
  refine ⟨this.1, LEp.trans this.2 ?_⟩
  simp only [LEp, q4]
  omega
theorem best_way (hC : ∀ x y, 0 ≤ C x y) (hd : C r r = 0) (n : Nat) (hn : 0 < (roundsF C r 6 n).far) : (roundsF C r 6 n).dst = n ∧ ∃ q, okP C r q ∧ q.Nodup ∧ q.head? = some n ∧ pc C r q = (roundsF C r 6 n).far ∧ ((fstP q : Nat) : Int) = (roundsF C r 6 n).nxt := by
  obtain ⟨h1, p, p1, p2, p3, p4⟩ := (rounds_sound hC hd 6).way n hn
  obtain ⟨q, q1, q2, q3, q4, q5⟩ := nodup_way hC p p1
  have hd2 := best_dom hC hd q q1 n (by rw [q3]; exact p2)
  have : pc C r q = (roundsF C r 6 n).far := by
    have := hd2.2
    simp only [LEp, HP.v] at this
    omega
  exact ⟨h1, q, q1, q2, by rw [q3]; exact p2, this, by rw [q4]; exact p4⟩
end
end Go.Proofs.Ytielnomhdahciaa
