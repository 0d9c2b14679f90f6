/-
  The document's ways: all ways that come nowhere twice.
-/
import Derived.Test.YtielnomhdahciaaWaysIn
namespace Go.Proofs.Ytielnomhdahciaa
open Go.RowKit St

def bC (b : Nat → Bool) : Array Value := (Array.range 7).map fun i => .bool (b i)
theorem bC_size (b : Nat → Bool) : (bC b).size = 7 := by simp [bC]
theorem bC_get (b : Nat → Bool) (i : Nat) (h : i < 7) : (bC b)[i]? = some (.bool (b i)) := by simp [bC, h]
def updB (b : Nat → Bool) (n : Nat) : Nat → Bool := fun x => if x = n then true else b x
theorem bC_set (b : Nat → Bool) (n : Nat) : (bC b).setIfInBounds n (.bool true) = bC (updB b n) := by
  apply Array.ext_getElem?
  intro i
  rw [Array.getElem?_setIfInBounds]
  by_cases hi : i < 7
  · rw [bC_get _ i hi, bC_get _ i hi]
    by_cases e : n = i
    · subst e
      simp [updB, bC, hi]
    · have e2 : ¬ i = n := fun h => e h.symm
      simp [updB, e, e2]
  · have hs : ∀ D : Nat → Bool, (bC D)[i]? = none := fun D => Array.getElem?_eq_none (by simp [bC]; omega)
    rw [hs, hs]
    split
    · simp [bC]; omega
    · rfl
theorem infoB : (Try.prog.info? 79).map (fun i => (i.zero, i.size)) = some (some (.agg (bC fun _ => false)), 7) := by kernel_rfl
theorem zeroB (w : World) : (zeroValue 79).run Try.prog w = .ok (.agg (bC fun _ => false)) w := (zero_of_info infoB).1 w
theorem sizeB : (Try.prog.info? 79).map (·.size) = some 7 := (zero_of_info infoB).2
theorem info103 : (Try.prog.info? 103).map (fun i => (i.zero, i.size)) = some (some (.agg (hC fun _ => HP.zero)), 21) := by kernel_rfl
theorem zero103 (w : World) : (zeroValue 103).run Try.prog w = .ok (.agg (hC fun _ => HP.zero)) w := (zero_of_info info103).1 w

section
variable {C : Grid} {r : Nat}
/-- Where nothing is known there is nothing. -/
def ZeroOk (G : Nat → HP) : Prop := ∀ n, (G n).far = 0 → G n = HP.zero
structure RS (C : Grid) (r : Nat) (G : Nat → HP) : Prop where
  s : Sound C r G
  z : ZeroOk G
theorem upd_rs {G : Nat → HP} (h : RS C r G) (n : Nat) (p : List Nat) (hp : okP C r p) (hh : p.head? = some n) (hC : ∀ x y, 0 ≤ C x y) : RS C r (updH G n ⟨n, pc C r p, (fstP p : Nat)⟩) := by
  have hpos := okP_pos hC p hp
  refine ⟨⟨fun x => ?_, fun x hx => ?_⟩, fun x hx => ?_⟩
  · simp only [updH]
    split
    · simp only; omega
    · exact h.s.nn x
  · simp only [updH] at hx ⊢
    by_cases e : x = n
    · subst e
      simp only [if_true]
      exact ⟨trivial, p, hp, hh, rfl, rfl⟩
    · rw [if_neg e] at hx ⊢
      exact h.s.way x hx
  · simp only [updH] at hx ⊢
    by_cases e : x = n
    · subst e
      simp only [if_true] at hx
      omega
    · rw [if_neg e] at hx ⊢
      exact h.z x hx
theorem upd_mono {G : Nat → HP} (n : Nat) (q : HP) (hq : 0 < q.far) (hb : betB q (G n) = true) : MLe (updH G n q) G := by
  intro x hx
  rw [betB_iff] at hb
  simp only [updH]
  by_cases e : x = n
  · subst e
    rw [if_pos rfl]
    refine ⟨hq, ?_⟩
    simp only [LEp, HP.v]
    omega
  · rw [if_neg e]
    exact ⟨hx, LEp.rfl' _⟩
theorem Dom.mono {G G' : Nat → HP} {p : List Nat} (h : Dom C r G p) (hm : MLe G' G) : Dom C r G' p := by
  intro n hn
  have h1 := h n hn
  have h2 := hm n h1.1
  exact ⟨h2.1, h2.2.trans h1.2⟩
/-- The ways on from p by x. -/
def Ext (C : Grid) (r : Nat) (p : List Nat) (x : Nat) (q : List Nat) : Prop := okP C r q ∧ q.Nodup ∧ ∃ e, q = e ++ x :: p
/-- Both answers are one. -/
theorem best_same (hC : ∀ x y, 0 ≤ C x y) (hd : C r r = 0) (G : Nat → HP) (hG : RS C r G) (hdom : ∀ q, okP C r q → q.Nodup → Dom C r G q) (n : Nat) : (G n).far = farF C r n ∧ (0 < farF C r n → G n = roundsF C r 6 n) := by
  have h0 := far_nn hC hd n
  have g0 := hG.s.nn n
  by_cases h : 0 < farF C r n
  · obtain ⟨k1, q, q1, q2, q3, q4, q5⟩ := best_way hC hd n h
    have d1 := hdom q q1 q2 n q3
    obtain ⟨s1, p, p1, p2, p3, p4⟩ := hG.s.way n d1.1
    have d2 := best_dom hC hd p p1 n p2
    have e1 := d1.2
    have e2 := d2.2
    have hfe : farF C r n = (roundsF C r 6 n).far := rfl
    simp only [LEp, HP.v] at e1 e2
    have a1 : (G n).far = (roundsF C r 6 n).far := by omega
    have a2 : (G n).nxt = (roundsF C r 6 n).nxt := by omega
    refine ⟨by rw [hfe]; exact a1, fun _ => ?_⟩
    generalize roundsF C r 6 n = X at k1 a1 a2
    generalize G n = Y at s1 a1 a2
    obtain ⟨x1, x2, x3⟩ := X
    obtain ⟨y1, y2, y3⟩ := Y
    simp only at k1 s1 a1 a2
    rw [a1, a2, k1, s1]
  · refine ⟨?_, fun h2 => absurd h2 h⟩
    by_cases hg : 0 < (G n).far
    · obtain ⟨s1, p, p1, p2, p3, p4⟩ := hG.s.way n hg
      exact absurd (best_dom hC hd p p1 n p2).1 h
    · omega
end

/-- How a call of walk begins. -/
structure Pre (C : Grid) (r : Nat) (p : List Nat) (at' : Nat) (far by' : Int) (bn : Nat → Bool) : Prop where
  way : (p = [] ∧ at' = r ∧ far = 0 ∧ by' = 0) ∨ (okP C r p ∧ p.head? = some at' ∧ pc C r p = far ∧ ((fstP p : Nat) : Int) = by' ∧ by' ≠ 0)
  nd : p.Nodup
  been : ∀ x, updB bn at' x = true ↔ (x ∈ p ∨ x = r)
theorem Pre.next {C : Grid} {r : Nat} {p : List Nat} {at' : Nat} {far by' : Int} {bn : Nat → Bool} (h : Pre C r p at' far by' bn) (n : Nat) (hn : n < 7) (he : 0 < C at' n) (hb : updB bn at' n = false) :
    okP C r (n :: p) ∧ (n :: p).Nodup ∧ pc C r (n :: p) = far + C at' n ∧ ((fstP (n :: p) : Nat) : Int) = (if by' = 0 then (n : Int) else by') := by
  have hnp : ¬ (n ∈ p ∨ n = r) := fun e => by rw [(h.been n).2 e] at hb; cases hb
  rcases h.way with ⟨rfl, rfl, rfl, rfl⟩ | ⟨h1, h2, h3, h4, h5⟩
  · refine ⟨⟨he, fun e => hnp (.inr e), hn⟩, by simp, ?_, ?_⟩
    · simp [pc]
    · simp [fstP]
  · cases p with
    | nil => exact h1.elim
    | cons m l =>
      have : m = at' := by simpa using h2
      subst this
      refine ⟨⟨h1, he, fun e => hnp (.inr e), hn⟩, List.nodup_cons.2 ⟨fun e => hnp (.inl e), h.nd⟩, ?_, ?_⟩
      · simp only [pc]
        omega
      · rw [if_neg h5]
        exact h4
theorem Pre.step {C : Grid} {r : Nat} {p : List Nat} {at' : Nat} {far by' : Int} {bn : Nat → Bool} (h : Pre C r p at' far by' bn) (n : Nat) (hn1 : 1 ≤ n) (hn : n < 7) (he : 0 < C at' n) (hb : updB bn at' n = false) : Pre C r (n :: p) n (far + C at' n) (if by' = 0 then (n : Int) else by') (updB bn at') := by
  obtain ⟨a1, a2, a3, a4⟩ := h.next n hn he hb
  refine ⟨.inr ⟨a1, rfl, a3, a4, ?_⟩, a2, fun x => ?_⟩
  · split
    · omega
    · assumption
  · show (if x = n then true else updB bn at' x) = true ↔ _
    by_cases e : x = n
    · subst e
      simp
    · rw [if_neg e, h.been x]
      simp [e]
/-- No way goes on by one where there is no edge, or where one has been. -/
theorem Pre.none {C : Grid} {r : Nat} {p : List Nat} {at' : Nat} {far by' : Int} {bn : Nat → Bool} (h : Pre C r p at' far by' bn) (n : Nat) (hx : C at' n = 0 ∨ updB bn at' n = true) : ∀ q, ¬ Ext C r p n q := by
  rintro q ⟨h1, h2, e, rfl⟩
  have hsuf : ∀ e : List Nat, okP C r (e ++ n :: p) → okP C r (n :: p) := by
    intro e
    induction e with
    | nil => exact fun h => h
    | cons a t ih =>
      intro ho
      refine ih ?_
      cases t with
      | nil => exact ho.1
      | cons b u => exact ho.1
  have h3 := hsuf e h1
  rcases hx with hx | hx
  · rcases h.way with ⟨rfl, rfl, _, _⟩ | ⟨k1, k2, _⟩
    · have := h3.1
      omega
    · cases p with
      | nil => exact k1
      | cons m l =>
        have : m = at' := by simpa using k2
        subst this
        have := h3.2.1
        omega
  · have h4 := (h.been n).1 hx
    have h5 := (List.nodup_append.1 h2).2.1
    rcases h4 with h4 | h4
    · exact (List.nodup_cons.1 h5).1 h4
    · exact (ok_lt h3 n (by simp)).2 h4
end Go.Proofs.Ytielnomhdahciaa
