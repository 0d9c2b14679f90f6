/-
  A base of states: States, Owed.
-/
import Derived.Test.YtgfjgenkpfdofaaFloodRise3
namespace Go.Proofs.Ytgfjgenkpfdofaa
open Go.RowKit St

/-- What is asked of a map's states. -/
def Fine (w : World) (f : Int → Option SV) (es : Int → List Opt) : Prop := ∀ k s, inR k → f k = some s → (1 ≤ k ∧ k ≤ 6) ∧ s.own = k ∧ OptR w s.a s.n (es k) ∧ NilOk s.a s.cap ∧ s.n ≤ 1000000

set_option maxRecDepth 100000 in
set_option maxHeartbeats 4000000 in
theorem states_any (B : Nat) (m : FM) (k : Nat) (kn : Int → Option SV) (ow : Nat → Int → Option SV) (es : Int → List Opt) (w : World) (h : FB w B m k kn ow) (hf : Fine w kn es) :
    Calls Try.prog 19 #[.pointer (some ⟨B, 0, none⟩)] w fun e w' => ∃ v ts, e = .returned v ∧ Risen w w' kn es v ts := by
  have hri := rising_any m.bm k kn es w h.km hf
  have c0 := h.c0
  have lB := h.lt
  clear h hf
  go_enter Try.func19, Try.ntmps19
  go_wp2_with (fail)
  refine hri.mono ?_
  rintro e w2 ⟨v, ts, rfl, hR⟩
  have HR : Hid _ := hR
  clear hri hR
  go_wp2_with (fail)
  go_ret
  exact ⟨_, _, rfl, HR.out⟩

set_option maxRecDepth 100000 in
set_option maxHeartbeats 4000000 in
theorem owed_yes (B : Nat) (m : FM) (k : Nat) (kn : Int → Option SV) (ow : Nat → Int → Option SV) (es : Int → List Opt) (p : Nat) (w : World) (h : FB w B m k kn ow) (hp : p < m.bs.length) (hf : Fine w (ow p) es) :
    Calls Try.prog 21 #[.pointer (some ⟨B, 0, none⟩), .int .i64 (p : Int)] w fun e w' => ∃ v ts, e = .returned v ∧ Risen w w' (ow p) es v ts := by
  have hh := has_any B m k kn ow (p : Int) w h
  have hv : (decide (0 ≤ (p : Int)) && decide ((p : Int) < (m.bs.length : Int))) = true := by simp; omega
  rw [hv] at hh
  clear hv
  have hpi : (p : Int) < (m.bs.length : Int) := by omega
  have hfew := h.few
  have hbp : m.bs[p]? = some m.bs[p] := List.getElem?_eq_getElem hp
  have hri := rising_any m.bs[p] k (ow p) es w (h.om p _ hbp) hf
  have c1 : w.cell? ⟨B, 1, none⟩ = some (.slice (some ⟨m.g, 0, none⟩) m.bs.length m.cap) := h.c1
  have lB := h.lt
  have cp := h.port p _ hbp
  have gl : m.g < w.heap.size := World.block_lt_of_cell? w _ cp
  generalize m.bs[p] = bp at cp hri
  clear hbp h hf
  go_enter Try.func21, Try.ntmps21
  go_wp2_with (fail)
  refine hh.mono ?_
  rintro e w1 ⟨rfl, rfl⟩
  clear hh
  go_wp2_with (fail)
  refine hri.mono ?_
  rintro e w2 ⟨v, ts, rfl, hR⟩
  have HR : Hid _ := hR
  clear hri hR
  go_wp2_with (fail)
  go_ret
  exact ⟨_, _, rfl, HR.out⟩

set_option maxRecDepth 100000 in
set_option maxHeartbeats 4000000 in
theorem owed_no (B : Nat) (m : FM) (k : Nat) (kn : Int → Option SV) (ow : Nat → Int → Option SV) (p : Int) (w : World) (h : FB w B m k kn ow) (hp : ¬(0 ≤ p ∧ p < (m.bs.length : Int))) :
    Calls Try.prog 21 #[.pointer (some ⟨B, 0, none⟩), .int .i64 p] w fun e w' => e = .returned (.slice none 0 0) ∧ w = w' := by
  have hh := has_any B m k kn ow p w h
  have hv : (decide (0 ≤ p) && decide (p < (m.bs.length : Int))) = false := by
    simp only [Bool.and_eq_false_iff, decide_eq_false_iff_not]; omega
  rw [hv] at hh
  clear hv
  go_enter Try.func21, Try.ntmps21
  go_wp2_with (fail)
  refine hh.mono ?_
  rintro e w1 ⟨rfl, rfl⟩
  clear hh
  go_wp2_with (fail)
  go_ret
  exact ⟨rfl, rfl⟩
end Go.Proofs.Ytgfjgenkpfdofaa
