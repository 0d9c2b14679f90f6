/-
  A base of states: Meet.
-/
import Derived.Test.YtgfjgenkpfdofaaFloodCopy
namespace Go.Proofs.Ytgfjgenkpfdofaa
open Go.RowKit St

theorem KeptM.of_grown {w w' : World} {m : FM} {b : Nat} (g : w.grownBy w' (some b)) (hb : b = m.bm ∨ b ∈ m.bs) : KeptM w w' m := by
  refine ⟨g.os, g.tape, g.output, g.size, fun i hi h1 h2 => g.block i hi (fun e => ?_)⟩
  have : i = b := by simpa using e
  subst this
  rcases hb with hb | hb
  · exact h1 hb
  · exact h2 hb
theorem grown_other {w w' : World} {b x : Nat} (h : w.grownBy w' (some b)) (hx : x < w.heap.size) (hne : x ≠ b) : w'.heap[x]? = w.heap[x]? := h.block x hx (fun e => hne (by simpa using e))
theorem FB.setG {w w' : World} {B : Nat} {m : FM} {n n' : Nat} {kn : Int → Option SV} {ow : Nat → Int → Option SV} {f : Int → Option SV} {i b : Nat} (h : FB w B m n kn ow) (hi : m.bs[i]? = some b) (ht : w.grownBy w' (some b)) (hk : SMap w' b n' f) (hn : n ≤ n') : FB w' B m n' kn (fun j => if j = i then f else ow j) := by
  have hb := h.nB.2.2.2 b (List.mem_of_getElem? hi)
  refine ⟨(grown_other ht h.lt (fun e => hb.1 e.symm)).trans h.blk, h.row.keep ht.size (fun k hk2 => ?_), (h.km.keep (grown_other ht h.km.lt (fun e => hb.2.2 e.symm))).mono hn, fun j c e => ?_, h.few, h.nB, h.nd⟩
  · have hg : m.g = k := by simpa [FM.sl, Value.ownBlock] using hk2
    subst hg
    exact grown_other ht (h.row.lt _ hk2) (fun e => hb.2.1 e.symm)
  · by_cases hj : j = i
    · subst hj
      rw [hi] at e
      obtain rfl := Option.some.inj e
      simp only [if_true]
      exact hk
    · rw [if_neg hj]
      have hne : c ≠ b := fun e1 => by
        subst e1
        exact hj ((List.getElem?_inj (List.getElem?_eq_some_iff.1 e).1 h.nd).1 (e.trans hi.symm))
      exact ((h.om j c e).keep (grown_other ht (h.om j c e).lt hne)).mono hn

set_option maxRecDepth 100000 in
set_option maxHeartbeats 4000000 in
theorem meet_yes (B : Nat) (m : FM) (k : Nat) (kn : Int → Option SV) (ow : Nat → Int → Option SV) (p : Nat) (w : World) (h : FB w B m k kn ow) (hp : p < m.bs.length) (hk : k ≤ 1000000) :
    Calls Try.prog 14 #[.pointer (some ⟨B, 0, none⟩), .int .i64 (p : Int)] w fun e w' => e = .returned .nilIface ∧ FB w' B m (k + k) kn (fun i => if i = p then over (ow p) kn else ow i) ∧ KeptM w w' m := by
  have hh := has_any B m k kn ow (p : Int) w h
  have hv : (decide (0 ≤ (p : Int)) && decide ((p : Int) < (m.bs.length : Int))) = true := by simp; omega
  rw [hv] at hh
  clear hv
  have hpi : (p : Int) < (m.bs.length : Int) := by omega
  have hfew := h.few
  have hbp : m.bs[p]? = some m.bs[p] := List.getElem?_eq_getElem hp
  have bd : Below w.heap.size w w.drew := below_drewN (Below.refl _ _) 1
  have Fd := h.below bd
  have hcp := mcopy_any m.bs[p] m.bm k k (ow p) kn w.drew (Fd.om p _ hbp) Fd.km (Fd.nB.2.2.2 _ (List.getElem_mem _)).2.2 (by omega)
  have HE : Hid (∀ w', SMap w' m.bs[p] (k + k) (over (ow p) kn) → w.drew.grownBy w' (some m.bs[p]) → FB w' B m (k + k) kn (fun i => if i = p then over (ow p) kn else ow i) ∧ KeptM w w' m) := fun w' hS hg => ⟨Fd.setG hbp hg hS (by omega), (KeptM.of_below m bd).trans (KeptM.of_grown hg (.inr (List.getElem_mem _)))⟩
  have c0 := h.c0
  have c1 : w.cell? ⟨B, 1, none⟩ = some (.slice (some ⟨m.g, 0, none⟩) m.bs.length m.cap) := h.c1
  have lB := h.lt
  have cp := h.port p _ hbp
  have gl : m.g < w.heap.size := World.block_lt_of_cell? w _ cp
  generalize m.bs[p] = bp at cp hcp HE
  clear hbp Fd bd
  go_enter Try.func14, Try.ntmps14
  go_wp2_with (fail)
  refine hh.mono ?_
  rintro e w1 ⟨rfl, rfl⟩
  clear hh
  go_upto_region 3 with fail
  go_region_with (first | (go_at_call 33; refine hcp.mono ?_; rintro e w2 ⟨rfl, hS, hg⟩) | fail)
  all_goals
    have HF : Hid _ := HE.out _ hS hg
    clear hS hg
    go_wp2_with (fail)
    go_ret
    exact ⟨rfl, HF.out⟩

set_option maxRecDepth 100000 in
set_option maxHeartbeats 4000000 in
theorem meet_no (B : Nat) (m : FM) (k : Nat) (kn : Int → Option SV) (ow : Nat → Int → Option SV) (p : Int) (w : World) (h : FB w B m k kn ow) (hp : ¬(0 ≤ p ∧ p < (m.bs.length : Int))) :
    Calls Try.prog 14 #[.pointer (some ⟨B, 0, none⟩), .int .i64 p] w fun e w' => e = .returned (errV 1) ∧ w = w' := by
  have hh := has_any B m k kn ow p w h
  have hv : (decide (0 ≤ p) && decide (p < (m.bs.length : Int))) = false := by
    simp only [Bool.and_eq_false_iff, decide_eq_false_iff_not]; omega
  rw [hv] at hh
  clear hv
  have E1 : Hid (errV 1 = .iface 64 (.int .i64 1)) := rfl
  go_enter Try.func14, Try.ntmps14
  go_wp2_with (fail)
  refine hh.mono ?_
  rintro e w1 ⟨rfl, rfl⟩
  clear hh
  go_wp2_with (fail)
  rw [E1.out]
  go_ret
  exact ⟨rfl, rfl⟩
end Go.Proofs.Ytgfjgenkpfdofaa
