/-
  The document's base of states in memory: Set, Meet, Part.
-/
import Derived.Test.YtgfjgenkpfdofaaWaysMem
import Derived.BigQuiet
namespace Go.Proofs.Ytgfjgenkpfdofaa
open Go.RowKit St

/-- Seven states and the slice of what is owed, as 22 cells. -/
def kAt (K : Nat → SV) (o : Value) (i : Nat) : Value := if i = 21 then o else if i % 3 = 0 then .int .i64 (K (i / 3)).own else if i % 3 = 1 then .int .i64 (K (i / 3)).seq else .slice (K (i / 3)).a (K (i / 3)).n (K (i / 3)).cap
def kC (K : Nat → SV) (o : Value) : Array Value := (Array.range 22).map (kAt K o)
theorem kC_size (K : Nat → SV) (o : Value) : (kC K o).size = 22 := by simp [kC]
theorem kC_at (K : Nat → SV) (o : Value) (i : Nat) (h : i < 22) : (kC K o)[i]? = some (kAt K o i) := by simp [kC, h]
theorem kC_get (K : Nat → SV) (o : Value) (n : Nat) (hn : n < 7) : (kC K o)[n * 3]? = some (.int .i64 (K n).own) ∧ (kC K o)[n * 3 + 1]? = some (.int .i64 (K n).seq) ∧ (kC K o)[n * 3 + 2]? = some (.slice (K n).a (K n).n (K n).cap) := by
  rw [kC_at _ _ _ (by omega), kC_at _ _ _ (by omega), kC_at _ _ _ (by omega)]
  have e0 : kAt K o (n * 3) = .int .i64 (K n).own := by unfold kAt; rw [if_neg (by omega), if_pos (by omega), show n * 3 / 3 = n by omega]
  have e1 : kAt K o (n * 3 + 1) = .int .i64 (K n).seq := by unfold kAt; rw [if_neg (by omega), if_neg (by omega), if_pos (by omega), show (n * 3 + 1) / 3 = n by omega]
  have e2 : kAt K o (n * 3 + 2) = .slice (K n).a (K n).n (K n).cap := by unfold kAt; rw [if_neg (by omega), if_neg (by omega), if_neg (by omega), show (n * 3 + 2) / 3 = n by omega]
  rw [e0, e1, e2]
  exact ⟨rfl, rfl, rfl⟩
theorem kC_owed (K : Nat → SV) (o : Value) : (kC K o)[21]? = some o := by
  rw [kC_at _ _ _ (by omega)]
  unfold kAt
  rw [if_pos rfl]
def updS (K : Nat → SV) (n : Nat) (s : SV) : Nat → SV := fun x => if x = n then s else K x
theorem kC_set (K : Nat → SV) (o : Value) (n : Nat) (s : SV) (hn : n < 7) : (((kC K o).setIfInBounds (n * 3) (.int .i64 s.own)).setIfInBounds (n * 3 + 1) (.int .i64 s.seq)).setIfInBounds (n * 3 + 2) (.slice s.a s.n s.cap) = kC (updS K n s) o := by
  apply Array.ext_getElem?
  intro i
  rw [Array.getElem?_setIfInBounds, Array.getElem?_setIfInBounds, Array.getElem?_setIfInBounds]
  simp only [Array.size_setIfInBounds, kC_size]
  by_cases hi : i < 22
  · rw [kC_at _ _ i hi, kC_at _ _ i hi]
    unfold kAt
    by_cases h21 : i = 21
    · rw [if_pos h21, if_pos h21, if_neg (show ¬ n * 3 + 2 = i by omega), if_neg (show ¬ n * 3 + 1 = i by omega), if_neg (show ¬ n * 3 = i by omega)]
    · rw [if_neg h21, if_neg h21]
      by_cases e : i / 3 = n
      · have hu : updS K n s (i / 3) = s := by simp [updS, e]
        rw [hu]
        rcases (show i % 3 = 0 ∨ i % 3 = 1 ∨ i % 3 = 2 by omega) with h0 | h0 | h0
        · rw [if_neg (show ¬ n * 3 + 2 = i by omega), if_neg (show ¬ n * 3 + 1 = i by omega), if_pos (show n * 3 = i by omega), if_pos (by omega), if_pos h0]
        · rw [if_neg (show ¬ n * 3 + 2 = i by omega), if_pos (show n * 3 + 1 = i by omega), if_pos (by omega), if_neg (by omega), if_pos h0]
        · rw [if_pos (show n * 3 + 2 = i by omega), if_pos (by omega), if_neg (by omega), if_neg (by omega)]
      · have hu : updS K n s (i / 3) = K (i / 3) := by simp [updS, e]
        rw [hu, if_neg (show ¬ n * 3 + 2 = i by omega), if_neg (show ¬ n * 3 + 1 = i by omega), if_neg (show ¬ n * 3 = i by omega)]
  · have hs : ∀ D : Nat → SV, (kC D o)[i]? = none := fun D => Array.getElem?_eq_none (by rw [kC_size]; omega)
    rw [hs, hs, if_neg (show ¬ n * 3 + 2 = i by omega), if_neg (show ¬ n * 3 + 1 = i by omega), if_neg (show ¬ n * 3 = i by omega)]
/-- What each port owes, seven cells each. -/
def oC (ports : Nat) (O : Nat → Nat → Bool) : Array Value := (Array.range (ports * 7)).map fun i => .bool (O (i / 7) (i % 7))
theorem oC_size (ports : Nat) (O : Nat → Nat → Bool) : (oC ports O).size = ports * 7 := by simp [oC]
theorem oC_at (ports : Nat) (O : Nat → Nat → Bool) (i : Nat) (h : i < ports * 7) : (oC ports O)[i]? = some (.bool (O (i / 7) (i % 7))) := by simp [oC, h]
theorem oC_get (ports : Nat) (O : Nat → Nat → Bool) (p n : Nat) (hp : p < ports) (hn : n < 7) : (oC ports O)[p * 7 + n]? = some (.bool (O p n)) := by
  rw [oC_at _ _ _ (by omega), show (p * 7 + n) / 7 = p by omega, show (p * 7 + n) % 7 = n by omega]
def updO (O : Nat → Nat → Bool) (p n : Nat) (v : Bool) : Nat → Nat → Bool := fun x y => if x = p ∧ y = n then v else O x y
theorem oC_set (ports : Nat) (O : Nat → Nat → Bool) (p n : Nat) (v : Bool) (hn : n < 7) : (oC ports O).setIfInBounds (p * 7 + n) (.bool v) = oC ports (updO O p n v) := by
  apply Array.ext_getElem?
  intro i
  rw [Array.getElem?_setIfInBounds]
  by_cases hi : i < ports * 7
  · rw [oC_at _ _ i hi, oC_at _ _ i hi, oC_size]
    by_cases e : p * 7 + n = i
    · rw [if_pos e, if_pos (by omega)]
      have h1 : i / 7 = p := by omega
      have h2 : i % 7 = n := by omega
      simp [updO, h1, h2]
    · rw [if_neg e]
      have : ¬ (i / 7 = p ∧ i % 7 = n) := by omega
      simp only [updO, if_neg this]
  · have hs : ∀ D : Nat → Nat → Bool, (oC ports D)[i]? = none := fun D => Array.getElem?_eq_none (by rw [oC_size]; omega)
    rw [hs, hs]
    split
    · rw [if_neg (by rw [oC_size]; omega)]
    · rfl
/-- The document's base in block M. -/
structure RB (w : World) (M g ports : Nat) (K : Nat → SV) (O : Nat → Nat → Bool) : Prop where
  k : Blk w M (kC K (.slice (some ⟨g, 0, none⟩) ports ports)) 38
  o : Blk w g (oC ports O) 72
  ne : M ≠ g
theorem RB.below {w w' : World} {M g ports : Nat} {K : Nat → SV} {O : Nat → Nat → Bool} (h : RB w M g ports K O) (hb : Below w.heap.size w w') : RB w' M g ports K O := ⟨h.k.below hb, h.o.below hb, h.ne⟩
theorem RB.owed {w : World} {M g ports : Nat} {K : Nat → SV} {O : Nat → Nat → Bool} (h : RB w M g ports K O) : w.cell? ⟨M, 21, none⟩ = some (.slice (some ⟨g, 0, none⟩) ports ports) := (h.k.cell 21).trans (kC_owed _ _)
/-- Nothing that was there has turned but the base's own two blocks. -/
structure KeptR (w w' : World) (M g : Nat) : Prop where
  os : w'.os = w.os
  tape : w'.tape = w.tape
  output : w'.output = w.output
  size : w.heap.size ≤ w'.heap.size
  block : ∀ i, i < w.heap.size → i ≠ M → i ≠ g → w'.heap[i]? = w.heap[i]?
theorem KeptR.of_below {w w' : World} (M g : Nat) (h : Below w.heap.size w w') : KeptR w w' M g := ⟨h.os, h.tape, h.output, h.size, fun i hi _ _ => h.block i hi⟩
theorem KeptR.trans {a b c : World} {M g : Nat} (h : KeptR a b M g) (k : KeptR b c M g) : KeptR a c M g :=
  ⟨k.os.trans h.os, k.tape.trans h.tape, k.output.trans h.output, Nat.le_trans h.size k.size, fun i hi h1 h2 => (k.block i (Nat.lt_of_lt_of_le hi h.size) h1 h2).trans (h.block i hi h1 h2)⟩
theorem KeptR.setCell {a b : World} {M g : Nat} (h : KeptR a b M g) {B j : Nat} (hB : B = M ∨ B = g) (v : Value) : KeptR a (b.setCell ⟨B, j, none⟩ v) M g := by
  have b1 : Below 0 b (b.setCell ⟨B, j, none⟩ v) := (Below.refl 0 b).setCell (Nat.zero_le _) _
  refine ⟨b1.os.trans h.os, b1.tape.trans h.tape, b1.output.trans h.output, Nat.le_trans h.size b1.size, fun i hi h1 h2 => ?_⟩
  rw [Below.heap_setCell _ _ _ i (by show i ≠ B; rcases hB with rfl | rfl <;> assumption)]
  exact h.block i hi h1 h2
theorem KeptR.drewN {a b : World} {M g : Nat} (h : KeptR a b M g) (n : Nat) : KeptR a (b.drewN n) M g := ⟨h.os, h.tape, h.output, h.size, h.block⟩
theorem KeptR.below {w a b : World} {M g : Nat} (h : Below w.heap.size w a) (k : KeptR a b M g) (h1 : w.heap.size ≤ M) (h2 : w.heap.size ≤ g) : Below w.heap.size w b :=
  ⟨k.os.trans h.os, k.tape.trans h.tape, k.output.trans h.output, Nat.le_trans h.size k.size, fun i hi => by
    rw [k.block i (Nat.lt_of_lt_of_le hi h.size) (by omega) (by omega)]
    exact h.block i hi⟩

/-- What Meet leaves owed. -/
def meetO (K : Nat → SV) (O : Nat → Nat → Bool) (p x y : Nat) : Bool := if x = p ∧ 1 ≤ y ∧ y ≤ 6 ∧ 0 < (K y).seq then true else O x y
set_option maxRecDepth 100000 in
set_option maxHeartbeats 4000000 in
theorem rmeet_any (M g ports : Nat) (K : Nat → SV) (O : Nat → Nat → Bool) (p : Nat) (hp : p < ports) (w : World) (h : RB w M g ports K O) :
    Calls Try.prog 15 #[.pointer (some ⟨M, 0, none⟩), .int .i64 (p : Int)] w fun e w' => e = .returned (.int .i64 0) ∧ (∃ O', RB w' M g ports K O' ∧ (∀ x y, O' x y = meetO K O p x y)) ∧ KeptR w w' M g := by
  have hp0 : ¬ (p : Int) < 0 := by omega
  have hp1 : ¬ (ports : Int) ≤ (p : Int) := by omega
  have hp2 : (p : Int) < (ports : Int) := by omega
  have c21 := h.owed
  have HW : Hid _ := h
  clear h
  go_enter Try.func15, Try.ntmps15
  go_wp2_with (fail)
  go_loopw [5] (fun v wr => ∃ (n : Nat) (O' : Nat → Nat → Bool), 1 ≤ n ∧ n ≤ 7 ∧ v = .int .i64 n ∧ (∀ x y, O' x y = if x = p ∧ 1 ≤ y ∧ y < n ∧ 0 < (K y).seq then true else O x y) ∧ RB wr M g ports K O' ∧ KeptR w wr M g) (fun v _ => 7 - (intOf v).toNat)
  case atStart => exact ⟨1, O, by omega, by omega, rfl, fun x y => by rw [if_neg (by omega)], HW.out, KeptR.of_below M g (Below.refl _ _)⟩
  case round =>
    clear HW c21
    obtain ⟨n, O', hn1, hn7, rfl, hO, hR, hk⟩ := hrel
    have HO : Hid _ := hO
    clear hO
    by_cases hn6 : n ≤ 6
    · have hn6' : (n : Int) ≤ 6 := by omega
      have hn7' : (n : Int) < 7 := by omega
      obtain ⟨q0, q1, q2⟩ := kC_get K (.slice (some ⟨g, 0, none⟩) ports ports) n (by omega)
      have k1 := (hR.k.cell (n * 3 + 1)).trans q1
      have c21 := hR.owed
      have o1 := (hR.o.cell (p * 7 + n)).trans (oC_get ports O' p n hp (by omega))
      have o2 := hR.o.frozen (p * 7 + n)
      have lM := hR.k.lt
      have lg := hR.o.lt
      have HR : Hid _ := hR
      have HK : Hid _ := hk
      clear hR hk q0 q1 q2
      by_cases hs : 0 < (K n).seq
      · have HS : Hid _ := hs
        generalize (K n).seq = kq at k1 hs
        go_wp2_with (fail)
        go_roundw
        case rel =>
          refine ⟨n + 1, updO O' p n true, by omega, by omega, by go_num, fun x y => ?_, ⟨Blk.other HR.out.k HR.out.ne _, ?_, HR.out.ne⟩, KeptR.setCell HK.out (.inr rfl) _⟩
          · simp only [updO]
            by_cases e : x = p ∧ y = n
            · have hs2 := HS.out
              rw [if_pos e, if_pos ⟨e.1, by omega, by omega, by rw [e.2]; exact hs2⟩]
            · rw [if_neg e, HO.out x y]
              by_cases e2 : x = p ∧ 1 ≤ y ∧ y < n ∧ 0 < (K y).seq
              · rw [if_pos e2, if_pos ⟨e2.1, e2.2.1, by omega, e2.2.2.2⟩]
              · rw [if_neg e2, if_neg (fun e3 => e2 ⟨e3.1, e3.2.1, by omega, e3.2.2.2⟩)]
          · rw [← oC_set _ _ _ _ _ (by omega)]
            exact Blk.set HR.out.o _ _
        case measure => simp [intOf]; omega
      · have HS : Hid _ := hs
        generalize (K n).seq = kq at k1 hs
        go_wp2_with (fail)
        go_roundw
        case rel =>
          refine ⟨n + 1, O', by omega, by omega, by go_num, fun x y => ?_, HR.out, HK.out⟩
          rw [HO.out x y]
          by_cases e2 : x = p ∧ 1 ≤ y ∧ y < n ∧ 0 < (K y).seq
          · rw [if_pos e2, if_pos ⟨e2.1, e2.2.1, by omega, e2.2.2.2⟩]
          · rw [if_neg e2, if_neg (fun e3 => ?_)]
            by_cases e4 : y = n
            · subst e4
              exact HS.out e3.2.2.2
            · exact e2 ⟨e3.1, e3.2.1, by omega, e3.2.2.2⟩
        case measure => simp [intOf]; omega
    · have hn6' : ¬ (n : Int) ≤ 6 := by omega
      have HF : Hid (∃ O', RB wr M g ports K O' ∧ (∀ x y, O' x y = meetO K O p x y)) := by
        refine ⟨O', hR, fun x y => ?_⟩
        unfold meetO
        rw [HO.out x y]
        have hn : n = 7 := by omega
        subst hn
        by_cases e2 : x = p ∧ 1 ≤ y ∧ y < 7 ∧ 0 < (K y).seq
        · rw [if_pos e2, if_pos ⟨e2.1, e2.2.1, by omega, e2.2.2.2⟩]
        · rw [if_neg e2, if_neg (fun e3 => e2 ⟨e3.1, e3.2.1, by omega, e3.2.2.2⟩)]
      have HK : Hid _ := hk
      clear hR hk
      go_wp2_with (fail)
      go_ret
      exact ⟨rfl, HF.out, HK.out⟩

set_option maxRecDepth 100000 in
theorem rmeet_bad (M g ports : Nat) (K : Nat → SV) (O : Nat → Nat → Bool) (p : Int) (hp : ¬ (0 ≤ p ∧ p < (ports : Int))) (w : World) (h : RB w M g ports K O) :
    Calls Try.prog 15 #[.pointer (some ⟨M, 0, none⟩), .int .i64 p] w fun e w' => e = .returned (.int .i64 1) ∧ w = w' := by
  have c21 := h.owed
  have lM := h.k.lt
  have main : ∀ Q : Prop, (p < 0 → Q) → (¬ p < 0 → (ports : Int) ≤ p → Q) → Q := fun Q q1 q2 => by
    by_cases e : p < 0
    · exact q1 e
    · exact q2 e (by omega)
  clear h hp
  refine main _ ?_ ?_ <;> clear main
  all_goals
    intros
    go_enter Try.func15, Try.ntmps15
    go_wp2_with (fail)
    go_ret
    exact ⟨rfl, rfl⟩
end Go.Proofs.Ytgfjgenkpfdofaa
