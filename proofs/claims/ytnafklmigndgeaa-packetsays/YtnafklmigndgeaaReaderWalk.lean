/-
  The reader of frames: what it holds, and what a byte makes of that.
-/
import Derived.Test.YtnafklmigndgeaaSumWalk
import Derived.Test.YtnafklmigndgeaaEsc
import Derived.Test.YtnafklmigndgeaaRowlib
import Derived.RegionTactic
import Derived.BigRegion
import Derived.ChangeAlike
import Derived.Deep.QuietTactic
import Derived.BigQuiet
import Derived.Deep.WholeRow
namespace Go.Proofs.Ytnafklmigndgeaa
open Go.RowKit Plain

/-- What the reader's cells hold: the bytes since the last flag, whether the last one was an escape, whether all is lost. -/
structure RdC (C : Array Value) (l : List UInt8) (e d : Bool) : Prop where
  size : C.size = 65
  len : l.length ≤ 62
  live : ∀ i : Nat, i < 62 → ∃ x : Int, C[i]? = some (.int .u8 x)
  body : ∀ (i : Nat) (h : i < l.length), C[i]? = some (.int .u8 (l[i].toNat : Int))
  many : C[62]? = some (.int .i64 (l.length : Int))
  esc : C[63]? = some (.bool e)
  bad : C[64]? = some (.bool d)
def Rd (w : World) (b : Nat) (l : List UInt8) (e d : Bool) : Prop := ∃ C : Array Value, w.heap[b]? = some (.cells C 35 (0, 0)) ∧ RdC C l e d

theorem RdC.setBad {C : Array Value} {l : List UInt8} {e d : Bool} (h : RdC C l e d) (d' : Bool) : RdC (C.setIfInBounds 64 (.bool d')) l e d' := by
  have hs := h.size
  have hlen := h.len
  refine ⟨by simpa using hs, hlen, fun i hi => ?_, fun i hi => ?_, ?_, ?_, ?_⟩
  · obtain ⟨x, hx⟩ := h.live i hi
    exact ⟨x, by rw [Array.getElem?_setIfInBounds, if_neg (by omega)]; exact hx⟩
  · rw [Array.getElem?_setIfInBounds, if_neg (by omega)]; exact h.body i hi
  · rw [Array.getElem?_setIfInBounds, if_neg (by omega)]; exact h.many
  · rw [Array.getElem?_setIfInBounds, if_neg (by omega)]; exact h.esc
  · rw [Array.getElem?_setIfInBounds, if_pos rfl, if_pos (by omega)]
theorem RdC.setEsc {C : Array Value} {l : List UInt8} {e d : Bool} (h : RdC C l e d) (e' : Bool) : RdC (C.setIfInBounds 63 (.bool e')) l e' d := by
  have hs := h.size
  have hlen := h.len
  refine ⟨by simpa using hs, hlen, fun i hi => ?_, fun i hi => ?_, ?_, ?_, ?_⟩
  · obtain ⟨x, hx⟩ := h.live i hi
    exact ⟨x, by rw [Array.getElem?_setIfInBounds, if_neg (by omega)]; exact hx⟩
  · rw [Array.getElem?_setIfInBounds, if_neg (by omega)]; exact h.body i hi
  · rw [Array.getElem?_setIfInBounds, if_neg (by omega)]; exact h.many
  · rw [Array.getElem?_setIfInBounds, if_pos rfl, if_pos (by omega)]
  · rw [Array.getElem?_setIfInBounds, if_neg (by omega)]; exact h.bad
theorem RdC.push {C : Array Value} {l : List UInt8} {e d : Bool} (h : RdC C l e d) (hl : l.length < 62) (c : UInt8) :
    RdC ((C.setIfInBounds l.length (.int .u8 (c.toNat : Int))).setIfInBounds 62 (.int .i64 ((l.length : Int) + 1))) (l ++ [c]) e d := by
  have hs := h.size
  refine ⟨by simpa using hs, by simp; omega, fun i hi => ?_, fun i hi => ?_, ?_, ?_, ?_⟩
  · rw [Array.getElem?_setIfInBounds, if_neg (by omega), Array.getElem?_setIfInBounds]
    by_cases e1 : l.length = i
    · rw [if_pos e1, if_pos (by omega)]; exact ⟨_, rfl⟩
    · rw [if_neg e1]; exact h.live i hi
  · have hi' : i < l.length + 1 := by simpa using hi
    rw [Array.getElem?_setIfInBounds, if_neg (by omega), Array.getElem?_setIfInBounds]
    by_cases e1 : l.length = i
    · rw [if_pos e1, if_pos (by omega)]
      subst e1
      simp
    · rw [if_neg e1, h.body i (by omega), List.getElem_append_left (by omega)]
  · rw [Array.getElem?_setIfInBounds, if_pos rfl, if_pos (by simp; omega)]
    simp
  · rw [Array.getElem?_setIfInBounds, if_neg (by omega), Array.getElem?_setIfInBounds, if_neg (by omega)]; exact h.esc
  · rw [Array.getElem?_setIfInBounds, if_neg (by omega), Array.getElem?_setIfInBounds, if_neg (by omega)]; exact h.bad

/-- What a byte that is no flag makes of it. -/
def addR : List UInt8 × Bool × Bool → UInt8 → List UInt8 × Bool × Bool
  | (l, e, d), c =>
    if c < 32 ∨ (c = 125 ∧ e = true) then (l, e, true)
    else if c = 125 then (l, true, d)
    else if l.length = 62 then (l, false, true)
    else (l ++ [if e then c ^^^ 32 else c], false, d)

theorem grownBy_refl (w : World) (row : Option Nat) : w.grownBy w row := ⟨rfl, rfl, rfl, Nat.le_refl _, fun _ _ _ => rfl⟩
theorem grownBy_trans {a b c : World} {row : Option Nat} (h : a.grownBy b row) (k : b.grownBy c row) : a.grownBy c row :=
  ⟨k.os.trans h.os, k.tape.trans h.tape, k.output.trans h.output, Nat.le_trans h.size k.size, fun i hi hne => (k.block i (Nat.lt_of_lt_of_le hi h.size) hne).trans (h.block i hi hne)⟩
theorem grownBy_setCell {a w : World} {b : Nat} (h : a.grownBy w (some b)) (o : Nat) (v : Value) : a.grownBy (w.setCell ⟨b, o, none⟩ v) (some b) := by
  have b1 : Below 0 w (w.setCell ⟨b, o, none⟩ v) := (Below.refl 0 w).setCell (Nat.zero_le _) _
  exact ⟨b1.os.trans h.os, b1.tape.trans h.tape, b1.output.trans h.output, Nat.le_trans h.size b1.size, fun i hi hne => (Below.heap_setCell _ _ _ i (fun e => hne (by rw [e]))).trans (h.block i hi hne)⟩
theorem grownBy_drew {a w : World} {row : Option Nat} (h : a.grownBy w row) : a.grownBy w.drew row := ⟨h.os, h.tape, h.output, h.size, h.block⟩
theorem grownBy_setRow {a w : World} {b : Nat} (h : a.grownBy w (some b)) (C : Array Value) : a.grownBy (w.setRow b C) (some b) :=
  ⟨h.os, h.tape, h.output, by simpa [World.setRow] using h.size, fun i hi hne => (setRow_other w b i C (fun e => hne (by rw [e]))).trans (h.block i hi hne)⟩

/-- A cell of the reader is written. -/
theorem rd_set {w : World} {b : Nat} {C : Array Value} (h : w.heap[b]? = some (.cells C 35 (0, 0))) (i : Nat) (v : Value) : (w.setCell ⟨b, i, none⟩ v).heap[b]? = some (.cells (C.setIfInBounds i v) 35 (0, 0)) := by
  rw [setCell_eq_setRow w b i C 35 (0, 0) v h]
  exact setRow_heap w b C _ 35 (0, 0) h

set_option maxRecDepth 100000 in
set_option maxHeartbeats 2000000 in
theorem add_any (b : Nat) (l : List UInt8) (e d : Bool) (c : UInt8) (w : World) (h : Rd w b l e d) :
    Calls Try.prog 30 #[.pointer (some ⟨b, 0, none⟩), .int .u8 (c.toNat : Int)] w fun e' w' => e' = .returned (.tuple #[]) ∧ Rd w' b (addR (l, e, d) c).1 (addR (l, e, d) c).2.1 (addR (l, e, d) c).2.2 ∧ w.grownBy w' (some b) := by
  obtain ⟨C, hC, hR⟩ := h
  have HR : Hid (RdC C l e d) := hR
  have hlen := hR.len
  have c32 : c < 32 ↔ (c.toNat : Int) < 32 := by rw [UInt8.lt_iff_toNat_lt]; show c.toNat < 32 ↔ _; omega
  have c125 : c = 125 ↔ ((c.toNat : Int) == 125) = true := by
    rw [← UInt8.toNat_inj, beq_iff_eq]; show c.toNat = 125 ↔ _; omega
  have hcl : ∀ i, w.cell? ⟨b, i, none⟩ = C[i]? := fun i => cell_of_row w b i C 35 (0, 0) hC
  have hmany : w.cell? ⟨b, 62, none⟩ = some (.int .i64 (l.length : Int)) := (hcl 62).trans hR.many
  have hesc : w.cell? ⟨b, 63, none⟩ = some (.bool e) := (hcl 63).trans hR.esc
  have hbad : w.cell? ⟨b, 64, none⟩ = some (.bool d) := (hcl 64).trans hR.bad
  have hfree : ∀ i, w.frozen? ⟨b, i, none⟩ = false := fun i => frozen_of_row w b i C 35 hC
  have HC : Hid (w.heap[b]? = some (.cells C 35 (0, 0))) := hC
  clear hcl hC hR
  by_cases h1 : (c.toNat : Int) < 32
  · have ha : addR (l, e, d) c = (l, e, true) := by simp [addR, c32.mpr h1]
    rw [ha]
    clear c32 c125
    go_enter Try.func30, Try.ntmps30
    go_wp2
    all_goals
      first | go_end0 | refine bodyPost_ret (results_none rfl _ _ _) rfl ?_
    exact ⟨rfl, ⟨_, rd_set HC.out 64 _, HR.out.setBad true⟩, grownBy_setCell (grownBy_refl _ _) _ _⟩
  · have n32 : ¬ c < 32 := fun x => h1 (c32.mp x)
    by_cases h2 : ((c.toNat : Int) == 125) = true
    · have e125 : c = 125 := c125.mpr h2
      cases e
      · have ha : addR (l, false, d) c = (l, true, d) := by simp [addR, e125]
        rw [ha]
        clear c32 c125 e125 n32
        go_enter Try.func30, Try.ntmps30
        go_wp2
        all_goals
          first | go_end0 | refine bodyPost_ret (results_none rfl _ _ _) rfl ?_
        exact ⟨rfl, ⟨_, rd_set HC.out 63 _, HR.out.setEsc true⟩, grownBy_setCell (grownBy_refl _ _) _ _⟩
      · have ha : addR (l, true, d) c = (l, true, true) := by simp [addR, e125]
        rw [ha]
        clear c32 c125 e125 n32
        go_enter Try.func30, Try.ntmps30
        go_wp2
        all_goals
          first | go_end0 | refine bodyPost_ret (results_none rfl _ _ _) rfl ?_
        exact ⟨rfl, ⟨_, rd_set HC.out 64 _, HR.out.setBad true⟩, grownBy_setCell (grownBy_refl _ _) _ _⟩
    · have h2' : ((c.toNat : Int) == 125) = false := by simpa using h2
      have n125 : ¬ c = 125 := fun x => h2 (c125.mp x)
      have hx := xor32 c
      by_cases h3 : ((l.length : Int) == 62) = true
      · have l62 : l.length = 62 := by have := beq_iff_eq.mp h3; omega
        have ha : addR (l, e, d) c = (l, false, true) := by simp [addR, n125, n32, l62]
        rw [ha]
        have L62 : Hid (l.length = 62) := l62
        clear c32 c125 n125 n32 l62 h2
        cases e
        · go_enter Try.func30, Try.ntmps30
          go_wp2
          all_goals
            first | go_end0 | refine bodyPost_ret (results_none rfl _ _ _) rfl ?_
          exact ⟨rfl, ⟨_, rd_set HC.out 64 _, HR.out.setBad true⟩, grownBy_setCell (grownBy_refl _ _) _ _⟩
        · go_enter Try.func30, Try.ntmps30
          go_wp2
          all_goals
            first | go_end0 | refine bodyPost_ret (results_none rfl _ _ _) rfl ?_
          exact ⟨rfl, ⟨_, rd_set (rd_set HC.out 63 _) 64 _, (HR.out.setEsc false).setBad true⟩, grownBy_setCell (grownBy_setCell (grownBy_refl _ _) _ _) _ _⟩
      · have h3' : ((l.length : Int) == 62) = false := by simpa using h3
        have l62 : l.length < 62 := by
          have : ¬ (l.length : Int) = 62 := fun e => h3 (by simp [e])
          omega
        have hl62' : (l.length : Int) < 62 := by omega
        have ha : addR (l, e, d) c = (l ++ [if e then c ^^^ 32 else c], false, d) := by simp [addR, n125, n32, Nat.ne_of_lt l62]
        rw [ha]
        obtain ⟨x, hxx⟩ := HR.out.live _ l62
        have hcell : w.cell? ⟨b, l.length, none⟩ = some (.int .u8 x) := (cell_of_row w b _ C 35 (0, 0) HC.out).trans hxx
        clear c32 c125 n125 n32 h2 h3 hxx
        cases e
        · go_enter Try.func30, Try.ntmps30
          go_wp2
          go_region
          go_wp2
          go_end0
          exact ⟨rfl, ⟨_, rd_set (rd_set HC.out _ _) 62 _, HR.out.push l62 c⟩, grownBy_drew (grownBy_setCell (grownBy_setCell (grownBy_refl _ _) _ _) _ _)⟩
        · go_enter Try.func30, Try.ntmps30
          go_wp2
          go_region
          go_wp2
          go_end0
          refine ⟨rfl, ⟨_, rd_set (rd_set (rd_set HC.out 63 _) _ _) 62 _, ?_⟩, grownBy_drew (grownBy_setCell (grownBy_setCell (grownBy_setCell (grownBy_refl _ _) _ _) _ _) _ _)⟩
          have hp := (HR.out.setEsc false).push l62 (c ^^^ 32)
          rw [UInt8.toNat_xor] at hp
          exact hp

end Go.Proofs.Ytnafklmigndgeaa
