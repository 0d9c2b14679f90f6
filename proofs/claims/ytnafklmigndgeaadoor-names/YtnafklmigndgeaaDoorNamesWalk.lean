/-
  'Names' returns true, and changes nothing that was there.
-/
import Derived.Test.YtnafklmigndgeaaDoorRows
import Derived.Test.YtnafklmigndgeaaDoorRowlib
import Derived.WalkKit
import Derived.WalkSpells
import Derived.WalkLawsBesides
import Derived.Handy
import Derived.Deep.QuietTactic
import Derived.BigQuiet
namespace Go.Proofs.YtnafklmigndgeaaDoor
open Go.RowKit

theorem below_chain {w a b : World} (h : Below w.heap.size w a) (k : Below a.heap.size a b) : Below w.heap.size w b := h.trans (k.mono h.size)
theorem below_drewN {w a : World} {B : Nat} (h : Below B w a) (n : Nat) : Below B w (a.drewN n) := ⟨h.os, h.tape, h.output, h.size, h.block⟩
theorem info3 : (Tryd.prog.info? 3).map (fun i => (i.zero, i.size, i.bytes)) = some (some (.int .i64 0), 1, 8) := by kernel_rfl
def ints (l : List Int) : List Value := l.map (Value.int .i64)
theorem one_intl (l : List Int) : ∀ u ∈ ints l, u.oneCell' = true := by
  intro u hu
  simp [ints] at hu
  obtain ⟨x, _, rfl⟩ := hu
  rfl
theorem cells_any (w : World) (C : Array Value) (t : TypeId) (l : List Int) (hl : C.toList = ints l) : ∀ (j : Nat) (u : Value), (ints l)[j]? = some u → (w.alloc (.cells C t)).cell? ((⟨w.heap.size, 0, none⟩ : Addr).add j) = some u := by
  intro j u hu
  rw [add_plain, World.cell?_alloc_mark]
  rw [← hl] at hu
  simpa using hu

/-- Two rows that lie apart: what stands behind an 'append' onto the first, its news laid in a new block. -/
structure Two (w x : World) (g h m n cg ch : Nat) (A B : List Value) : Prop where
  a : Row x 1 (.slice (some ⟨g, 0, none⟩) m cg) m A
  b : Row x 1 (.slice (some ⟨h, 0, none⟩) n ch) n B
  ne : g ≠ h
  ag : w.heap.size ≤ g
  bg : w.heap.size ≤ h
  below : Below w.heap.size w x
theorem Two.swap {w x : World} {g h m n cg ch : Nat} {A B : List Value} (t : Two w x g h m n cg ch A B) : Two w x h g n m ch cg B A := ⟨t.b, t.a, t.ne.symm, t.bg, t.ag, t.below⟩
theorem Two.step {w x y : World} {o : Obj} {g h m n cg ch g' m' cg' : Nat} {A B A' : List Value} (t : Two w x g h m n cg ch A B) (hr : Row y 1 (.slice (some ⟨g', 0, none⟩) m' cg') m' A') (hg : (x.alloc o).grownBy y (some g)) (hown : some g = some g' ∨ x.heap.size + 1 ≤ g') :
    Two w y g' h m' n cg' ch A' B := by
  have R := row_step hg hown t.b t.ag t.ne t.below
  exact ⟨hr, R.1, R.2.2.1, R.2.1, t.bg, R.2.2.2⟩

theorem assert23 (k : Int) (w : World) : (Instr.typeAssert (.iface 23 (.int .i64 k)) 27 23 true).run Tryd.prog w = .ok (.tuple #[.int .i64 k, .bool true]) w := by kernel_rfl
set_option maxRecDepth 100000 in
theorem same_err (k : Int) (hp : 0 < k) (w : World) : Calls Tryd.prog 4 #[.iface 23 (.int .i64 k), .int .i64 k] w fun e w' => e = .returned (.bool true) ∧ w = w' := by
  have hta := assert23
  go_enter Tryd.func4, Tryd.ntmps4
  go_wp2
  go_ret
  exact ⟨rfl, rfl⟩

set_option maxRecDepth 100000 in
theorem error_eight (w : World) : Calls Tryd.prog 6 #[.int .i64 8] w fun e w' => e = .returned (.string ⟨#[116, 111, 119, 112, 97, 116, 104, 58, 32, 101, 114, 114, 111, 114, 32, 56]⟩) ∧ w = w' := by
  go_enter Tryd.func6, Tryd.ntmps6
  go_wp2
  go_ret
  refine ⟨?_, rfl⟩
  have e : (ByteArray.mk #[116, 111, 119, 112, 97, 116, 104, 58, 32, 101, 114, 114, 111, 114, 32] ++ (ByteArray.mk #[48, 49, 50, 51, 52, 53, 54, 55, 56, 57, 97, 98, 99, 100, 101, 102, 103, 104, 105, 106, 107, 108, 109, 110, 111, 112, 113, 114, 115, 116, 117, 118, 119, 120, 121, 122]).extract 8 9) = ByteArray.mk #[116, 111, 119, 112, 97, 116, 104, 58, 32, 101, 114, 114, 111, 114, 32, 56] := by decide +kernel
  show Ending.returned (.string _) = _
  rw [← e]

set_option maxRecDepth 100000 in
set_option maxHeartbeats 2000000 in
theorem sameNumbers_true (g h n cg ch : Nat) (l : List Int) (w : World) (ha : Row w 1 (.slice (some ⟨g, 0, none⟩) n cg) n (ints l)) (hb : Row w 1 (.slice (some ⟨h, 0, none⟩) n ch) n (ints l)) (hn : n ≤ 1000000) :
    Calls Tryd.prog 5 #[.slice (some ⟨g, 0, none⟩) n cg, .slice (some ⟨h, 0, none⟩) n ch] w fun e w' => e = .returned (.bool true) ∧ ∃ m, w' = w.drewN m := by
  have hll : l.length = n := by have := ha.1; simpa [ints] using this
  have heq : ((n : Int) != (n : Int)) = false := by simp
  go_enter Tryd.func5, Tryd.ntmps5
  go_wp2_with (fail)
  go_loopw [5] (fun i wr => ∃ k m : Nat, k ≤ n ∧ i = .int .i64 k ∧ wr = w.drewN m) (fun i _ => n - (intOf i).toNat)
  case atStart => exact ⟨0, 0, Nat.zero_le _, rfl, rfl⟩
  case round =>
    obtain ⟨k, m, hk, rfl, rfl⟩ := hrel
    by_cases hlt : k < n
    · have hkl : k < l.length := by omega
      have c1 := ha.cell k (.int .i64 l[k]) (by simp [ints, hkl])
      have c2 := hb.cell k (.int .i64 l[k]) (by simp [ints, hkl])
      generalize l[k] = x at c1 c2
      have hlt' : (k : Int) < (n : Int) := by omega
      go_wp2_with (fail)
      go_quiet (fail)
      go_wp2_with (fail)
      go_roundw
      case rel => exact ⟨k + 1, _, by omega, by go_num, rfl⟩
      case measure => simp [intOf]; omega
    · go_wp2_with (fail)
      go_ret
      exact ⟨rfl, m, rfl⟩

abbrev A0 : List Int := [60, 6, 3, 20, 1000000, 4, 3, 4, 8, 20, 2000, 40, 255, 60, 100]
abbrev A1 : List Int := [0, 1, 2, 3, 4, 5, 6, 7, 8, 9]
abbrev A2 : List Int := [0, 1, 2, 3, 4, 5, 6, 7, 8, 9, 10, 11]
abbrev A3 : List Int := [1, 2, 3, 4, 5, 6, 1, 5]
abbrev A4 : List Int := [117, 100, 115, 102, 105, 122, 114, 97, 110, 116, 107]

set_option maxRecDepth 100000 in
set_option maxHeartbeats 8000000 in
theorem names_walk (w : World) : Calls Tryd.prog 3 #[] w fun e w' => e = .returned (.bool true) ∧ Below w.heap.size w w' := by
  obtain ⟨i0, hi, hz0, hz1, hz2⟩ := info_parts info3
  have hR : ∀ x : World, Row (x.alloc (.cells #[.int .i64 60, .int .i64 6, .int .i64 3, .int .i64 20, .int .i64 1000000, .int .i64 4, .int .i64 3, .int .i64 4, .int .i64 8, .int .i64 20, .int .i64 2000, .int .i64 40, .int .i64 255, .int .i64 60, .int .i64 100] 3)) 1 (.slice (some ⟨x.heap.size, 0, none⟩) 15 15) 15 (ints A0) := fun x =>
    Row.made x 1 3 _ (0, 0) 15 15 (ints A0) rfl rfl (Nat.le_refl _) (by decide) (.inl rfl) (by intro j u hu; simpa [ints] using hu)
  have T0 : Two w ((w.alloc (.cells #[.int .i64 60, .int .i64 6, .int .i64 3, .int .i64 20, .int .i64 1000000, .int .i64 4, .int .i64 3, .int .i64 4, .int .i64 8, .int .i64 20, .int .i64 2000, .int .i64 40, .int .i64 255, .int .i64 60, .int .i64 100] 3)).alloc (.cells #[.int .i64 60, .int .i64 6, .int .i64 3, .int .i64 20, .int .i64 1000000, .int .i64 4, .int .i64 3, .int .i64 4, .int .i64 8, .int .i64 20, .int .i64 2000, .int .i64 40, .int .i64 255, .int .i64 60, .int .i64 100] 3)) w.heap.size (w.heap.size + 1) 15 15 15 15 (ints A0) (ints A0) := by
    have h2 := hR (w.alloc (.cells #[.int .i64 60, .int .i64 6, .int .i64 3, .int .i64 20, .int .i64 1000000, .int .i64 4, .int .i64 3, .int .i64 4, .int .i64 8, .int .i64 20, .int .i64 2000, .int .i64 40, .int .i64 255, .int .i64 60, .int .i64 100] 3))
    have e : (w.alloc (.cells #[.int .i64 60, .int .i64 6, .int .i64 3, .int .i64 20, .int .i64 1000000, .int .i64 4, .int .i64 3, .int .i64 4, .int .i64 8, .int .i64 20, .int .i64 2000, .int .i64 40, .int .i64 255, .int .i64 60, .int .i64 100] 3)).heap.size = w.heap.size + 1 := by simp
    rw [e] at h2
    exact ⟨(hR w).alloc _, h2, by omega, Nat.le_refl _, by omega, ((Below.refl _ _).alloc (Nat.le_refl _) _).alloc (by omega) _⟩
  obtain ⟨x0, hx0⟩ : ∃ x0, x0 = (w.alloc (.cells #[.int .i64 60, .int .i64 6, .int .i64 3, .int .i64 20, .int .i64 1000000, .int .i64 4, .int .i64 3, .int .i64 4, .int .i64 8, .int .i64 20, .int .i64 2000, .int .i64 40, .int .i64 255, .int .i64 60, .int .i64 100] 3)).alloc (.cells #[.int .i64 60, .int .i64 6, .int .i64 3, .int .i64 20, .int .i64 1000000, .int .i64 4, .int .i64 3, .int .i64 4, .int .i64 8, .int .i64 20, .int .i64 2000, .int .i64 40, .int .i64 255, .int .i64 60, .int .i64 100] 3) := ⟨_, rfl⟩
  have e0 : x0.heap.size = w.heap.size + 1 + 1 := by rw [hx0]; simp
  rw [← hx0] at T0
  have HX : Hid _ := hx0
  clear hR hx0
  go_enter Tryd.func3, Tryd.ntmps3
  go_wp2_with (at_builtin; go_must (refine wpList_append_row _ rfl (.tmp 7) (.tmp 8) 22 rfl 3 i0 (.int .i64 0) 1 8 Tryd.underlying22 hi hz0 hz1 hz2 rfl (by decide) (.slice (some ⟨w.heap.size, 0, none⟩) 15 15) 15 (ints A0) rfl ?r1 _ 10 10 (ints A1) rfl rfl (by decide) ?c1 (one_intl _) (by decide) (by decide) ?_))
  case r1 => rw [← HX.out]; exact T0.a.alloc _
  case c1 =>
    rw [← HX.out, ← e0]
    exact cells_any _ _ _ _ rfl
  rw [← HX.out]
  intro g1 cp1 w1 hr1 hg1 ho1
  have T1 : Two w w1 g1 (w.heap.size + 1) 25 15 cp1 15 (ints A0 ++ ints A1) (ints A0) := T0.step hr1 hg1 (by
    rcases ho1 with h | h
    · exact .inl h
    · exact .inr (by omega))
  clear hr1 hg1 ho1 T0
  have S2 := T1.swap
  go_wp2_with (at_builtin; go_must (refine wpList_append_row _ rfl (.tmp 10) (.tmp 11) 22 rfl 3 i0 (.int .i64 0) 1 8 Tryd.underlying22 hi hz0 hz1 hz2 rfl (by decide) (.slice (some ⟨(w.heap.size + 1), 0, none⟩) 15 15) 15 (ints A0) rfl (S2.a.alloc _) _ 10 10 (ints A1) rfl rfl (by decide) (cells_any _ _ _ _ rfl) (one_intl _) (by decide) (by decide) ?_))
  intro g2 cp2 w2 hr2 hg2 ho2
  have T2 : Two w w2 g2 g1 25 25 cp2 cp1 (ints A0 ++ ints A1) (ints A0 ++ ints A1) := S2.step hr2 hg2 ho2
  clear hr2 hg2 ho2 S2 T1
  have S3 := T2.swap
  go_wp2_with (at_builtin; go_must (refine wpList_append_row _ rfl (.tmp 13) (.tmp 14) 22 rfl 3 i0 (.int .i64 0) 1 8 Tryd.underlying22 hi hz0 hz1 hz2 rfl (by decide) (.slice (some ⟨g1, 0, none⟩) 25 cp1) 25 (ints A0 ++ ints A1) rfl (S3.a.alloc _) _ 12 12 (ints A2) rfl rfl (by decide) (cells_any _ _ _ _ rfl) (one_intl _) (by decide) (by decide) ?_))
  intro g3 cp3 w3 hr3 hg3 ho3
  have T3 : Two w w3 g3 g2 37 25 cp3 cp2 (ints A0 ++ ints A1 ++ ints A2) (ints A0 ++ ints A1) := S3.step hr3 hg3 ho3
  clear hr3 hg3 ho3 S3 T2
  have S4 := T3.swap
  go_wp2_with (at_builtin; go_must (refine wpList_append_row _ rfl (.tmp 16) (.tmp 17) 22 rfl 3 i0 (.int .i64 0) 1 8 Tryd.underlying22 hi hz0 hz1 hz2 rfl (by decide) (.slice (some ⟨g2, 0, none⟩) 25 cp2) 25 (ints A0 ++ ints A1) rfl (S4.a.alloc _) _ 12 12 (ints A2) rfl rfl (by decide) (cells_any _ _ _ _ rfl) (one_intl _) (by decide) (by decide) ?_))
  intro g4 cp4 w4 hr4 hg4 ho4
  have T4 : Two w w4 g4 g3 37 37 cp4 cp3 (ints A0 ++ ints A1 ++ ints A2) (ints A0 ++ ints A1 ++ ints A2) := S4.step hr4 hg4 ho4
  clear hr4 hg4 ho4 S4 T3
  have S5 := T4.swap
  go_wp2_with (at_builtin; go_must (refine wpList_append_row _ rfl (.tmp 19) (.tmp 20) 22 rfl 3 i0 (.int .i64 0) 1 8 Tryd.underlying22 hi hz0 hz1 hz2 rfl (by decide) (.slice (some ⟨g3, 0, none⟩) 37 cp3) 37 (ints A0 ++ ints A1 ++ ints A2) rfl (S5.a.alloc _) _ 8 8 (ints A3) rfl rfl (by decide) (cells_any _ _ _ _ rfl) (one_intl _) (by decide) (by decide) ?_))
  intro g5 cp5 w5 hr5 hg5 ho5
  have T5 : Two w w5 g5 g4 45 37 cp5 cp4 (ints A0 ++ ints A1 ++ ints A2 ++ ints A3) (ints A0 ++ ints A1 ++ ints A2) := S5.step hr5 hg5 ho5
  clear hr5 hg5 ho5 S5 T4
  have S6 := T5.swap
  go_wp2_with (at_builtin; go_must (refine wpList_append_row _ rfl (.tmp 22) (.tmp 23) 22 rfl 3 i0 (.int .i64 0) 1 8 Tryd.underlying22 hi hz0 hz1 hz2 rfl (by decide) (.slice (some ⟨g4, 0, none⟩) 37 cp4) 37 (ints A0 ++ ints A1 ++ ints A2) rfl (S6.a.alloc _) _ 8 8 (ints A3) rfl rfl (by decide) (cells_any _ _ _ _ rfl) (one_intl _) (by decide) (by decide) ?_))
  intro g6 cp6 w6 hr6 hg6 ho6
  have T6 : Two w w6 g6 g5 45 45 cp6 cp5 (ints A0 ++ ints A1 ++ ints A2 ++ ints A3) (ints A0 ++ ints A1 ++ ints A2 ++ ints A3) := S6.step hr6 hg6 ho6
  clear hr6 hg6 ho6 S6 T5
  have S7 := T6.swap
  go_wp2_with (at_builtin; go_must (refine wpList_append_row _ rfl (.tmp 25) (.tmp 26) 22 rfl 3 i0 (.int .i64 0) 1 8 Tryd.underlying22 hi hz0 hz1 hz2 rfl (by decide) (.slice (some ⟨g5, 0, none⟩) 45 cp5) 45 (ints A0 ++ ints A1 ++ ints A2 ++ ints A3) rfl (S7.a.alloc _) _ 11 11 (ints A4) rfl rfl (by decide) (cells_any _ _ _ _ rfl) (one_intl _) (by decide) (by decide) ?_))
  intro g7 cp7 w7 hr7 hg7 ho7
  have T7 : Two w w7 g7 g6 56 45 cp7 cp6 (ints A0 ++ ints A1 ++ ints A2 ++ ints A3 ++ ints A4) (ints A0 ++ ints A1 ++ ints A2 ++ ints A3) := S7.step hr7 hg7 ho7
  clear hr7 hg7 ho7 S7 T6
  have S8 := T7.swap
  go_wp2_with (at_builtin; go_must (refine wpList_append_row _ rfl (.tmp 28) (.tmp 29) 22 rfl 3 i0 (.int .i64 0) 1 8 Tryd.underlying22 hi hz0 hz1 hz2 rfl (by decide) (.slice (some ⟨g6, 0, none⟩) 45 cp6) 45 (ints A0 ++ ints A1 ++ ints A2 ++ ints A3) rfl (S8.a.alloc _) _ 11 11 (ints A4) rfl rfl (by decide) (cells_any _ _ _ _ rfl) (one_intl _) (by decide) (by decide) ?_))
  intro g8 cp8 w8 hr8 hg8 ho8
  have T8 : Two w w8 g8 g7 56 56 cp8 cp7 (ints A0 ++ ints A1 ++ ints A2 ++ ints A3 ++ ints A4) (ints A0 ++ ints A1 ++ ints A2 ++ ints A3 ++ ints A4) := S8.step hr8 hg8 ho8
  clear hr8 hg8 ho8 S8 T7
  have hcell : ∀ k : Nat, k < 8 → (w8.alloc (.cells #[.iface 23 (.int .i64 1), .iface 23 (.int .i64 2), .iface 23 (.int .i64 3), .iface 23 (.int .i64 4), .iface 23 (.int .i64 5), .iface 23 (.int .i64 6), .iface 23 (.int .i64 7), .iface 23 (.int .i64 8)] 27)).cell? ⟨w8.heap.size, k, none⟩ = some (.iface 23 (.int .i64 ((k : Int) + 1))) := by
    intro k hk
    rw [World.cell?_alloc_mark]
    match k, hk with
    | 0, _ => rfl
    | 1, _ => rfl
    | 2, _ => rfl
    | 3, _ => rfl
    | 4, _ => rfl
    | 5, _ => rfl
    | 6, _ => rfl
    | 7, _ => rfl
  have hw9 : Below w8.heap.size w8 (w8.alloc (.cells #[.iface 23 (.int .i64 1), .iface 23 (.int .i64 2), .iface 23 (.int .i64 3), .iface 23 (.int .i64 4), .iface 23 (.int .i64 5), .iface 23 (.int .i64 6), .iface 23 (.int .i64 7), .iface 23 (.int .i64 8)] 27)) := (Below.refl _ _).alloc (Nat.le_refl _) _
  go_wp2_with (fail)
  go_loop [4] (fun i => ∃ k : Nat, k ≤ 8 ∧ i = .int .i64 k) (fun i => 8 - (intOf i).toNat)
  case atStart => exact ⟨0, by omega, rfl⟩
  case round =>
    obtain ⟨k, hk, rfl⟩ := hrel
    by_cases hlt : k < 8
    · have c1 := hcell k hlt
      have g0 : (0 : Int) ≤ (k : Int) := by omega
      have g1' : (k : Int) < 8 := by omega
      clear hcell
      go_wp2_with (fail)
      refine (same_err ((k : Int) + 1) (by omega) _).mono ?_
      rintro e y1 ⟨rfl, rfl⟩
      go_wp2_with (fail)
      go_round
      case rel => exact ⟨k + 1, by omega, by go_num⟩
      case measure => simp [intOf]; omega
    · clear hcell
      go_wp2_with (fail)
      refine (sameNumbers_true g7 g8 56 cp7 cp8 (A0 ++ A1 ++ A2 ++ A3 ++ A4) _ (T8.b.below hw9) (T8.a.below hw9) (by decide)).mono ?_
      rintro e y1 ⟨rfl, m, rfl⟩
      have hwy := below_drewN (below_chain T8.below hw9) m
      go_wp2_with (fail)
      refine (error_eight _).mono ?_
      rintro e y2 ⟨rfl, rfl⟩
      go_wp2_with (fail)
      go_ret
      exact ⟨rfl, hwy⟩
end Go.Proofs.YtnafklmigndgeaaDoor
