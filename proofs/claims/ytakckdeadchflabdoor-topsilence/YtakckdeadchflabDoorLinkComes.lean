/-
  One end of a link, as far as nobody answers: ask, act, come.
-/
import Derived.Test.YtakckdeadchflabDoorLinkWalk
namespace Go.Proofs.YtakckdeadchflabDoor
open Go.RowKit

abbrev nilS : Value := .slice none 0 0
set_option maxRecDepth 100000 in
set_option maxHeartbeats 4000000 in
theorem ask_nil (B : Nat) (fs fm ns nm qs qm st sz lf wt ow code : Int) (a : Option Addr) (n cap : Nat) (w : World) (h : Lk w B (lkC fs fm ns nm qs qm st sz lf wt ow nilS)) (o1 : 0 ≤ ow) (o2 : ow ≤ 255) (l1 : -1000 ≤ lf) (l2 : lf ≤ 1000) :
    Calls Tryd.prog 29 #[.pointer (some ⟨B, 0, none⟩), .int .i64 code, .slice a n cap] w fun e w' => e = .returned (.tuple #[]) ∧ ∃ g c, Lk w' B (lkC fs fm ns nm qs qm st sz (lf - 1) 3 ((ow + 1) % 256) (.slice (some ⟨g, 0, none⟩) 1 c)) ∧ w.grownBy w' (some B) := by
  have c8 : w.cell? ⟨B, 8, none⟩ = some (.int .i64 lf) := h.cell 8
  have c9 : w.cell? ⟨B, 9, none⟩ = some (.int .i64 wt) := h.cell 9
  have c10 : w.cell? ⟨B, 10, none⟩ = some (.int .i64 ow) := h.cell 10
  have fz : ∀ j, w.frozen? ⟨B, j, none⟩ = false := h.frozen
  have hl := h.lt
  have h1 : Lk (((w.setCell ⟨B, 10, none⟩ (.int .i64 ((ow + 1) % 256))).setCell ⟨B, 8, none⟩ (.int .i64 (lf - 1))).setCell ⟨B, 9, none⟩ (.int .i64 3)) B (lkC fs fm ns nm qs qm st sz (lf - 1) 3 ((ow + 1) % 256) nilS) := ((h.set 10 _).set 8 _).set 9 _
  have hg : w.grownBy (((w.setCell ⟨B, 10, none⟩ (.int .i64 ((ow + 1) % 256))).setCell ⟨B, 8, none⟩ (.int .i64 (lf - 1))).setCell ⟨B, 9, none⟩ (.int .i64 3)) (some B) := grownBy_setCell (grownBy_setCell (grownBy_setCell (grown_of_below B (Below.refl _ _)) 10 _) 8 _) 9 _
  clear h
  go_enter Tryd.func29, Tryd.ntmps29
  go_wp2_with (fail)
  refine (say_nil B fs fm ns nm qs qm st sz (lf - 1) 3 ((ow + 1) % 256) code ((ow + 1) % 256) a n cap _ h1).mono ?_
  rintro e w1 ⟨rfl, g, c, hL, hg1⟩
  go_wp2_with (fail)
  first | go_end0 | refine bodyPost_ret (results_none rfl _ _ _) rfl ?_
  exact ⟨rfl, g, c, hL, grown_trans hg hg1⟩

theorem made_form {w w' : World} {v : Value} {os : List Opt} (h : Made w w' v os) : ∃ a n cap, v = .slice a n cap := by
  rcases h.row.2 with ⟨rfl, h0⟩ | ⟨g, cap, rfl, _⟩
  · exact ⟨_, _, _, rfl⟩
  · exact ⟨_, _, _, rfl⟩
/-- A packet in a slot. -/
abbrev pk (code id : Int) (a : Option Addr) (n cap : Nat) : Value := .agg #[.int .i64 code, .int .i64 id, .slice a n cap]
set_option maxRecDepth 100000 in
theorem act_skip (B : Nat) (l code id : Int) (a : Option Addr) (n cap : Nat) (w : World) (h1 : (l == 105) = false) (h2 : (l == 122) = false) (h3 : (l == 114) = false) (h4 : (l == 116) = false) (h5 : (l == 97) = false) (h6 : (l == 110) = false) (h7 : (l == 107) = false) :
    Calls Tryd.prog 21 #[.pointer (some ⟨B, 0, none⟩), .int .u8 l, .agg #[.int .i64 code, .int .i64 id, .slice a n cap]] w fun e w' => e = .returned (.tuple #[]) ∧ Below w.heap.size w w' := by
  have hb := below_alloc w (.cells #[.int .i64 code, .int .i64 id, .slice a n cap] 44)
  go_enter Tryd.func21, Tryd.ntmps21
  go_wp2_with (fail)
  first | go_end0 | refine bodyPost_ret (results_none rfl _ _ _) rfl ?_
  exact ⟨rfl, hb⟩
set_option maxRecDepth 100000 in
theorem act_i (B : Nat) (fs fm ns nm qs qm st sz lf wt ow code id : Int) (v : Value) (a : Option Addr) (n cap : Nat) (w : World) (h : Lk w B (lkC fs fm ns nm qs qm st sz lf wt ow v)) :
    Calls Tryd.prog 21 #[.pointer (some ⟨B, 0, none⟩), .int .u8 105, .agg #[.int .i64 code, .int .i64 id, .slice a n cap]] w fun e w' => e = .returned (.tuple #[]) ∧ Lk w' B (lkC fs fm ns nm qs qm st sz 4 wt ow v) ∧ w.grownBy w' (some B) := by
  have hl := h.lt
  have c8 : w.cell? ⟨B, 8, none⟩ = some (.int .i64 lf) := h.cell 8
  have fz : ∀ j, w.frozen? ⟨B, j, none⟩ = false := h.frozen
  have H1 : Hid (Lk (w.setCell ⟨B, 8, none⟩ (.int .i64 4)) B (lkC fs fm ns nm qs qm st sz 4 wt ow v)) := h.set 8 _
  clear h
  go_enter Tryd.func21, Tryd.ntmps21
  go_wp2_with (fail)
  first | go_end0 | refine bodyPost_ret (results_none rfl _ _ _) rfl ?_
  exact ⟨rfl, Lk.below H1.out (below_alloc _ _), grown_trans (grownBy_setCell (grown_of_below B (Below.refl _ _)) 8 _) (grown_of_below B (below_alloc _ _))⟩
set_option maxRecDepth 100000 in
set_option maxHeartbeats 4000000 in
theorem act_r (B : Nat) (fs fm ns nm qs qm st sz lf wt ow code id : Int) (a : Option Addr) (n cap : Nat) (w : World) (h : Lk w B (lkC fs fm ns nm qs qm st sz lf wt ow nilS)) (o1 : 0 ≤ ow) (o2 : ow ≤ 255) (l1 : -1000 ≤ lf) (l2 : lf ≤ 1000) :
    Calls Tryd.prog 21 #[.pointer (some ⟨B, 0, none⟩), .int .u8 114, .agg #[.int .i64 code, .int .i64 id, .slice a n cap]] w fun e w' => e = .returned (.tuple #[]) ∧ ∃ g c, Lk w' B (lkC fs fm ns nm ns nm st sz (lf - 1) 3 ((ow + 1) % 256) (.slice (some ⟨g, 0, none⟩) 1 c)) ∧ w.grownBy w' (some B) := by
  have hl := h.lt
  have c2 : w.cell? ⟨B, 2, none⟩ = some (.int .i64 ns) := h.cell 2
  have c3 : w.cell? ⟨B, 3, none⟩ = some (.int .i64 nm) := h.cell 3
  have c4 : w.cell? ⟨B, 4, none⟩ = some (.int .i64 qs) := h.cell 4
  have c5 : w.cell? ⟨B, 5, none⟩ = some (.int .i64 qm) := h.cell 5
  have fz : ∀ j, w.frozen? ⟨B, j, none⟩ = false := h.frozen
  have H1 : Hid (Lk ((w.setCell ⟨B, 4, none⟩ (.int .i64 ns)).setCell ⟨B, 5, none⟩ (.int .i64 nm)) B (lkC fs fm ns nm ns nm st sz lf wt ow nilS)) := (h.set 4 _).set 5 _
  clear h
  go_enter Tryd.func21, Tryd.ntmps21
  go_wp2_with (fail)
  refine (asks_any ns nm _).mono ?_
  rintro e w1 ⟨v, rfl, hM⟩
  obtain ⟨sa, sn, sc, rfl⟩ := made_form hM
  have hk := hM.below
  have h2 := (Lk.below H1.out (below_alloc _ _)).below hk
  have hg2 : w.grownBy w1 (some B) := grown_trans (grownBy_setCell (grownBy_setCell (grown_of_below B (Below.refl _ _)) 4 _) 5 _) (grown_of_below B (below_chain (below_alloc _ _) hk))
  clear H1 c2 c3 c4 c5 fz hl hM hk
  go_wp2_with (fail)
  refine (ask_nil B fs fm ns nm ns nm st sz lf wt ow 1 sa sn sc _ h2 o1 o2 l1 l2).mono ?_
  rintro e w2 ⟨rfl, g, c, hL, hg3⟩
  go_wp2_with (fail)
  first | go_end0 | refine bodyPost_ret (results_none rfl _ _ _) rfl ?_
  exact ⟨rfl, g, c, hL, grown_trans hg2 hg3⟩
theorem TabOk.grown {w w' : World} {B : Nat} (h : TabOk w) (hg : w.grownBy w' (some B)) (hB : B ≠ 0) : TabOk w' := fun e s he hs =>
  (World.cell?_of_block (a := ⟨0, e * 10 + s, none⟩) (hg.block 0 h.lt (by simp; omega))).trans (h e s he hs)

theorem below_drew {w a : World} {B : Nat} (h : Below B w a) : Below B w a.drew := ⟨h.os, h.tape, h.output, h.size, h.block⟩
set_option maxRecDepth 100000 in
set_option maxHeartbeats 4000000 in
theorem come_over (B : Nat) (fs fm ns nm qs qm sz lf wt ow code id : Int) (v : Value) (a : Option Addr) (n cap : Nat) (w : World) (hT : TabOk w) (h : Lk w B (lkC fs fm ns nm qs qm 6 sz lf wt ow v)) :
    Calls Tryd.prog 14 #[.pointer (some ⟨B, 0, none⟩), .int .i64 5, .agg #[.int .i64 code, .int .i64 id, .slice a n cap]] w fun e w' => e = .returned .nilIface ∧ Lk w' B (lkC fs fm fs fm qs qm 3 255 lf wt ow v) ∧ w.grownBy w' (some B) := by
  have hk := below_alloc w (.cells #[.int .i64 code, .int .i64 id, .slice a n cap] 44)
  have hA := fun j => World.cell?_alloc_mark w #[.int .i64 code, .int .i64 id, .slice a n cap] 44 (0, 0) j
  have h0 := h.below hk
  have hT0 := hT.below hk
  have hst := step_as 6 5 [102] 3 0 (by decide +kernel) _ hT0
  have e0 : errV 0 = .nilIface := rfl
  rw [e0] at hst
  have hl := h.lt
  have c6 : w.cell? ⟨B, 6, none⟩ = some (.int .i64 6) := h.cell 6
  go_enter Tryd.func14, Tryd.ntmps14
  go_wp2_with (fail)
  refine hst.mono ?_
  rintro e w1 ⟨rfl, m1, rfl⟩
  obtain ⟨W1, hW1⟩ : ∃ W1, (w.alloc (.cells #[.int .i64 code, .int .i64 id, .slice a n cap] 44)).drewN m1 = W1 := ⟨_, rfl⟩
  obtain ⟨Z, hZ⟩ : ∃ Z, w.heap.size = Z := ⟨_, rfl⟩
  have d0 : W1.cell? ⟨Z, 0, none⟩ = some (.int .i64 code) := by rw [← hW1, ← hZ]; exact hA 0
  have d1 : W1.cell? ⟨Z, 1, none⟩ = some (.int .i64 id) := by rw [← hW1, ← hZ]; exact hA 1
  have d2 : W1.cell? ⟨Z, 2, none⟩ = some (.slice a n cap) := by rw [← hW1, ← hZ]; exact hA 2
  have h1 : Lk W1 B (lkC fs fm ns nm qs qm 6 sz lf wt ow v) := by rw [← hW1]; exact h0
  have hg1 : w.grownBy W1 (some B) := by rw [← hW1]; exact grown_of_below B (below_drewN hk m1)
  rw [hW1, hZ]
  have hBZ : B ≠ Z := by omega
  clear hst hW1 hZ hA h0 hT0 hk h c6 hl e0 hT
  have hlB := h1.lt
  have c0 : W1.cell? ⟨B, 0, none⟩ = some (.int .i64 fs) := h1.cell 0
  have c1 : W1.cell? ⟨B, 1, none⟩ = some (.int .i64 fm) := h1.cell 1
  have c2 : W1.cell? ⟨B, 2, none⟩ = some (.int .i64 ns) := h1.cell 2
  have c3 : W1.cell? ⟨B, 3, none⟩ = some (.int .i64 nm) := h1.cell 3
  have c6 : W1.cell? ⟨B, 6, none⟩ = some (.int .i64 6) := h1.cell 6
  have c7 : W1.cell? ⟨B, 7, none⟩ = some (.int .i64 sz) := h1.cell 7
  have fz : ∀ j, W1.frozen? ⟨B, j, none⟩ = false := h1.frozen
  have H2 : Hid (Lk ((((W1.setCell ⟨B, 6, none⟩ (.int .i64 3)).setCell ⟨B, 2, none⟩ (.int .i64 fs)).setCell ⟨B, 3, none⟩ (.int .i64 fm)).setCell ⟨B, 7, none⟩ (.int .i64 255)) B (lkC fs fm fs fm qs qm 3 255 lf wt ow v)) := ((((h1.set 6 _).set 2 _).set 3 _).set 7 _)
  have G2 : Hid (w.grownBy ((((W1.setCell ⟨B, 6, none⟩ (.int .i64 3)).setCell ⟨B, 2, none⟩ (.int .i64 fs)).setCell ⟨B, 3, none⟩ (.int .i64 fm)).setCell ⟨B, 7, none⟩ (.int .i64 255)) (some B)) := (grownBy_setCell (grownBy_setCell (grownBy_setCell (grownBy_setCell hg1 6 _) 2 _) 3 _) 7 _)
  have D0 : Hid (((((W1.setCell ⟨B, 6, none⟩ (.int .i64 3)).setCell ⟨B, 2, none⟩ (.int .i64 fs)).setCell ⟨B, 3, none⟩ (.int .i64 fm)).setCell ⟨B, 7, none⟩ (.int .i64 255)).cell? ⟨Z, 0, none⟩ = some (.int .i64 code)) := by show _ = _; rw [World.cell?_setCell_far _ _ _ _ hBZ, World.cell?_setCell_far _ _ _ _ hBZ, World.cell?_setCell_far _ _ _ _ hBZ, World.cell?_setCell_far _ _ _ _ hBZ]; exact d0
  have D1 : Hid (((((W1.setCell ⟨B, 6, none⟩ (.int .i64 3)).setCell ⟨B, 2, none⟩ (.int .i64 fs)).setCell ⟨B, 3, none⟩ (.int .i64 fm)).setCell ⟨B, 7, none⟩ (.int .i64 255)).cell? ⟨Z, 1, none⟩ = some (.int .i64 id)) := by show _ = _; rw [World.cell?_setCell_far _ _ _ _ hBZ, World.cell?_setCell_far _ _ _ _ hBZ, World.cell?_setCell_far _ _ _ _ hBZ, World.cell?_setCell_far _ _ _ _ hBZ]; exact d1
  have D2 : Hid (((((W1.setCell ⟨B, 6, none⟩ (.int .i64 3)).setCell ⟨B, 2, none⟩ (.int .i64 fs)).setCell ⟨B, 3, none⟩ (.int .i64 fm)).setCell ⟨B, 7, none⟩ (.int .i64 255)).cell? ⟨Z, 2, none⟩ = some (.slice a n cap)) := by show _ = _; rw [World.cell?_setCell_far _ _ _ _ hBZ, World.cell?_setCell_far _ _ _ _ hBZ, World.cell?_setCell_far _ _ _ _ hBZ, World.cell?_setCell_far _ _ _ _ hBZ]; exact d2
  go_wp2_with (fail)
  obtain ⟨W2, hW2⟩ : ∃ W2, (((W1.setCell ⟨B, 6, none⟩ (.int .i64 3)).setCell ⟨B, 2, none⟩ (.int .i64 fs)).setCell ⟨B, 3, none⟩ (.int .i64 fm)).setCell ⟨B, 7, none⟩ (.int .i64 255) = W2 := ⟨_, rfl⟩
  have h2 : Lk W2 B (lkC fs fm fs fm qs qm 3 255 lf wt ow v) := by rw [← hW2]; exact H2.out
  have hg2 : w.grownBy W2 (some B) := by rw [← hW2]; exact G2.out
  have d0 : W2.cell? ⟨Z, 0, none⟩ = some (.int .i64 code) := by rw [← hW2]; exact D0.out
  have d1 : W2.cell? ⟨Z, 1, none⟩ = some (.int .i64 id) := by rw [← hW2]; exact D1.out
  have d2 : W2.cell? ⟨Z, 2, none⟩ = some (.slice a n cap) := by rw [← hW2]; exact D2.out
  rw [hW2]
  clear H2 G2 D0 D1 D2 hW2 fz hlB c6 h1 hg1 c0 c1 c2 c3 c7
  have hlZ : Z < W2.heap.size := World.block_lt_of_cell? W2 _ d0
  refine wp_loop_rounds 2 ?_
  rw [rounds_succ]
  go_wp2_with (fail)
  go_region_with (go_at_call 21; refine (act_skip B 102 code id a n cap _ (by decide) (by decide) (by decide) (by decide) (by decide) (by decide) (by decide)).mono ?_; rintro e V0 ⟨rfl, k0⟩)
  all_goals
    have L0 := (h2.drew).below k0
    have g0 := grown_trans hg2 (grown_trans (grown_of_below B (below_drew (Below.refl _ _))) (grown_of_below B k0))
    go_wp2_with (fail)
    rw [rounds_succ]
    go_wp2_with (fail)
    go_ret
    exact ⟨rfl, L0, g0⟩

set_option maxRecDepth 100000 in
set_option maxHeartbeats 4000000 in
theorem come_open (B : Nat) (fs fm ns nm qs qm sz lf wt ow code id : Int) (v : Value) (a : Option Addr) (n cap : Nat) (w : World) (hT : TabOk w) (h : Lk w B (lkC fs fm ns nm qs qm 0 sz lf wt ow v)) :
    Calls Tryd.prog 14 #[.pointer (some ⟨B, 0, none⟩), .int .i64 2, .agg #[.int .i64 code, .int .i64 id, .slice a n cap]] w fun e w' => e = .returned .nilIface ∧ Lk w' B (lkC fs fm fs fm qs qm 1 255 lf wt ow v) ∧ w.grownBy w' (some B) := by
  have hk := below_alloc w (.cells #[.int .i64 code, .int .i64 id, .slice a n cap] 44)
  have hA := fun j => World.cell?_alloc_mark w #[.int .i64 code, .int .i64 id, .slice a n cap] 44 (0, 0) j
  have h0 := h.below hk
  have hT0 := hT.below hk
  have hst := step_as 0 2 [115] 1 0 (by decide +kernel) _ hT0
  have e0 : errV 0 = .nilIface := rfl
  rw [e0] at hst
  have hl := h.lt
  have c6 : w.cell? ⟨B, 6, none⟩ = some (.int .i64 0) := h.cell 6
  go_enter Tryd.func14, Tryd.ntmps14
  go_wp2_with (fail)
  refine hst.mono ?_
  rintro e w1 ⟨rfl, m1, rfl⟩
  obtain ⟨W1, hW1⟩ : ∃ W1, (w.alloc (.cells #[.int .i64 code, .int .i64 id, .slice a n cap] 44)).drewN m1 = W1 := ⟨_, rfl⟩
  obtain ⟨Z, hZ⟩ : ∃ Z, w.heap.size = Z := ⟨_, rfl⟩
  have d0 : W1.cell? ⟨Z, 0, none⟩ = some (.int .i64 code) := by rw [← hW1, ← hZ]; exact hA 0
  have d1 : W1.cell? ⟨Z, 1, none⟩ = some (.int .i64 id) := by rw [← hW1, ← hZ]; exact hA 1
  have d2 : W1.cell? ⟨Z, 2, none⟩ = some (.slice a n cap) := by rw [← hW1, ← hZ]; exact hA 2
  have h1 : Lk W1 B (lkC fs fm ns nm qs qm 0 sz lf wt ow v) := by rw [← hW1]; exact h0
  have hg1 : w.grownBy W1 (some B) := by rw [← hW1]; exact grown_of_below B (below_drewN hk m1)
  rw [hW1, hZ]
  have hBZ : B ≠ Z := by omega
  clear hst hW1 hZ hA h0 hT0 hk h c6 hl e0 hT
  have hlB := h1.lt
  have c0 : W1.cell? ⟨B, 0, none⟩ = some (.int .i64 fs) := h1.cell 0
  have c1 : W1.cell? ⟨B, 1, none⟩ = some (.int .i64 fm) := h1.cell 1
  have c2 : W1.cell? ⟨B, 2, none⟩ = some (.int .i64 ns) := h1.cell 2
  have c3 : W1.cell? ⟨B, 3, none⟩ = some (.int .i64 nm) := h1.cell 3
  have c6 : W1.cell? ⟨B, 6, none⟩ = some (.int .i64 0) := h1.cell 6
  have c7 : W1.cell? ⟨B, 7, none⟩ = some (.int .i64 sz) := h1.cell 7
  have fz : ∀ j, W1.frozen? ⟨B, j, none⟩ = false := h1.frozen
  have H2 : Hid (Lk ((((W1.setCell ⟨B, 6, none⟩ (.int .i64 1)).setCell ⟨B, 2, none⟩ (.int .i64 fs)).setCell ⟨B, 3, none⟩ (.int .i64 fm)).setCell ⟨B, 7, none⟩ (.int .i64 255)) B (lkC fs fm fs fm qs qm 1 255 lf wt ow v)) := ((((h1.set 6 _).set 2 _).set 3 _).set 7 _)
  have G2 : Hid (w.grownBy ((((W1.setCell ⟨B, 6, none⟩ (.int .i64 1)).setCell ⟨B, 2, none⟩ (.int .i64 fs)).setCell ⟨B, 3, none⟩ (.int .i64 fm)).setCell ⟨B, 7, none⟩ (.int .i64 255)) (some B)) := (grownBy_setCell (grownBy_setCell (grownBy_setCell (grownBy_setCell hg1 6 _) 2 _) 3 _) 7 _)
  have D0 : Hid (((((W1.setCell ⟨B, 6, none⟩ (.int .i64 1)).setCell ⟨B, 2, none⟩ (.int .i64 fs)).setCell ⟨B, 3, none⟩ (.int .i64 fm)).setCell ⟨B, 7, none⟩ (.int .i64 255)).cell? ⟨Z, 0, none⟩ = some (.int .i64 code)) := by show _ = _; rw [World.cell?_setCell_far _ _ _ _ hBZ, World.cell?_setCell_far _ _ _ _ hBZ, World.cell?_setCell_far _ _ _ _ hBZ, World.cell?_setCell_far _ _ _ _ hBZ]; exact d0
  have D1 : Hid (((((W1.setCell ⟨B, 6, none⟩ (.int .i64 1)).setCell ⟨B, 2, none⟩ (.int .i64 fs)).setCell ⟨B, 3, none⟩ (.int .i64 fm)).setCell ⟨B, 7, none⟩ (.int .i64 255)).cell? ⟨Z, 1, none⟩ = some (.int .i64 id)) := by show _ = _; rw [World.cell?_setCell_far _ _ _ _ hBZ, World.cell?_setCell_far _ _ _ _ hBZ, World.cell?_setCell_far _ _ _ _ hBZ, World.cell?_setCell_far _ _ _ _ hBZ]; exact d1
  have D2 : Hid (((((W1.setCell ⟨B, 6, none⟩ (.int .i64 1)).setCell ⟨B, 2, none⟩ (.int .i64 fs)).setCell ⟨B, 3, none⟩ (.int .i64 fm)).setCell ⟨B, 7, none⟩ (.int .i64 255)).cell? ⟨Z, 2, none⟩ = some (.slice a n cap)) := by show _ = _; rw [World.cell?_setCell_far _ _ _ _ hBZ, World.cell?_setCell_far _ _ _ _ hBZ, World.cell?_setCell_far _ _ _ _ hBZ, World.cell?_setCell_far _ _ _ _ hBZ]; exact d2
  go_wp2_with (fail)
  obtain ⟨W2, hW2⟩ : ∃ W2, (((W1.setCell ⟨B, 6, none⟩ (.int .i64 1)).setCell ⟨B, 2, none⟩ (.int .i64 fs)).setCell ⟨B, 3, none⟩ (.int .i64 fm)).setCell ⟨B, 7, none⟩ (.int .i64 255) = W2 := ⟨_, rfl⟩
  have h2 : Lk W2 B (lkC fs fm fs fm qs qm 1 255 lf wt ow v) := by rw [← hW2]; exact H2.out
  have hg2 : w.grownBy W2 (some B) := by rw [← hW2]; exact G2.out
  have d0 : W2.cell? ⟨Z, 0, none⟩ = some (.int .i64 code) := by rw [← hW2]; exact D0.out
  have d1 : W2.cell? ⟨Z, 1, none⟩ = some (.int .i64 id) := by rw [← hW2]; exact D1.out
  have d2 : W2.cell? ⟨Z, 2, none⟩ = some (.slice a n cap) := by rw [← hW2]; exact D2.out
  rw [hW2]
  clear H2 G2 D0 D1 D2 hW2 fz hlB c6 h1 hg1 c0 c1 c2 c3 c7
  have hlZ : Z < W2.heap.size := World.block_lt_of_cell? W2 _ d0
  refine wp_loop_rounds 2 ?_
  rw [rounds_succ]
  go_wp2_with (fail)
  go_region_with (go_at_call 21; refine (act_skip B 115 code id a n cap _ (by decide) (by decide) (by decide) (by decide) (by decide) (by decide) (by decide)).mono ?_; rintro e V0 ⟨rfl, k0⟩)
  all_goals
    have L0 := (h2.drew).below k0
    have g0 := grown_trans hg2 (grown_trans (grown_of_below B (below_drew (Below.refl _ _))) (grown_of_below B k0))
    go_wp2_with (fail)
    rw [rounds_succ]
    go_wp2_with (fail)
    go_ret
    exact ⟨rfl, L0, g0⟩

set_option maxRecDepth 100000 in
set_option maxHeartbeats 4000000 in
theorem come_again (B : Nat) (fs fm ns nm qs qm sz lf wt ow code id : Int) (a : Option Addr) (n cap : Nat) (w : World) (hT : TabOk w) (h : Lk w B (lkC fs fm ns nm qs qm 6 sz lf wt ow nilS)) (o1 : 0 ≤ ow) (o2 : ow ≤ 255) (l1 : -1000 ≤ lf) (l2 : lf ≤ 1000) :
    Calls Tryd.prog 14 #[.pointer (some ⟨B, 0, none⟩), .int .i64 4, .agg #[.int .i64 code, .int .i64 id, .slice a n cap]] w fun e w' => e = .returned .nilIface ∧ ∃ g c, Lk w' B (lkC fs fm ns nm ns nm 6 sz (lf - 1) 3 ((ow + 1) % 256) (.slice (some ⟨g, 0, none⟩) 1 c)) ∧ w.grownBy w' (some B) := by
  have hk := below_alloc w (.cells #[.int .i64 code, .int .i64 id, .slice a n cap] 44)
  have hA := fun j => World.cell?_alloc_mark w #[.int .i64 code, .int .i64 id, .slice a n cap] 44 (0, 0) j
  have h0 := h.below hk
  have hT0 := hT.below hk
  have hst := step_as 6 4 [114] 6 0 (by decide +kernel) _ hT0
  have e0 : errV 0 = .nilIface := rfl
  rw [e0] at hst
  have hl := h.lt
  have c6 : w.cell? ⟨B, 6, none⟩ = some (.int .i64 6) := h.cell 6
  go_enter Tryd.func14, Tryd.ntmps14
  go_wp2_with (fail)
  refine hst.mono ?_
  rintro e w1 ⟨rfl, m1, rfl⟩
  obtain ⟨W1, hW1⟩ : ∃ W1, (w.alloc (.cells #[.int .i64 code, .int .i64 id, .slice a n cap] 44)).drewN m1 = W1 := ⟨_, rfl⟩
  obtain ⟨Z, hZ⟩ : ∃ Z, w.heap.size = Z := ⟨_, rfl⟩
  have d0 : W1.cell? ⟨Z, 0, none⟩ = some (.int .i64 code) := by rw [← hW1, ← hZ]; exact hA 0
  have d1 : W1.cell? ⟨Z, 1, none⟩ = some (.int .i64 id) := by rw [← hW1, ← hZ]; exact hA 1
  have d2 : W1.cell? ⟨Z, 2, none⟩ = some (.slice a n cap) := by rw [← hW1, ← hZ]; exact hA 2
  have h1 : Lk W1 B (lkC fs fm ns nm qs qm 6 sz lf wt ow nilS) := by rw [← hW1]; exact h0
  have hg1 : w.grownBy W1 (some B) := by rw [← hW1]; exact grown_of_below B (below_drewN hk m1)
  rw [hW1, hZ]
  have hBZ : B ≠ Z := by omega
  clear hst hW1 hZ hA h0 hT0 hk h c6 hl e0 hT
  have hlB := h1.lt
  have c6 : W1.cell? ⟨B, 6, none⟩ = some (.int .i64 6) := h1.cell 6
  have fz : ∀ j, W1.frozen? ⟨B, j, none⟩ = false := h1.frozen
  have H2 : Hid (Lk ((W1.setCell ⟨B, 6, none⟩ (.int .i64 6))) B (lkC fs fm ns nm qs qm 6 sz lf wt ow nilS)) := (h1.set 6 _)
  have G2 : Hid (w.grownBy ((W1.setCell ⟨B, 6, none⟩ (.int .i64 6))) (some B)) := (grownBy_setCell hg1 6 _)
  have D0 : Hid (((W1.setCell ⟨B, 6, none⟩ (.int .i64 6))).cell? ⟨Z, 0, none⟩ = some (.int .i64 code)) := by show _ = _; rw [World.cell?_setCell_far _ _ _ _ hBZ]; exact d0
  have D1 : Hid (((W1.setCell ⟨B, 6, none⟩ (.int .i64 6))).cell? ⟨Z, 1, none⟩ = some (.int .i64 id)) := by show _ = _; rw [World.cell?_setCell_far _ _ _ _ hBZ]; exact d1
  have D2 : Hid (((W1.setCell ⟨B, 6, none⟩ (.int .i64 6))).cell? ⟨Z, 2, none⟩ = some (.slice a n cap)) := by show _ = _; rw [World.cell?_setCell_far _ _ _ _ hBZ]; exact d2
  go_wp2_with (fail)
  obtain ⟨W2, hW2⟩ : ∃ W2, (W1.setCell ⟨B, 6, none⟩ (.int .i64 6)) = W2 := ⟨_, rfl⟩
  have h2 : Lk W2 B (lkC fs fm ns nm qs qm 6 sz lf wt ow nilS) := by rw [← hW2]; exact H2.out
  have hg2 : w.grownBy W2 (some B) := by rw [← hW2]; exact G2.out
  have d0 : W2.cell? ⟨Z, 0, none⟩ = some (.int .i64 code) := by rw [← hW2]; exact D0.out
  have d1 : W2.cell? ⟨Z, 1, none⟩ = some (.int .i64 id) := by rw [← hW2]; exact D1.out
  have d2 : W2.cell? ⟨Z, 2, none⟩ = some (.slice a n cap) := by rw [← hW2]; exact D2.out
  rw [hW2]
  clear H2 G2 D0 D1 D2 hW2 fz hlB c6 h1 hg1
  have hlZ : Z < W2.heap.size := World.block_lt_of_cell? W2 _ d0
  refine wp_loop_rounds 2 ?_
  rw [rounds_succ]
  go_wp2_with (fail)
  go_region_with (go_at_call 21; refine (act_r B fs fm ns nm qs qm 6 sz lf wt ow code id a n cap _ (h2.drew) o1 o2 l1 l2).mono ?_; rintro e V0 ⟨rfl, g, c, L0, q0⟩)
  all_goals
    have g0 := grown_trans hg2 (grown_trans (grown_of_below B (below_drew (Below.refl _ _))) q0)
    go_wp2_with (fail)
    rw [rounds_succ]
    go_wp2_with (fail)
    go_ret
    exact ⟨rfl, g, c, L0, g0⟩

set_option maxRecDepth 100000 in
set_option maxHeartbeats 4000000 in
theorem come_up (B : Nat) (fs fm ns nm qs qm sz lf wt ow code id : Int) (a : Option Addr) (n cap : Nat) (w : World) (hT : TabOk w) (h : Lk w B (lkC fs fm ns nm qs qm 1 sz lf wt ow nilS)) (o1 : 0 ≤ ow) (o2 : ow ≤ 255) :
    Calls Tryd.prog 14 #[.pointer (some ⟨B, 0, none⟩), .int .i64 0, .agg #[.int .i64 code, .int .i64 id, .slice a n cap]] w fun e w' => e = .returned .nilIface ∧ ∃ g c, Lk w' B (lkC fs fm ns nm ns nm 6 sz (4 - 1) 3 ((ow + 1) % 256) (.slice (some ⟨g, 0, none⟩) 1 c)) ∧ w.grownBy w' (some B) := by
  have hk := below_alloc w (.cells #[.int .i64 code, .int .i64 id, .slice a n cap] 44)
  have hA := fun j => World.cell?_alloc_mark w #[.int .i64 code, .int .i64 id, .slice a n cap] 44 (0, 0) j
  have h0 := h.below hk
  have hT0 := hT.below hk
  have hst := step_as 1 0 [105, 114] 6 0 (by decide +kernel) _ hT0
  have e0 : errV 0 = .nilIface := rfl
  rw [e0] at hst
  have hl := h.lt
  have c6 : w.cell? ⟨B, 6, none⟩ = some (.int .i64 1) := h.cell 6
  go_enter Tryd.func14, Tryd.ntmps14
  go_wp2_with (fail)
  refine hst.mono ?_
  rintro e w1 ⟨rfl, m1, rfl⟩
  obtain ⟨W1, hW1⟩ : ∃ W1, (w.alloc (.cells #[.int .i64 code, .int .i64 id, .slice a n cap] 44)).drewN m1 = W1 := ⟨_, rfl⟩
  obtain ⟨Z, hZ⟩ : ∃ Z, w.heap.size = Z := ⟨_, rfl⟩
  have d0 : W1.cell? ⟨Z, 0, none⟩ = some (.int .i64 code) := by rw [← hW1, ← hZ]; exact hA 0
  have d1 : W1.cell? ⟨Z, 1, none⟩ = some (.int .i64 id) := by rw [← hW1, ← hZ]; exact hA 1
  have d2 : W1.cell? ⟨Z, 2, none⟩ = some (.slice a n cap) := by rw [← hW1, ← hZ]; exact hA 2
  have h1 : Lk W1 B (lkC fs fm ns nm qs qm 1 sz lf wt ow nilS) := by rw [← hW1]; exact h0
  have hg1 : w.grownBy W1 (some B) := by rw [← hW1]; exact grown_of_below B (below_drewN hk m1)
  rw [hW1, hZ]
  have hBZ : B ≠ Z := by omega
  clear hst hW1 hZ hA h0 hT0 hk h c6 hl e0 hT
  have hlB := h1.lt
  have c6 : W1.cell? ⟨B, 6, none⟩ = some (.int .i64 1) := h1.cell 6
  have fz : ∀ j, W1.frozen? ⟨B, j, none⟩ = false := h1.frozen
  have H2 : Hid (Lk ((W1.setCell ⟨B, 6, none⟩ (.int .i64 6))) B (lkC fs fm ns nm qs qm 6 sz lf wt ow nilS)) := (h1.set 6 _)
  have G2 : Hid (w.grownBy ((W1.setCell ⟨B, 6, none⟩ (.int .i64 6))) (some B)) := (grownBy_setCell hg1 6 _)
  have D0 : Hid (((W1.setCell ⟨B, 6, none⟩ (.int .i64 6))).cell? ⟨Z, 0, none⟩ = some (.int .i64 code)) := by show _ = _; rw [World.cell?_setCell_far _ _ _ _ hBZ]; exact d0
  have D1 : Hid (((W1.setCell ⟨B, 6, none⟩ (.int .i64 6))).cell? ⟨Z, 1, none⟩ = some (.int .i64 id)) := by show _ = _; rw [World.cell?_setCell_far _ _ _ _ hBZ]; exact d1
  have D2 : Hid (((W1.setCell ⟨B, 6, none⟩ (.int .i64 6))).cell? ⟨Z, 2, none⟩ = some (.slice a n cap)) := by show _ = _; rw [World.cell?_setCell_far _ _ _ _ hBZ]; exact d2
  go_wp2_with (fail)
  obtain ⟨W2, hW2⟩ : ∃ W2, (W1.setCell ⟨B, 6, none⟩ (.int .i64 6)) = W2 := ⟨_, rfl⟩
  have h2 : Lk W2 B (lkC fs fm ns nm qs qm 6 sz lf wt ow nilS) := by rw [← hW2]; exact H2.out
  have hg2 : w.grownBy W2 (some B) := by rw [← hW2]; exact G2.out
  have d0 : W2.cell? ⟨Z, 0, none⟩ = some (.int .i64 code) := by rw [← hW2]; exact D0.out
  have d1 : W2.cell? ⟨Z, 1, none⟩ = some (.int .i64 id) := by rw [← hW2]; exact D1.out
  have d2 : W2.cell? ⟨Z, 2, none⟩ = some (.slice a n cap) := by rw [← hW2]; exact D2.out
  rw [hW2]
  clear H2 G2 D0 D1 D2 hW2 fz hlB c6 h1 hg1
  have hlZ : Z < W2.heap.size := World.block_lt_of_cell? W2 _ d0
  refine wp_loop_rounds 3 ?_
  rw [rounds_succ]
  go_wp2_with (fail)
  go_region_with (go_at_call 21; refine (act_i B fs fm ns nm qs qm 6 sz lf wt ow code id _ a n cap _ (h2.drew)).mono ?_; rintro e V0 ⟨rfl, L0, q0⟩)
  all_goals
    have g0 := grown_trans hg2 (grown_trans (grown_of_below B (below_drew (Below.refl _ _))) q0)
    have d0 : V0.cell? ⟨Z, 0, none⟩ = some (.int .i64 code) := grown_cell q0 (by simp; exact hBZ) d0
    have d1 : V0.cell? ⟨Z, 1, none⟩ = some (.int .i64 id) := grown_cell q0 (by simp; exact hBZ) d1
    have d2 : V0.cell? ⟨Z, 2, none⟩ = some (.slice a n cap) := grown_cell q0 (by simp; exact hBZ) d2
    have hlZ : Z < V0.heap.size := World.block_lt_of_cell? V0 _ d0
    go_wp2_with (fail)
    rw [rounds_succ]
    go_wp2_with (fail)
    go_region_with (go_at_call 21; refine (act_r B fs fm ns nm qs qm 6 sz 4 wt ow code id a n cap _ (L0.drew) o1 o2 (by decide) (by decide)).mono ?_; rintro e V1 ⟨rfl, g, c, L1, q1⟩)
    all_goals
      have g1 := grown_trans g0 (grown_trans (grown_of_below B (below_drew (Below.refl _ _))) q1)
      go_wp2_with (fail)
      rw [rounds_succ]
      go_wp2_with (fail)
      go_ret
      exact ⟨rfl, g, c, L1, g1⟩


end Go.Proofs.YtakckdeadchflabDoor
