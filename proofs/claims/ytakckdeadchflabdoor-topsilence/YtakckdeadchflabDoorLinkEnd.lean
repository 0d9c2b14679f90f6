/-
  One end of a link, as far as nobody answers: New, Do, Out, Tick, State; an end that begins.
-/
import Derived.Test.YtakckdeadchflabDoorLinkComes
namespace Go.Proofs.YtakckdeadchflabDoor
open Go.RowKit

theorem zeroLink (w : World) : (zeroValue 40).run Tryd.prog w = .ok (.agg #[.int .i64 0, .int .i64 0, .int .i64 0, .int .i64 0, .int .i64 0, .int .i64 0, .int .i64 0, .int .i64 0, .int .i64 0, .int .i64 0, .int .i64 0, .slice none 0 0]) w := by kernel_rfl
theorem zeroPack (w : World) : (zeroValue 44).run Tryd.prog w = .ok (.agg #[.int .i64 0, .int .i64 0, .slice none 0 0]) w := by kernel_rfl
theorem heap_alloc_new' (w : World) (o : Obj) : (w.alloc o).heap[w.heap.size]? = some o := heap_alloc_new w o

set_option maxRecDepth 100000 in
set_option maxHeartbeats 2000000 in
theorem lnew_in (S M : Int) (w : World) (h1 : ¬ S < 40) (h2 : ¬ 255 < S) (h3 : ¬ M < 1) (h4 : ¬ 255 < M) :
    Calls Tryd.prog 12 #[.int .i64 S, .int .i64 M] w fun e w' => ∃ B, e = .returned (.tuple #[.pointer (some ⟨B, 0, none⟩), .nilIface]) ∧ Lk w' B (lkC S M S M 0 0 0 255 0 0 0 nilS) ∧ w.heap.size ≤ B ∧ Below w.heap.size w w' := by
  have hz := zeroPol
  have hzl := zeroLink
  have hN := new_in S M w h1 h2 h3 h4
  clear h1 h2 h3 h4
  go_enter Tryd.func12, Tryd.ntmps12
  go_wp2_with (fail)
  refine hN.mono ?_
  rintro e w1 ⟨rfl, hb⟩
  have hs := hb.size
  have hb2 := (hb.alloc hb.size (.cells #[.int .i64 S, .int .i64 M] 38))
  have hb3 := below_chain hb2 (below_alloc _ (.cells (lkC S M S M 0 0 0 255 0 0 0 nilS) 40))
  have hn := heap_alloc_new' (w1.alloc (.cells #[.int .i64 S, .int .i64 M] 38)) (.cells (lkC S M S M 0 0 0 255 0 0 0 nilS) 40)
  have e1 : (w1.alloc (.cells #[.int .i64 S, .int .i64 M] 38)).heap.size = w1.heap.size + 1 := by simp
  rw [e1] at hn
  have HN : Hid _ := hn
  have HB : Hid _ := hb3
  clear hn hb3 hN
  go_wp2_with (fail)
  go_ret2
  exact ⟨w1.heap.size + 1, rfl, HN.out, by omega, HB.out⟩
set_option maxRecDepth 100000 in
set_option maxHeartbeats 2000000 in
theorem lnew_out (S M : Int) (w : World) (h : S < 40 ∨ 255 < S ∨ M < 1 ∨ 255 < M) :
    Calls Tryd.prog 12 #[.int .i64 S, .int .i64 M] w fun e w' => e = .returned (.tuple #[.pointer none, .iface 46 (.int .i64 1)]) ∧ Below w.heap.size w w' := by
  have hz := zeroPol
  have hN := new_out S M w h
  clear h
  go_enter Tryd.func12, Tryd.ntmps12
  go_wp2_with (fail)
  refine hN.mono ?_
  rintro e w1 ⟨rfl, hb⟩
  have hb2 := (hb.alloc hb.size (.cells #[.int .i64 0, .int .i64 0] 38))
  clear hN
  go_wp2_with (fail)
  go_ret2
  exact ⟨rfl, hb2⟩

set_option maxRecDepth 100000 in
theorem do_open (B : Nat) (fs fm ns nm qs qm sz lf wt ow : Int) (v : Value) (w : World) (hT : TabOk w) (h : Lk w B (lkC fs fm ns nm qs qm 0 sz lf wt ow v)) :
    Calls Tryd.prog 9 #[.pointer (some ⟨B, 0, none⟩), .int .i64 2] w fun e w' => e = .returned .nilIface ∧ Lk w' B (lkC fs fm fs fm qs qm 1 255 lf wt ow v) ∧ w.grownBy w' (some B) := by
  have hz := zeroPack
  have hc := come_open B fs fm ns nm qs qm sz lf wt ow 0 0 v none 0 0 w hT h
  clear h hT
  go_enter Tryd.func9, Tryd.ntmps9
  go_wp2_with (fail)
  refine hc.mono ?_
  rintro e w1 ⟨rfl, hL, hg⟩
  go_wp2_with (fail)
  go_ret
  exact ⟨rfl, hL, hg⟩
set_option maxRecDepth 100000 in
theorem do_up (B : Nat) (fs fm ns nm qs qm sz lf wt ow : Int) (w : World) (hT : TabOk w) (h : Lk w B (lkC fs fm ns nm qs qm 1 sz lf wt ow nilS)) (o1 : 0 ≤ ow) (o2 : ow ≤ 255) :
    Calls Tryd.prog 9 #[.pointer (some ⟨B, 0, none⟩), .int .i64 0] w fun e w' => e = .returned .nilIface ∧ ∃ g c, Lk w' B (lkC fs fm ns nm ns nm 6 sz (4 - 1) 3 ((ow + 1) % 256) (.slice (some ⟨g, 0, none⟩) 1 c)) ∧ w.grownBy w' (some B) := by
  have hz := zeroPack
  have hc := come_up B fs fm ns nm qs qm sz lf wt ow 0 0 none 0 0 w hT h o1 o2
  clear h hT
  go_enter Tryd.func9, Tryd.ntmps9
  go_wp2_with (fail)
  refine hc.mono ?_
  rintro e w1 ⟨rfl, g, c, hL, hg⟩
  go_wp2_with (fail)
  go_ret
  exact ⟨rfl, g, c, hL, hg⟩
set_option maxRecDepth 100000 in
theorem out_any (B : Nat) (fs fm ns nm qs qm st sz lf wt ow : Int) (v : Value) (w : World) (h : Lk w B (lkC fs fm ns nm qs qm st sz lf wt ow v)) :
    Calls Tryd.prog 11 #[.pointer (some ⟨B, 0, none⟩)] w fun e w' => e = .returned v ∧ Lk w' B (lkC fs fm ns nm qs qm st sz lf wt ow nilS) ∧ w.grownBy w' (some B) := by
  have hl := h.lt
  have c11 : w.cell? ⟨B, 11, none⟩ = some v := h.cell 11
  have fz : ∀ j, w.frozen? ⟨B, j, none⟩ = false := h.frozen
  have H2 : Hid (Lk (w.setCell ⟨B, 11, none⟩ nilS) B (lkC fs fm ns nm qs qm st sz lf wt ow nilS)) := h.set 11 _
  clear h
  go_enter Tryd.func11, Tryd.ntmps11
  go_wp2_with (fail)
  go_ret
  exact ⟨rfl, H2.out, grownBy_setCell (grown_of_below B (Below.refl _ _)) 11 _⟩
set_option maxRecDepth 100000 in
theorem lstate_any (B : Nat) (fs fm ns nm qs qm st sz lf wt ow : Int) (v : Value) (w : World) (h : Lk w B (lkC fs fm ns nm qs qm st sz lf wt ow v)) :
    Calls Tryd.prog 6 #[.pointer (some ⟨B, 0, none⟩)] w fun e w' => e = .returned (.int .i64 st) ∧ w = w' := by
  have hl := h.lt
  have c6 : w.cell? ⟨B, 6, none⟩ = some (.int .i64 st) := h.cell 6
  clear h
  go_enter Tryd.func6, Tryd.ntmps6
  go_wp2_with (fail)
  go_ret
  exact ⟨rfl, rfl⟩

set_option maxRecDepth 100000 in
theorem tick_rest (B : Nat) (fs fm ns nm qs qm sz lf wt ow : Int) (v : Value) (w : World) (h : Lk w B (lkC fs fm ns nm qs qm 3 sz lf wt ow v)) :
    Calls Tryd.prog 10 #[.pointer (some ⟨B, 0, none⟩)] w fun e w' => e = .returned (.tuple #[]) ∧ Lk w' B (lkC fs fm ns nm qs qm 3 sz lf wt ow v) ∧ w.grownBy w' (some B) := by
  have hl := h.lt
  have c6 : w.cell? ⟨B, 6, none⟩ = some (.int .i64 3) := h.cell 6
  have H : Hid (Lk w B (lkC fs fm ns nm qs qm 3 sz lf wt ow v)) := h
  clear h
  go_enter Tryd.func10, Tryd.ntmps10
  go_wp2_with (fail)
  refine (timed_any 3 _).mono ?_
  rintro e w1 ⟨rfl, rfl⟩
  go_wp2_with (fail)
  first | go_end0 | refine bodyPost_ret (results_none rfl _ _ _) rfl ?_
  exact ⟨rfl, H.out, grown_of_below B (Below.refl _ _)⟩
set_option maxRecDepth 100000 in
theorem tick_wait (B : Nat) (fs fm ns nm qs qm sz lf wt ow : Int) (v : Value) (w : World) (h : Lk w B (lkC fs fm ns nm qs qm 6 sz lf wt ow v)) (w1 : 1 < wt) (w2 : wt ≤ 1000) :
    Calls Tryd.prog 10 #[.pointer (some ⟨B, 0, none⟩)] w fun e w' => e = .returned (.tuple #[]) ∧ Lk w' B (lkC fs fm ns nm qs qm 6 sz lf (wt - 1) ow v) ∧ w.grownBy w' (some B) := by
  have hl := h.lt
  have c6 : w.cell? ⟨B, 6, none⟩ = some (.int .i64 6) := h.cell 6
  have c9 : w.cell? ⟨B, 9, none⟩ = some (.int .i64 wt) := h.cell 9
  have fz : ∀ j, w.frozen? ⟨B, j, none⟩ = false := h.frozen
  have H2 : Hid (Lk (w.setCell ⟨B, 9, none⟩ (.int .i64 (wt - 1))) B (lkC fs fm ns nm qs qm 6 sz lf (wt - 1) ow v)) := h.set 9 _
  have hp : 0 < wt - 1 := by omega
  clear h
  go_enter Tryd.func10, Tryd.ntmps10
  go_wp2_with (fail)
  refine (timed_any 6 _).mono ?_
  rintro e w1 ⟨rfl, rfl⟩
  go_wp2_with (fail)
  first | go_end0 | refine bodyPost_ret (results_none rfl _ _ _) rfl ?_
  exact ⟨rfl, H2.out, grownBy_setCell (grown_of_below B (Below.refl _ _)) 9 _⟩
set_option maxRecDepth 100000 in
theorem tick_again (B : Nat) (fs fm ns nm qs qm sz lf ow : Int) (w : World) (hT : TabOk w) (hB : B ≠ 0) (h : Lk w B (lkC fs fm ns nm qs qm 6 sz lf 1 ow nilS)) (l1 : 0 < lf) (l2 : lf ≤ 1000) (o1 : 0 ≤ ow) (o2 : ow ≤ 255) :
    Calls Tryd.prog 10 #[.pointer (some ⟨B, 0, none⟩)] w fun e w' => e = .returned (.tuple #[]) ∧ ∃ g c, Lk w' B (lkC fs fm ns nm ns nm 6 sz (lf - 1) 3 ((ow + 1) % 256) (.slice (some ⟨g, 0, none⟩) 1 c)) ∧ w.grownBy w' (some B) := by
  have hz := zeroPack
  have hl := h.lt
  have c6 : w.cell? ⟨B, 6, none⟩ = some (.int .i64 6) := h.cell 6
  have c8 : w.cell? ⟨B, 8, none⟩ = some (.int .i64 lf) := h.cell 8
  have c9 : w.cell? ⟨B, 9, none⟩ = some (.int .i64 1) := h.cell 9
  have fz : ∀ j, w.frozen? ⟨B, j, none⟩ = false := h.frozen
  have h2 : Lk (w.setCell ⟨B, 9, none⟩ (.int .i64 0)) B (lkC fs fm ns nm qs qm 6 sz lf 0 ow nilS) := h.set 9 _
  have hg2 : w.grownBy (w.setCell ⟨B, 9, none⟩ (.int .i64 0)) (some B) := grownBy_setCell (grown_of_below B (Below.refl _ _)) 9 _
  have hc := come_again B fs fm ns nm qs qm sz lf 0 ow 0 0 none 0 0 _ (hT.grown hg2 hB) h2 o1 o2 (by omega) l2
  clear h h2 hT
  go_enter Tryd.func10, Tryd.ntmps10
  go_wp2_with (fail)
  refine (timed_any 6 _).mono ?_
  rintro e w1 ⟨rfl, rfl⟩
  go_wp2_with (fail)
  refine hc.mono ?_
  rintro e w2 ⟨rfl, g, c, hL, hg⟩
  go_wp2_with (fail)
  first | go_end0 | refine bodyPost_ret (results_none rfl _ _ _) rfl ?_
  exact ⟨rfl, g, c, hL, grown_trans hg2 hg⟩
set_option maxRecDepth 100000 in
theorem tick_over (B : Nat) (fs fm ns nm qs qm sz ow : Int) (v : Value) (w : World) (hT : TabOk w) (hB : B ≠ 0) (h : Lk w B (lkC fs fm ns nm qs qm 6 sz 0 1 ow v)) :
    Calls Tryd.prog 10 #[.pointer (some ⟨B, 0, none⟩)] w fun e w' => e = .returned (.tuple #[]) ∧ Lk w' B (lkC fs fm fs fm qs qm 3 255 0 0 ow v) ∧ w.grownBy w' (some B) := by
  have hz := zeroPack
  have hl := h.lt
  have c6 : w.cell? ⟨B, 6, none⟩ = some (.int .i64 6) := h.cell 6
  have c8 : w.cell? ⟨B, 8, none⟩ = some (.int .i64 0) := h.cell 8
  have c9 : w.cell? ⟨B, 9, none⟩ = some (.int .i64 1) := h.cell 9
  have fz : ∀ j, w.frozen? ⟨B, j, none⟩ = false := h.frozen
  have h2 : Lk (w.setCell ⟨B, 9, none⟩ (.int .i64 0)) B (lkC fs fm ns nm qs qm 6 sz 0 0 ow v) := h.set 9 _
  have hg2 : w.grownBy (w.setCell ⟨B, 9, none⟩ (.int .i64 0)) (some B) := grownBy_setCell (grown_of_below B (Below.refl _ _)) 9 _
  have hc := come_over B fs fm ns nm qs qm sz 0 0 ow 0 0 v none 0 0 _ (hT.grown hg2 hB) h2
  clear h h2 hT
  go_enter Tryd.func10, Tryd.ntmps10
  go_wp2_with (fail)
  refine (timed_any 6 _).mono ?_
  rintro e w1 ⟨rfl, rfl⟩
  go_wp2_with (fail)
  refine hc.mono ?_
  rintro e w2 ⟨rfl, hL, hg⟩
  go_wp2_with (fail)
  first | go_end0 | refine bodyPost_ret (results_none rfl _ _ _) rfl ?_
  exact ⟨rfl, hL, grown_trans hg2 hg⟩

set_option maxRecDepth 100000 in
set_option maxHeartbeats 2000000 in
theorem end_in (S M : Int) (w : World) (hT : TabOk w) (h1 : ¬ S < 40) (h2 : ¬ 255 < S) (h3 : ¬ M < 1) (h4 : ¬ 255 < M) :
    Calls Tryd.prog 5 #[.int .i64 S, .int .i64 M] w fun e w' => ∃ B g c, e = .returned (.tuple #[.pointer (some ⟨B, 0, none⟩), .bool true]) ∧ Lk w' B (lkC S M S M S M 6 255 3 3 1 (.slice (some ⟨g, 0, none⟩) 1 c)) ∧ w.heap.size ≤ B ∧ Below w.heap.size w w' := by
  have hN := lnew_in S M w h1 h2 h3 h4
  have h0 := hT.lt
  clear h1 h2 h3 h4
  go_enter Tryd.func5, Tryd.ntmps5
  go_wp2_with (fail)
  refine hN.mono ?_
  rintro e w1 ⟨B, rfl, hL, hB, hb⟩
  have hT1 := hT.below hb
  go_wp2_with (fail)
  refine (do_open B S M S M 0 0 255 0 0 0 nilS w1 hT1 hL).mono ?_
  rintro e w2 ⟨rfl, hL2, hg2⟩
  have hT2 := hT1.grown hg2 (by omega)
  have hb2 := below_grown hb hg2 hB
  go_wp2_with (fail)
  refine (do_up B S M S M 0 0 255 0 0 0 w2 hT2 hL2 (by decide) (by decide)).mono ?_
  rintro e w3 ⟨rfl, g, c, hL3, hg3⟩
  have hb3 := below_grown hb2 hg3 hB
  have hL4 : Lk w3 B (lkC S M S M S M 6 255 3 3 1 (.slice (some ⟨g, 0, none⟩) 1 c)) := hL3
  clear hL hL2 hL3 hg2 hg3 hT1 hT2 hN
  go_wp2_with (fail)
  go_ret2
  exact ⟨B, g, c, rfl, hL4, hB, hb3⟩
set_option maxRecDepth 100000 in
set_option maxHeartbeats 2000000 in
theorem end_out (S M : Int) (w : World) (h : S < 40 ∨ 255 < S ∨ M < 1 ∨ 255 < M) :
    Calls Tryd.prog 5 #[.int .i64 S, .int .i64 M] w fun e w' => e = .returned (.tuple #[.pointer none, .bool false]) ∧ Below w.heap.size w w' := by
  have hN := lnew_out S M w h
  clear h
  go_enter Tryd.func5, Tryd.ntmps5
  go_wp2_with (fail)
  refine hN.mono ?_
  rintro e w1 ⟨rfl, hb⟩
  go_wp2_with (fail)
  go_ret2
  exact ⟨rfl, hb⟩
end Go.Proofs.YtakckdeadchflabDoor
