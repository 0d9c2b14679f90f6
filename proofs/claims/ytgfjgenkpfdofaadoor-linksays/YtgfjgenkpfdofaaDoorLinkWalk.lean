/-
  One end of a link, as far as nobody answers: the program's say, ask, act, come, Do, Tick, Out, New.
-/
import Derived.Test.YtgfjgenkpfdofaaDoorAutoWalk
import Derived.Test.YtgfjgenkpfdofaaDoorPolicyWalk
namespace Go.Proofs.YtgfjgenkpfdofaaDoor
open Go.RowKit

theorem infoPack : (Tryd.prog.info? 36).map (fun i => (i.zero, i.size, i.bytes)) = some (some (.agg #[.int .i64 0, .int .i64 0, .slice none 0 0]), 3, 40) := by kernel_rfl
/-- An end's twelve cells. -/
def lkC (fs fm ns nm qs qm st sz lf wt ow : Int) (v : Value) : Array Value := #[.int .i64 fs, .int .i64 fm, .int .i64 ns, .int .i64 nm, .int .i64 qs, .int .i64 qm, .int .i64 st, .int .i64 sz, .int .i64 lf, .int .i64 wt, .int .i64 ow, v]
def Lk (w : World) (B : Nat) (C : Array Value) : Prop := w.heap[B]? = some (.cells C 60 (0, 0))
theorem Lk.lt {w : World} {B : Nat} {C : Array Value} (h : Lk w B C) : B < w.heap.size := (Array.getElem?_eq_some_iff.1 h).1
theorem Lk.cell {w : World} {B : Nat} {C : Array Value} (h : Lk w B C) (j : Nat) : w.cell? ⟨B, j, none⟩ = C[j]? := cell_of_row w B j C _ (0, 0) h
theorem Lk.frozen {w : World} {B : Nat} {C : Array Value} (h : Lk w B C) (j : Nat) : w.frozen? ⟨B, j, none⟩ = false := frozen_of_row w B j C _ h
theorem Lk.set {w : World} {B : Nat} {C : Array Value} (h : Lk w B C) (j : Nat) (x : Value) : Lk (w.setCell ⟨B, j, none⟩ x) B (C.setIfInBounds j x) := by
  unfold Lk
  rw [setCell_eq_setRow w B j C _ (0, 0) x h]
  exact setRow_heap w B C _ _ (0, 0) h
theorem Lk.keep {w w' : World} {B : Nat} {C : Array Value} (h : Lk w B C) (hb : w'.heap[B]? = w.heap[B]?) : Lk w' B C := hb.trans h
theorem Lk.below {w w' : World} {B : Nat} {C : Array Value} (h : Lk w B C) (hb : Below w.heap.size w w') : Lk w' B C := h.keep (hb.block B h.lt)
theorem Lk.drew {w : World} {B : Nat} {C : Array Value} (h : Lk w B C) : Lk w.drew B C := h
theorem Lk.drewN {w : World} {B : Nat} {C : Array Value} (h : Lk w B C) (n : Nat) : Lk (w.drewN n) B C := h

theorem cells_threeD (w : World) (x y z : Value) (t : TypeId) (g : Nat) (hg : w.heap.size = g) : ∀ (j : Nat) (u : Value), [x, y, z][j]? = some u → (w.alloc (.cells #[x, y, z] t)).drew.cell? ((⟨g, 0, none⟩ : Addr).add j) = some u := by
  subst hg
  intro j u hu
  show (w.alloc (.cells #[x, y, z] t)).cell? _ = _
  rw [add_plain, World.cell?_alloc_mark]
  simpa using hu
theorem one_pack (x y : Int) (a : Option Addr) (n c : Nat) : ∀ u ∈ [Value.int .i64 x, Value.int .i64 y, Value.slice a n c], u.oneCell' = true := by simp [Value.oneCell']

theorem lk_far {w x : World} {o : Obj} {B : Nat} {C : Array Value} (h : Lk w B C) (hg : (w.alloc o).drew.grownBy x (Value.ownBlock (.slice none 0 0))) : Lk x B C := by
  refine h.keep ?_
  rw [hg.block B (by show B < (w.alloc o).heap.size; have := h.lt; simp; omega) (by simp [Value.ownBlock])]
  exact Below.heap_alloc w o B h.lt
theorem grownBy_setCell {a w : World} {b : Nat} (h : a.grownBy w (some b)) (j : Nat) (v : Value) : a.grownBy (w.setCell ⟨b, j, none⟩ v) (some b) := by
  have b1 : Below 0 w (w.setCell ⟨b, j, none⟩ v) := (Below.refl 0 w).setCell (Nat.zero_le _) _
  exact ⟨b1.os.trans h.os, b1.tape.trans h.tape, b1.output.trans h.output, Nat.le_trans h.size b1.size, fun i hi hne => (Below.heap_setCell _ _ _ i (fun e => hne (by rw [e]))).trans (h.block i hi hne)⟩
theorem grown_of_below {w x : World} (B : Nat) (h : Below w.heap.size w x) : w.grownBy x (some B) := ⟨h.os, h.tape, h.output, h.size, fun i hi _ => h.block i hi⟩
theorem grown_trans {a b c : World} {B : Nat} (h : a.grownBy b (some B)) (k : b.grownBy c (some B)) : a.grownBy c (some B) :=
  ⟨k.os.trans h.os, k.tape.trans h.tape, k.output.trans h.output, Nat.le_trans h.size k.size, fun i hi hne => (k.block i (Nat.lt_of_lt_of_le hi h.size) hne).trans (h.block i hi hne)⟩
theorem grown_none {w x : World} {o : Obj} (B : Nat) (hg : (w.alloc o).drew.grownBy x (Value.ownBlock (.slice none 0 0))) : w.grownBy x (some B) :=
  ⟨hg.os, hg.tape, hg.output, Nat.le_trans (by show w.heap.size ≤ (w.alloc o).heap.size; simp) hg.size, fun i hi _ => by
    rw [hg.block i (by show i < (w.alloc o).heap.size; simp; omega) (by simp [Value.ownBlock])]
    exact Below.heap_alloc w o i hi⟩

set_option maxRecDepth 100000 in
set_option maxHeartbeats 4000000 in
theorem say_nil (B : Nat) (fs fm ns nm qs qm st sz lf wt ow code id : Int) (a : Option Addr) (n cap : Nat) (w : World) (h : Lk w B (lkC fs fm ns nm qs qm st sz lf wt ow (.slice none 0 0))) :
    Calls Tryd.prog 44 #[.pointer (some ⟨B, 0, none⟩), .agg #[.int .i64 code, .int .i64 id, .slice a n cap]] w fun e w' => e = .returned (.tuple #[]) ∧ ∃ g c, Lk w' B (lkC fs fm ns nm qs qm st sz lf wt ow (.slice (some ⟨g, 0, none⟩) 1 c)) ∧ w.grownBy w' (some B) := by
  obtain ⟨i0, hi, hz0, hz1, hz2⟩ := info_parts infoPack
  have hl := h.lt
  have c11 : w.cell? ⟨B, 11, none⟩ = some (.slice none 0 0) := h.cell 11
  have hbx := below_alloc w (.cells #[.int .i64 code, .int .i64 id, .slice a n cap] 36)
  have h1 := h.below hbx
  have hA := fun j => World.cell?_alloc_mark w #[.int .i64 code, .int .i64 id, .slice a n cap] 36 (0, 0) j
  go_enter Tryd.func44, Tryd.ntmps44
  go_wp2_with (fail)
  obtain ⟨Z, hZ⟩ : ∃ Z, w.heap.size = Z := ⟨_, rfl⟩
  obtain ⟨W0, hW0⟩ : ∃ W0, w.alloc (.cells #[.int .i64 code, .int .i64 id, .slice a n cap] 36) = W0 := ⟨_, rfl⟩
  have d0 : W0.cell? ⟨Z, 0, none⟩ = some (.int .i64 code) := by rw [← hW0, ← hZ]; exact hA 0
  have d1 : W0.cell? ⟨Z, 1, none⟩ = some (.int .i64 id) := by rw [← hW0, ← hZ]; exact hA 1
  have d2 : W0.cell? ⟨Z, 2, none⟩ = some (.slice a n cap) := by rw [← hW0, ← hZ]; exact hA 2
  rw [hW0] at h1 hbx
  rw [hW0, hZ]
  have hlB : B < W0.heap.size := h1.lt
  have hlZ : Z < W0.heap.size := World.block_lt_of_cell? W0 _ d0
  have c11 : W0.cell? ⟨B, 11, none⟩ = some (.slice none 0 0) := h1.cell 11
  have HB : Hid (Below w.heap.size w W0) := hbx
  clear hA hW0 hZ h hl hbx
  go_region_law ((refine step_append_row (by rfl) (.tmp 8) (.tmp 10) 46 (by rfl) 36 i0 (.agg #[.int .i64 0, .int .i64 0, .slice none 0 0]) 3 40 Tryd.underlying46 hi hz0 hz1 hz2 (by rfl) (by decide) (.slice none 0 0) 0 [] (by rfl) (Row.nil _ 3) _ 1 1 [.int .i64 code, .int .i64 id, .slice a n cap] (by rfl) (by rfl) (by decide) (cells_threeD _ _ _ _ _ _ rfl) (one_pack _ _ _ _ _) (by decide) (by decide) ?_; intro g' cap' x1 hr1 hg1 hown1; have e11 := lk_far h1 hg1; have f11 := e11.frozen 11; have g11 : x1.cell? ⟨B, 11, none⟩ = some (.slice none 0 0) := e11.cell 11))
  all_goals
    go_wp2_with (fail)
    first | go_end0 | refine bodyPost_ret (results_none rfl _ _ _) rfl ?_
    exact ⟨rfl, g', cap', e11.set 11 _, grownBy_setCell (grown_trans (grown_of_below B HB.out) (grown_none B hg1)) 11 _⟩
end Go.Proofs.YtgfjgenkpfdofaaDoor
