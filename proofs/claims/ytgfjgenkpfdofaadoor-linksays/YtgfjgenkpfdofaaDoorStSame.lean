/-
  States copied and held against each other: slices.Clone, the program's Copy, the document's SameState and Newer, LightState.
-/
import Derived.Test.YtgfjgenkpfdofaaDoorStNewer
namespace Go.Proofs.YtgfjgenkpfdofaaDoor
open Go.RowKit St

theorem enot_nil (a : Addr) (n cap : Nat) (w : World) : (binOp .eql 37 (.slice (some a) n cap) (.slice none 0 0)).run Tryd.prog w = .ok (.bool false) w := by kernel_rfl
theorem eis_nil (w : World) : (binOp .eql 37 (.slice none 0 0) (.slice none 0 0)).run Tryd.prog w = .ok (.bool true) w := by kernel_rfl
/-- A copy of a state. -/
structure Copied (w w' : World) (e : Ending) (own seq : Int) (os : List Opt) : Prop where
  out : ∃ (a : Option Addr) (cap : Nat), e = .returned (.agg #[.int .i64 own, .int .i64 seq, .slice a os.length cap]) ∧ OptR w' a os.length os ∧ NilOk a cap ∧ os.length ≤ cap ∧ (∀ j, Value.ownBlock (.slice a os.length cap) = some j → w.heap.size ≤ j ∧ j < w'.heap.size)
  below : Below w.heap.size w w'
/-- Two boxes' lists, in a later world. -/
theorem box_pair {w w1 : World} {x0 x1 x2 y0 y1 y2 : Value} {t : TypeId} (hb : Below ((w.alloc (.cells #[x0, x1, x2] t)).alloc (.cells #[y0, y1, y2] t)).heap.size ((w.alloc (.cells #[x0, x1, x2] t)).alloc (.cells #[y0, y1, y2] t)) w1) :
    (w1.cell? ⟨w.heap.size, 2, none⟩ = some x2 ∧ w.heap.size < w1.heap.size) ∧ (w1.cell? ⟨w.heap.size + 1, 2, none⟩ = some y2 ∧ w.heap.size + 1 < w1.heap.size) := by
  have h2 := box3 hb
  have e1 : (w.alloc (.cells #[x0, x1, x2] t)).heap.size = w.heap.size + 1 := by simp
  rw [e1] at h2
  have h1 := box3 (w1 := w1) (below_chain (below_alloc _ _) hb)
  exact ⟨⟨h1.2.2.1, h1.2.2.2⟩, ⟨h2.2.2.1, h2.2.2.2⟩⟩

end Go.Proofs.YtgfjgenkpfdofaaDoor
