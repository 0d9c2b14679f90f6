/-
  What a state may be: the program's Check, the document's StateFault.
-/
import Derived.Test.YtgfjgenkpfdofaaDoorBase
import Derived.Test.YtgfjgenkpfdofaaDoorStPure
import Derived.Deep.DeepCutAuto
namespace Go.Proofs.YtgfjgenkpfdofaaDoor
open Go.RowKit St

theorem infoEdge : (Tryd.prog.info? 110).map (fun i => (i.zero, i.size, i.bytes)) = some (some (.agg #[.int .i64 0, .int .i64 0]), 2, 16) := by kernel_rfl
theorem zeroState (w : World) : (zeroValue 39).run Tryd.prog w = .ok (.agg #[.int .i64 0, .int .i64 0, .slice none 0 0]) w := by kernel_rfl
def isR (n : Int) : Bool := decide (1 ≤ n) && decide (n ≤ 6)

theorem isR_true (n : Int) (h0 : ¬ n < 1) (h1 : ¬ 6 < n) : isR n = true := by simp [isR]; omega
theorem isR_false (n : Int) (h : n < 1 ∨ 6 < n) : isR n = false := by simp [isR]; omega

/-- A box's cells, in a later world. -/
theorem box3 {w w1 : World} {x y z : Value} {t : TypeId} (hb : Below (w.alloc (.cells #[x, y, z] t)).heap.size (w.alloc (.cells #[x, y, z] t)) w1) :
    w1.cell? ⟨w.heap.size, 0, none⟩ = some x ∧ w1.cell? ⟨w.heap.size, 1, none⟩ = some y ∧ w1.cell? ⟨w.heap.size, 2, none⟩ = some z ∧ w.heap.size < w1.heap.size := by
  have hz : w.heap.size < (w.alloc (.cells #[x, y, z] t)).heap.size := by simp
  have hA := fun j => World.cell?_alloc_mark w #[x, y, z] t (0, 0) j
  exact ⟨(hb.cell (p := ⟨w.heap.size, 0, none⟩) hz).trans (hA 0), (hb.cell (p := ⟨w.heap.size, 1, none⟩) hz).trans (hA 1), (hb.cell (p := ⟨w.heap.size, 2, none⟩) hz).trans (hA 2), Nat.lt_of_lt_of_le hz hb.size⟩
/-- The edge ahead of the k-th (0: none). -/
def ahead (os : List Opt) (k : Nat) : Int := if k = 0 then 0 else (os.getD (k - 1) (0, 0)).1

end Go.Proofs.YtgfjgenkpfdofaaDoor
