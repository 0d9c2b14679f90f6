/-
  Which state is newer: the program's Newer, by cmp.Compare, cmp.Or and slices.CompareFunc.
-/
import Derived.Test.YtgfjgenkpfdofaaDoorStCheck
namespace Go.Proofs.YtgfjgenkpfdofaaDoor
open Go.RowKit St

theorem two_new (W : World) (x y : Value) (t : TypeId) (g : Nat) (hg : W.heap.size = g) : (W.alloc (.cells #[x, y] t)).drew.cell? ⟨g, 0, none⟩ = some x ∧ (W.alloc (.cells #[x, y] t)).drew.cell? ⟨g, 1, none⟩ = some y := by
  subst hg
  exact ⟨World.cell?_alloc_mark W #[x, y] t (0, 0) 0, World.cell?_alloc_mark W #[x, y] t (0, 0) 1⟩
end Go.Proofs.YtgfjgenkpfdofaaDoor
