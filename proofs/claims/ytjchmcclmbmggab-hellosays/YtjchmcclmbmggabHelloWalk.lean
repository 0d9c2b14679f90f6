/-
  The program's hello package: Hear, Tick, Says; two who hear each other.
-/
import Derived.Test.YtjchmcclmbmggabBase
import Derived.Deep.DeepCutAuto
namespace Go.Proofs.Ytjchmcclmbmggab
open Go.RowKit

/-- A block of cells. -/
def Blk (w : World) (B : Nat) (C : Array Value) (t : TypeId) : Prop := w.heap[B]? = some (.cells C t (0, 0))
theorem Blk.lt {w : World} {B : Nat} {C : Array Value} {t : TypeId} (h : Blk w B C t) : B < w.heap.size := (Array.getElem?_eq_some_iff.1 h).1
theorem Blk.cell {w : World} {B : Nat} {C : Array Value} {t : TypeId} (h : Blk w B C t) (j : Nat) : w.cell? ⟨B, j, none⟩ = C[j]? := cell_of_row w B j C _ (0, 0) h
theorem Blk.frozen {w : World} {B : Nat} {C : Array Value} {t : TypeId} (h : Blk w B C t) (j : Nat) : w.frozen? ⟨B, j, none⟩ = false := frozen_of_row w B j C _ h
theorem Blk.set {w : World} {B : Nat} {C : Array Value} {t : TypeId} (h : Blk w B C t) (j : Nat) (x : Value) : Blk (w.setCell ⟨B, j, none⟩ x) B (C.setIfInBounds j x) t := by
  unfold Blk
  rw [setCell_eq_setRow w B j C _ (0, 0) x h]
  exact setRow_heap w B C _ _ (0, 0) h
theorem Blk.other {w : World} {B B' j : Nat} {C : Array Value} {t : TypeId} (h : Blk w B C t) (hne : B ≠ B') (x : Value) : Blk (w.setCell ⟨B', j, none⟩ x) B C t :=
  (Below.heap_setCell _ _ _ B hne).trans h
theorem Blk.keep {w w' : World} {B : Nat} {C : Array Value} {t : TypeId} (h : Blk w B C t) (hb : w'.heap[B]? = w.heap[B]?) : Blk w' B C t := hb.trans h
theorem Blk.below {w w' : World} {B : Nat} {C : Array Value} {t : TypeId} (h : Blk w B C t) (hb : Below w.heap.size w w') : Blk w' B C t := h.keep (hb.block B h.lt)
theorem Blk.drew {w : World} {B : Nat} {C : Array Value} {t : TypeId} (h : Blk w B C t) : Blk w.drew B C t := h
theorem Blk.drewN {w : World} {B : Nat} {C : Array Value} {t : TypeId} (h : Blk w B C t) (n : Nat) : Blk (w.drewN n) B C t := h
theorem Blk.new (w : World) (C : Array Value) (t : TypeId) : Blk (w.alloc (.cells C t)) w.heap.size C t := heap_alloc_new w _
theorem Blk.newN (w : World) (C : Array Value) (t : TypeId) (g : Nat) (hg : w.heap.size = g) : Blk (w.alloc (.cells C t)) g C t := by subst hg; exact Blk.new w C t
theorem below_drew {w a : World} {B : Nat} (h : Below B w a) : Below B w a.drew := ⟨h.os, h.tape, h.output, h.size, h.block⟩

abbrev Peer := Int × Bool × Int
def Peer.c (p : Peer) : Array Value := #[.int .i64 p.1, .bool p.2.1, .int .i64 p.2.2]
def hearP (me f s : Int) : Peer := if f = me then (0, false, 0) else (f, s == me, 4)
def tickP (p : Peer) : Peer := if p.2.2 ≤ 1 then (0, false, 0) else (p.1, p.2.1, p.2.2 - 1)

theorem zeroPeer (w : World) : (zeroValue 49).run Try.prog w = .ok (.agg #[.int .i64 0, .bool false, .int .i64 0]) w := by kernel_rfl
theorem zeroHello (w : World) : (zeroValue 42).run Try.prog w = .ok (.agg #[.int .i64 0, .int .i64 0]) w := by kernel_rfl

set_option maxRecDepth 100000 in
theorem hear_any (a c me f s : Int) (b : Bool) (w : World) : Calls Try.prog 22 #[.agg #[.int .i64 a, .bool b, .int .i64 c], .int .i64 me, .agg #[.int .i64 f, .int .i64 s]] w fun e w' =>
    e = .returned (.agg #[.int .i64 (hearP me f s).1, .bool (hearP me f s).2.1, .int .i64 (hearP me f s).2.2]) ∧ Below w.heap.size w w' := by
  have hz := zeroPeer
  have hb : ∀ (A B C : Array Value) (t u v : TypeId), Below w.heap.size w (((w.alloc (.cells A t)).alloc (.cells B u)).alloc (.cells C v)) := fun A B C t u v => ((below_alloc _ _).alloc (by simp) _).alloc (by simp; omega) _
  cases q : (f == me)
  · have hv : hearP me f s = (f, s == me, 4) := by simp at q; simp [hearP, q]
    rw [hv]
    clear hv
    go_enter Try.func22, Try.ntmps22
    go_wp2
    refine bodyPost_ret (v := .agg #[.int .i64 f, .bool (s == me), .int .i64 4]) (by simp [results, Try.results22, go_sem]) rfl ?_
    exact ⟨rfl, hb _ _ _ _ _ _⟩
  · have hv : hearP me f s = (0, false, 0) := by simp at q; simp [hearP, q]
    rw [hv]
    clear hv
    go_enter Try.func22, Try.ntmps22
    go_wp2
    refine bodyPost_ret (v := .agg #[.int .i64 0, .bool false, .int .i64 0]) (by simp [results, Try.results22, go_sem]) rfl ?_
    exact ⟨rfl, hb _ _ _ _ _ _⟩

set_option maxRecDepth 100000 in
theorem tick_any (a c : Int) (b : Bool) (w : World) (hc : 0 ≤ c) (hc2 : c ≤ 100) : Calls Try.prog 24 #[.agg #[.int .i64 a, .bool b, .int .i64 c]] w fun e w' =>
    e = .returned (.agg #[.int .i64 (tickP (a, b, c)).1, .bool (tickP (a, b, c)).2.1, .int .i64 (tickP (a, b, c)).2.2]) ∧ Below w.heap.size w w' := by
  have hz := zeroPeer
  have hb : ∀ (A B : Array Value) (t u : TypeId), Below w.heap.size w ((w.alloc (.cells A t)).alloc (.cells B u)) := fun A B t u => (below_alloc _ _).alloc (by simp) _
  by_cases q : c ≤ 1
  · have hv : tickP (a, b, c) = (0, false, 0) := by simp [tickP, q]
    rw [hv]
    clear hv
    go_enter Try.func24, Try.ntmps24
    go_wp2
    refine bodyPost_ret (v := .agg #[.int .i64 0, .bool false, .int .i64 0]) (by simp [results, Try.results24, go_sem]) rfl ?_
    exact ⟨rfl, hb _ _ _ _⟩
  · have hv : tickP (a, b, c) = (a, b, c - 1) := by simp [tickP, q]
    rw [hv]
    clear hv
    go_enter Try.func24, Try.ntmps24
    go_wp2
    refine bodyPost_ret (v := .agg #[.int .i64 a, .bool b, .int .i64 (c - 1)]) (by simp [results, Try.results24, go_sem]) rfl ?_
    exact ⟨rfl, hb _ _ _ _⟩

set_option maxRecDepth 100000 in
theorem says_any (a c me : Int) (b : Bool) (w : World) : Calls Try.prog 26 #[.agg #[.int .i64 a, .bool b, .int .i64 c], .int .i64 me] w fun e w' =>
    e = .returned (.agg #[.int .i64 me, .int .i64 a]) ∧ Below w.heap.size w w' := by
  have hz := zeroHello
  have hb : ∀ (A B : Array Value) (t u : TypeId), Below w.heap.size w ((w.alloc (.cells A t)).alloc (.cells B u)) := fun A B t u => (below_alloc _ _).alloc (by simp) _
  go_enter Try.func26, Try.ntmps26
  go_wp2
  refine bodyPost_ret (v := .agg #[.int .i64 me, .int .i64 a]) (by simp [results, Try.results26, go_sem]) rfl ?_
  exact ⟨rfl, hb _ _ _ _⟩
end Go.Proofs.Ytjchmcclmbmggab
