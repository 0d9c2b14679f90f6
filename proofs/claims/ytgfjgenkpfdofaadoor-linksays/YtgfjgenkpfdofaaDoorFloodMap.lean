/-
  A map of states by their owners: what lies at which key; made, stored into, looked into, deleted from, cleared, gone over.
-/
import Derived.Test.YtgfjgenkpfdofaaDoorStSame
import Derived.Maps.RangeWalk
namespace Go.Proofs.YtgfjgenkpfdofaaDoor
open Go.RowKit St
open Go.Maps (Keyed)
open Go.ChangeMaps Go.MapKept
open Go.WideElems (Fit)

/-- A state as it lies in a slot. -/
structure SV where
  own : Int
  seq : Int
  a : Option Addr
  n : Nat
  cap : Nat
def SV.v (s : SV) : Value := .agg #[.int .i64 s.own, .int .i64 s.seq, .slice s.a s.n s.cap]
def SV.zero : SV := ⟨0, 0, none, 0, 0⟩
def svOf : Value → Option SV
  | .agg cs => (match cs.toList with
    | [.int .i64 o, .int .i64 q, .slice a n c] => some ⟨o, q, a, n, c⟩
    | _ => none)
  | _ => none
theorem svOf_v (s : SV) : svOf s.v = some s := rfl
theorem svOf_inv {v : Value} {s : SV} (h : svOf v = some s) : v = s.v := by
  unfold svOf at h
  split at h
  · rename_i cs
    split at h
    · rename_i o q a n c e
      obtain rfl := Option.some.inj h
      have : cs = #[.int .i64 o, .int .i64 q, .slice a n c] := by
        apply Array.toList_inj.1
        simpa using e
      rw [this]
      rfl
    · cases h
  · cases h
/-- How an element reads: as itself. -/
def elemR (v : Value) : Option (DataW SV × List MemPlace) := (svOf v).map fun s => (.held s, [])
theorem elemR_v (s : SV) : elemR s.v = some (.held s, []) := rfl
theorem elemR_inv {v : Value} {y : DataW SV × List MemPlace} (h : elemR v = some y) : ∃ s, v = s.v ∧ y = (.held s, []) := by
  unfold elemR at h
  obtain ⟨s, hs, rfl⟩ := Option.map_eq_some_iff.1 h
  exact ⟨s, svOf_inv hs, rfl⟩

theorem keyLaw : Keyed Tryd.prog 3 := Go.Maps.int_keyed Tryd.underlying3
theorem zeroElem (w : World) : (zeroValue 39).run Tryd.prog w = .ok SV.zero.v w := by kernel_rfl
def inR (k : Int) : Prop := -9223372036854775808 ≤ k ∧ k ≤ 9223372036854775807
theorem key_ok {k : Int} (h : inR k) : keyOf Tryd.prog 3 (.int .i64 k) = some (.int .i64 k) := by
  refine Go.Maps.keyOf_int_mk Tryd.underlying3 ?_
  exact WalkArith.wf_i64 (by obtain ⟨h1, h2⟩ := h; omega)

/-- Block b is a map that holds at each key what f says (at most n entries). -/
structure SMap (w : World) (b n : Nat) (f : Int → Option SV) : Prop where
  own : ∃ D : DataW SV, w.ownsMap Tryd.prog 3 elemR b n D ∧ ∀ k, inR k → match f k with
    | none => ∀ z, D.atKey (.int .i64 k) z = z
    | some s => ∀ z, D.atKey (.int .i64 k) z = .held s
theorem SMap.made (w : World) : SMap (w.alloc (.map #[] 0)) w.heap.size 0 (fun _ => none) :=
  ⟨⟨.map [], World.ownsMap_made w _ _ _, fun _ _ _ => rfl⟩⟩
theorem SMap.lt {w : World} {b n : Nat} {f : Int → Option SV} (h : SMap w b n f) : b < w.heap.size := by obtain ⟨D, h1, _⟩ := h.own; exact h1.lt
theorem SMap.mono {w : World} {b n m : Nat} {f : Int → Option SV} (h : SMap w b n f) (hm : n ≤ m) : SMap w b m f := by obtain ⟨D, h1, h2⟩ := h.own; exact ⟨⟨D, h1.mono hm, h2⟩⟩
theorem SMap.kept {w w' : World} {b n : Nat} {f : Int → Option SV} {row : Option Nat} (h : SMap w b n f) (hg : w.grownBy w' row) (hne : some b ≠ row) : SMap w' b n f := by obtain ⟨D, h1, h2⟩ := h.own; exact ⟨⟨D, h1.kept hg hne, h2⟩⟩
theorem SMap.keep {w w' : World} {b n : Nat} {f : Int → Option SV} (h : SMap w b n f) (hb : w'.heap[b]? = w.heap[b]?) : SMap w' b n f := by
  obtain ⟨D, ⟨es, clock, h1, h3⟩, h2⟩ := h.own
  exact ⟨⟨D, ⟨es, clock, hb.trans h1, h3⟩, h2⟩⟩
theorem SMap.below {w w' : World} {b n : Nat} {f : Int → Option SV} (h : SMap w b n f) (hb : Below w.heap.size w w') : SMap w' b n f := h.keep (hb.block b h.lt)
theorem SMap.drew {w : World} {b n : Nat} {f : Int → Option SV} (h : SMap w b n f) : SMap w.drew b n f := h.keep rfl
theorem SMap.alloc {w : World} {b n : Nat} {f : Int → Option SV} (h : SMap w b n f) (o : Obj) : SMap (w.alloc o) b n f := h.below (below_alloc _ _)
theorem SMap.setCell {w : World} {b n : Nat} {f : Int → Option SV} (h : SMap w b n f) {B : Nat} (hne : b ≠ B) (j : Nat) (v : Value) : SMap (w.setCell ⟨B, j, none⟩ v) b n f := h.keep (Below.heap_setCell _ _ _ b hne)

theorem lit_ne {x k : Int} (h : x ≠ k) : (Lit.int .i64 x) ≠ .int .i64 k := fun e => h (by simpa using e)
theorem key_lit (k : Int) (h : inR k) : WideAt.IsKeyLit (.int .i64 k) := keyLaw.key (key_ok h)

end Go.Proofs.YtgfjgenkpfdofaaDoor
