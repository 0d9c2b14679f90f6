/-
  A map of states by their owners: what lies at which key; made, stored into, looked into, deleted from, cleared, gone over.
-/
import Derived.Test.YtgfjgenkpfdofaaStSame
import Derived.Maps.RangeWalk
namespace Go.Proofs.Ytgfjgenkpfdofaa
open Go.RowKit St
open Go.Maps (Keyed)
open Go.ChangeMaps Go.MapKept
open Go.WideElems (Fit)

/-- A state as it lies in a slot. -/
structure SV where
  own : Int
  seq : Int
  a : Option Addr
  n : Nat
  cap : Nat
def SV.v (s : SV) : Value := .agg #[.int .i64 s.own, .int .i64 s.seq, .slice s.a s.n s.cap]
def SV.zero : SV := ⟨0, 0, none, 0, 0⟩
def svOf : Value → Option SV
  | .agg cs => (match cs.toList with
    | [.int .i64 o, .int .i64 q, .slice a n c] => some ⟨o, q, a, n, c⟩
    | _ => none)
  | _ => none
theorem svOf_v (s : SV) : svOf s.v = some s := rfl
theorem svOf_inv {v : Value} {s : SV} (h : svOf v = some s) : v = s.v := by
  unfold svOf at h
  split at h
  · rename_i cs
    split at h
    · rename_i o q a n c e
      obtain rfl := Option.some.inj h
      have : cs = #[.int .i64 o, .int .i64 q, .slice a n c] := by
        apply Array.toList_inj.1
        simpa using e
      rw [this]
      rfl
    · cases h
  · cases h
/-- How an element reads: as itself. -/
def elemR (v : Value) : Option (DataW SV × List MemPlace) := (svOf v).map fun s => (.held s, [])
theorem elemR_v (s : SV) : elemR s.v = some (.held s, []) := rfl
theorem elemR_inv {v : Value} {y : DataW SV × List MemPlace} (h : elemR v = some y) : ∃ s, v = s.v ∧ y = (.held s, []) := by
  unfold elemR at h
  obtain ⟨s, hs, rfl⟩ := Option.map_eq_some_iff.1 h
  exact ⟨s, svOf_inv hs, rfl⟩

theorem keyLaw : Keyed Try.prog 3 := Go.Maps.int_keyed Try.underlying3
theorem zeroElem (w : World) : (zeroValue 35).run Try.prog w = .ok SV.zero.v w := by kernel_rfl
def inR (k : Int) : Prop := -9223372036854775808 ≤ k ∧ k ≤ 9223372036854775807
theorem key_ok {k : Int} (h : inR k) : keyOf Try.prog 3 (.int .i64 k) = some (.int .i64 k) := by
  refine Go.Maps.keyOf_int_mk Try.underlying3 ?_
  exact WalkArith.wf_i64 (by obtain ⟨h1, h2⟩ := h; omega)

/-- Block b is a map that holds at each key what f says (at most n entries). -/
structure SMap (w : World) (b n : Nat) (f : Int → Option SV) : Prop where
  own : ∃ D : DataW SV, w.ownsMap Try.prog 3 elemR b n D ∧ ∀ k, inR k → match f k with
    | none => ∀ z, D.atKey (.int .i64 k) z = z
    | some s => ∀ z, D.atKey (.int .i64 k) z = .held s
theorem SMap.made (w : World) : SMap (w.alloc (.map #[] 0)) w.heap.size 0 (fun _ => none) :=
  ⟨⟨.map [], World.ownsMap_made w _ _ _, fun _ _ _ => rfl⟩⟩
theorem SMap.lt {w : World} {b n : Nat} {f : Int → Option SV} (h : SMap w b n f) : b < w.heap.size := by obtain ⟨D, h1, _⟩ := h.own; exact h1.lt
theorem SMap.mono {w : World} {b n m : Nat} {f : Int → Option SV} (h : SMap w b n f) (hm : n ≤ m) : SMap w b m f := by obtain ⟨D, h1, h2⟩ := h.own; exact ⟨⟨D, h1.mono hm, h2⟩⟩
theorem SMap.kept {w w' : World} {b n : Nat} {f : Int → Option SV} {row : Option Nat} (h : SMap w b n f) (hg : w.grownBy w' row) (hne : some b ≠ row) : SMap w' b n f := by obtain ⟨D, h1, h2⟩ := h.own; exact ⟨⟨D, h1.kept hg hne, h2⟩⟩
theorem SMap.keep {w w' : World} {b n : Nat} {f : Int → Option SV} (h : SMap w b n f) (hb : w'.heap[b]? = w.heap[b]?) : SMap w' b n f := by
  obtain ⟨D, ⟨es, clock, h1, h3⟩, h2⟩ := h.own
  exact ⟨⟨D, ⟨es, clock, hb.trans h1, h3⟩, h2⟩⟩
theorem SMap.below {w w' : World} {b n : Nat} {f : Int → Option SV} (h : SMap w b n f) (hb : Below w.heap.size w w') : SMap w' b n f := h.keep (hb.block b h.lt)
theorem SMap.drew {w : World} {b n : Nat} {f : Int → Option SV} (h : SMap w b n f) : SMap w.drew b n f := h.keep rfl
theorem SMap.alloc {w : World} {b n : Nat} {f : Int → Option SV} (h : SMap w b n f) (o : Obj) : SMap (w.alloc o) b n f := h.below (below_alloc _ _)
theorem SMap.setCell {w : World} {b n : Nat} {f : Int → Option SV} (h : SMap w b n f) {B : Nat} (hne : b ≠ B) (j : Nat) (v : Value) : SMap (w.setCell ⟨B, j, none⟩ v) b n f := h.keep (Below.heap_setCell _ _ _ b hne)

theorem lit_ne {x k : Int} (h : x ≠ k) : (Lit.int .i64 x) ≠ .int .i64 k := fun e => h (by simpa using e)
theorem key_lit (k : Int) (h : inR k) : WideAt.IsKeyLit (.int .i64 k) := keyLaw.key (key_ok h)

/-- 'm[k] = s'. -/
theorem SMap.store {w : World} {b n : Nat} {f : Int → Option SV} (h : SMap w b n f) (hn : n < maxLen) (k : Int) (hk : inR k) (s : SV) :
    ∃ w', (Instr.mapUpdate 66 (.map (some b)) (.int .i64 k) s.v).run Try.prog w = .ok () w' ∧ SMap w' b (n + 1) (fun x => if x = k then some s else f x) ∧ w.mapTurned w' b := by
  obtain ⟨D, h1, h2⟩ := h.own
  obtain ⟨w', hr, ho, ht⟩ := h1.store keyLaw Try.underlying66 hn (key_ok hk) (elemR_v s)
  refine ⟨w', hr, ⟨⟨_, ho, fun x hx => ?_⟩⟩, ht⟩
  have hm := h1.isMap
  by_cases e : x = k
  · subst e
    simp only [if_true]
    exact fun z => Maps.atKey_put_same hm (key_lit x hk) _ z
  · rw [if_neg e]
    have := h2 x hx
    cases hf : f x with
    | none => rw [hf] at this; exact fun z => (Maps.atKey_put_other (lit_ne e) _ z).trans (this z)
    | some s' => rw [hf] at this; exact fun z => (Maps.atKey_put_other (lit_ne e) _ z).trans (this z)

/-- 'm[k]', 's, ok := m[k]'. -/
theorem SMap.look {w : World} {b n : Nat} {f : Int → Option SV} (h : SMap w b n f) (k : Int) (hk : inR k) :
    (Instr.lookup 66 (.map (some b)) (.int .i64 k) false).run Try.prog w = .ok ((f k).getD SV.zero).v w := by
  obtain ⟨D, h1, h2⟩ := h.own
  obtain ⟨v, ps, hr, hv⟩ := h1.lookup keyLaw Try.underlying66 (zeroElem w) (elemR_v SV.zero) (key_ok hk)
  rw [hr]
  obtain ⟨s, rfl, e⟩ := elemR_inv hv
  have hx := h2 k hk
  simp only [Prod.mk.injEq] at e
  cases hf : f k with
  | none =>
    rw [hf] at hx
    rw [hx] at e
    have : SV.zero = s := by simpa using e.1
    rw [← this]
    rfl
  | some s' =>
    rw [hf] at hx
    rw [hx] at e
    have : s' = s := by simpa using e.1
    rw [this]
    rfl
theorem SMap.look_ok {w : World} {b n : Nat} {f : Int → Option SV} (h : SMap w b n f) (k : Int) (hk : inR k) :
    (Instr.lookup 66 (.map (some b)) (.int .i64 k) true).run Try.prog w = .ok (.tuple #[((f k).getD SV.zero).v, .bool (f k).isSome]) w := by
  obtain ⟨D, h1, h2⟩ := h.own
  obtain ⟨v, ps, hr, hv⟩ := h1.look_ok keyLaw Try.underlying66 (zeroElem w) (elemR_v SV.zero) (key_ok hk)
  rw [hr]
  obtain ⟨s, rfl, e⟩ := elemR_inv hv
  have hx := h2 k hk
  simp only [Prod.mk.injEq] at e
  cases hf : f k with
  | none =>
    rw [hf] at hx
    rw [hx] at e
    have : SV.zero = s := by simpa using e.1
    rw [← this, Maps.has_false_of_atKey hx]
    rfl
  | some s' =>
    rw [hf] at hx
    rw [hx] at e
    have : s' = s := by simpa using e.1
    rw [this, Maps.has_true_of_atKey hx]
    rfl
/-- 'delete(m, k)'. -/
theorem SMap.drop {w : World} {b n : Nat} {f : Int → Option SV} (h : SMap w b n f) (k : Int) (hk : inR k) (ty : TypeId) :
    ∃ w', (Builtin.delete_ #[66, 3] ty #[.map (some b), .int .i64 k]).run Try.prog w = .ok (.tuple #[]) w' ∧ SMap w' b n (fun x => if x = k then none else f x) ∧ w.mapTurned w' b := by
  obtain ⟨D, h1, h2⟩ := h.own
  obtain ⟨w', hr, ho, ht⟩ := h1.drop keyLaw Try.underlying66 (key_ok hk) ty
  refine ⟨w', hr, ⟨⟨_, ho, fun x hx => ?_⟩⟩, ht⟩
  by_cases e : x = k
  · subst e
    simp only [if_true]
    exact fun z => Maps.atKey_del_same z
  · rw [if_neg e]
    have := h2 x hx
    cases hf : f x with
    | none => rw [hf] at this; exact fun z => (Maps.atKey_del_other (lit_ne e) z).trans (this z)
    | some s' => rw [hf] at this; exact fun z => (Maps.atKey_del_other (lit_ne e) z).trans (this z)
/-- 'clear(m)'. -/
theorem SMap.clear {w : World} {b n : Nat} {f : Int → Option SV} (h : SMap w b n f) (ty : TypeId) :
    ∃ w', (Builtin.clear_ #[66] ty #[.map (some b)]).run Try.prog w = .ok (.tuple #[]) w' ∧ SMap w' b n (fun _ => none) ∧ w.mapTurned w' b := by
  obtain ⟨D, ⟨es, clock, hb, F, hs, hD⟩, h2⟩ := h.own
  refine ⟨setBlock w b (.map #[] clock), ?_, ⟨⟨.map [], ⟨#[], clock, heap_setBlock_same hb _, ⟨by simp, ?_, by simp⟩, by simp, rfl⟩, fun _ _ _ => rfl⟩⟩, ⟨es, clock, #[], clock, hb, rfl⟩⟩
  · simp [Builtin.clear_, run_underlying Try.underlying66, MapKept.run_getObj_map hb, MapKept.run_setObj_map _ hb, Result.andThen, setBlock]
  · exact stamped_empty clock
end Go.Proofs.Ytgfjgenkpfdofaa
