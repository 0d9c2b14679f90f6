/-
  Check of a state with however many edges; a state that came in.
-/
import Derived.Test.YtgfjgenkpfdofaaDoorStSame
import Derived.ProofKit
import Derived.Lib.SmallJoins
import Derived.Deep.SlicePairs
namespace Go.Proofs.YtgfjgenkpfdofaaDoor
open Go.RowKit St
open Go.ChangeShapes Go.WideShapes Go.ChangeAt

set_option maxRecDepth 100000 in
/-- A state that came in, as the walks want it. -/
theorem open_state {H : Type} {enc : TypeId × Value → H} {W : World} {r : Reach} {b0 : Nat} {v : Value} {d : DataW H} {ps : List MemPlace}
    (hv : Value.okWide Tryd.prog W r b0 39 v) (h : DataW.Trod enc Tryd.prog W 0 (fun _ => true) true 39 v d ps) :
    ∃ (own seq : Int) (a : Option Addr) (n cap : Nat) (os : List Opt), v = .agg #[.int .i64 own, .int .i64 seq, .slice a n cap] ∧ OptR W a n os ∧ NilOk a cap ∧ n ≤ cap ∧ n ≤ maxLen := by
  obtain ⟨v0, v1, v2, y0, y1, y2, m, rfl, _, _, h0, h1, h2⟩ := Go.Joins.open_agg3 Tryd.underlying39 (by kernel_rfl) (by kernel_rfl) hv h
  obtain ⟨code, e0, _, _⟩ := DataW.trod_int Tryd.underlying3 h0
  obtain ⟨id, e1, _, _⟩ := DataW.trod_int Tryd.underlying3 h1
  simp at e0 e1
  subst e0 e1
  rcases Go.Deep.open_slice_pairs Tryd.underlying37 Tryd.underlying110 (by kernel_rfl) rfl rfl (by kernel_rfl) (by kernel_rfl) h2 with ⟨hcs, _⟩ | ⟨a, len, cap, m', n', V0, V1, D0, D1, P0, P1, hcs, _, hl, hm, hmm, _, hx⟩
  · simp at hcs
    subst hcs
    exact ⟨code, id, none, 0, 0, [], rfl, ⟨rfl, .inl rfl⟩, fun _ => rfl, Nat.le_refl _, by decide⟩
  · simp at hcs
    subst hcs
    simp at hmm
    have each : ∀ i, i < len → W.cell? (a.add (i * 2)) = some (.int .i64 (intOf (V0 i))) ∧ W.cell? (a.add (i * 2 + 1)) = some (.int .i64 (intOf (V1 i))) := by
      intro i hi
      obtain ⟨q1, q2, q3, q4⟩ := hx i (by omega)
      obtain ⟨k, f0, _, _⟩ := DataW.trod_int Tryd.underlying3 q3
      obtain ⟨n, f1, _, _⟩ := DataW.trod_int Tryd.underlying3 q4
      simp at f0 f1
      exact ⟨by rw [q1, f0]; rfl, by rw [q2, f1]; rfl⟩
    refine ⟨code, id, some a, len, cap, (List.range len).map (fun i => (intOf (V0 i), intOf (V1 i))), rfl, ⟨by simp, ?_⟩, fun h => by simp at h, hl, by omega⟩
    by_cases h0 : len = 0
    · exact .inl h0
    · obtain ⟨b, off, spot⟩ := a
      have hc := (each 0 (by omega)).1
      have hspot : spot = none := by simpa [Addr.add] using World.cell?_spot hc
      subst hspot
      refine .inr ⟨b, off, rfl, fun j hj => ?_⟩
      have hj' : j < len := by simpa using hj
      have hq := each j hj'
      rw [add_plain', add_plain'] at hq
      simpa [Nat.add_assoc] using hq
end Go.Proofs.YtgfjgenkpfdofaaDoor
