/-
  Hellos that came in, as the walks want them.
-/
import Derived.Test.YtjchmcclmbmggabBase
import Derived.ProofKit
import Derived.Lib.SmallJoins
import Derived.Deep.SlicePairs
namespace Go.Proofs.Ytjchmcclmbmggab
open Go.RowKit
open Go.ChangeShapes Go.WideShapes Go.ChangeAt

theorem open_hellos {H : Type} {enc : TypeId × Value → H} {W : World} {a : Option Addr} {n cap : Nat} {d : DataW H} {ps : List MemPlace}
    (h : DataW.Trod enc Try.prog W 0 (fun _ => true) true 39 (.slice a n cap) d ps) :
    ∃ os : List Opt, OptR W a n os ∧ n ≤ maxLen := by
  obtain ⟨fuel, hf⟩ := h
  rcases Go.Deep.open_slice_pairs Try.underlying39 Try.underlying42 (by kernel_rfl) rfl rfl (by kernel_rfl) (by kernel_rfl) hf with ⟨hcs, _⟩ | ⟨x, len, cp, m', n', V0, V1, D0, D1, P0, P1, hcs, _, hl, hm, hmm, _, hx⟩
  · simp [Value.cells] at hcs
    obtain ⟨rfl, rfl, rfl⟩ := hcs
    exact ⟨[], ⟨rfl, .inl rfl⟩, by decide⟩
  · simp [Value.cells] at hcs
    obtain ⟨rfl, rfl, rfl⟩ := hcs
    simp at hmm
    have each : ∀ i, i < n → W.cell? (x.add (i * 2)) = some (.int .i64 (intOf (V0 i))) ∧ W.cell? (x.add (i * 2 + 1)) = some (.int .i64 (intOf (V1 i))) := by
      intro i hi
      obtain ⟨q1, q2, q3, q4⟩ := hx i (by omega)
      obtain ⟨k, f0, _, _⟩ := DataW.trod_int Try.underlying3 q3
      obtain ⟨n, f1, _, _⟩ := DataW.trod_int Try.underlying3 q4
      simp at f0 f1
      exact ⟨by rw [q1, f0]; rfl, by rw [q2, f1]; rfl⟩
    refine ⟨(List.range n).map (fun i => (intOf (V0 i), intOf (V1 i))), ⟨by simp, ?_⟩, by omega⟩
    by_cases h0 : n = 0
    · exact .inl h0
    · obtain ⟨b, off, spot⟩ := x
      have hc := (each 0 (by omega)).1
      have hspot : spot = none := by simpa [Addr.add] using World.cell?_spot hc
      subst hspot
      refine .inr ⟨b, off, rfl, fun j hj => ?_⟩
      have hj' : j < n := by simpa using hj
      have hq := each j hj'
      rw [add_plain', add_plain'] at hq
      simpa [Nat.add_assoc] using hq
end Go.Proofs.Ytjchmcclmbmggab
