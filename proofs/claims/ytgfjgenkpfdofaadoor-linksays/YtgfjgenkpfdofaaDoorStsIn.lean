/-
  States that came in, as the walks want them.
-/
import Derived.Test.YtgfjgenkpfdofaaDoorFloodMap
import Derived.Test.YtgfjgenkpfdofaaDoorStCheckAll
import Derived.Deep.Slices
namespace Go.Proofs.YtgfjgenkpfdofaaDoor
open Go.RowKit St
open Go.ChangeShapes Go.WideShapes Go.ChangeAt

/-- The slice reads as n states: S how each lies, E its edges. -/
structure StsR (w : World) (a : Option Addr) (n : Nat) (S : Nat → SV) (E : Nat → List Opt) : Prop where
  row : n = 0 ∨ ∃ b off, a = some ⟨b, off, none⟩ ∧ ∀ j, j < n → w.cell? ⟨b, off + j * 3, none⟩ = some (.int .i64 (S j).own) ∧ w.cell? ⟨b, off + j * 3 + 1, none⟩ = some (.int .i64 (S j).seq) ∧ w.cell? ⟨b, off + j * 3 + 2, none⟩ = some (.slice (S j).a (S j).n (S j).cap)
  opt : ∀ j, j < n → OptR w (S j).a (S j).n (E j) ∧ NilOk (S j).a (S j).cap ∧ (S j).n ≤ maxLen
theorem StsR.below {w w' : World} {a : Option Addr} {n : Nat} {S : Nat → SV} {E : Nat → List Opt} (h : StsR w a n S E) (hb : Below w.heap.size w w') : StsR w' a n S E := by
  refine ⟨?_, fun j hj => ⟨(h.opt j hj).1.below hb, (h.opt j hj).2⟩⟩
  rcases h.row with h2 | ⟨b, off, rfl, h2⟩
  · exact .inl h2
  · refine .inr ⟨b, off, rfl, fun j hj => ?_⟩
    obtain ⟨c1, c2, c3⟩ := h2 j hj
    have l := World.block_lt_of_cell? w _ c1
    exact ⟨(hb.cell (p := ⟨b, off + j * 3, none⟩) l).trans c1, (hb.cell (p := ⟨b, off + j * 3 + 1, none⟩) l).trans c2, (hb.cell (p := ⟨b, off + j * 3 + 2, none⟩) l).trans c3⟩
theorem StsR.drewN {w : World} {a : Option Addr} {n : Nat} {S : Nat → SV} {E : Nat → List Opt} (h : StsR w a n S E) (m : Nat) : StsR (w.drewN m) a n S E := h.below (below_drewN (Below.refl _ _) m)

instance : Inhabited SV := ⟨SV.zero⟩
theorem open_edges {H : Type} {enc : TypeId × Value → H} {W : World} {m : Nat} {v : Value} {y : DataW H × List MemPlace}
    (h2 : DataW.trod enc Tryd.prog W 0 (fun _ => true) true m 37 [v] = some y) :
    ∃ (a : Option Addr) (n cap : Nat) (os : List Opt), v = .slice a n cap ∧ OptR W a n os ∧ NilOk a cap ∧ n ≤ maxLen := by
  rcases Go.Deep.open_slice_pairs Tryd.underlying37 Tryd.underlying110 (by kernel_rfl) rfl rfl (by kernel_rfl) (by kernel_rfl) h2 with ⟨hcs, _⟩ | ⟨a, len, cap, m', n', V0, V1, D0, D1, P0, P1, hcs, _, hl, hm, hmm, _, hx⟩
  · simp at hcs
    subst hcs
    exact ⟨none, 0, 0, [], rfl, ⟨rfl, .inl rfl⟩, fun _ => rfl, by decide⟩
  · simp at hcs
    subst hcs
    simp at hmm
    have each : ∀ i, i < len → W.cell? (a.add (i * 2)) = some (.int .i64 (intOf (V0 i))) ∧ W.cell? (a.add (i * 2 + 1)) = some (.int .i64 (intOf (V1 i))) := by
      intro i hi
      obtain ⟨q1, q2, q3, q4⟩ := hx i (by omega)
      obtain ⟨k, f0, _, _⟩ := DataW.trod_int Tryd.underlying3 q3
      obtain ⟨n, f1, _, _⟩ := DataW.trod_int Tryd.underlying3 q4
      simp at f0 f1
      exact ⟨by rw [q1, f0]; rfl, by rw [q2, f1]; rfl⟩
    refine ⟨some a, len, cap, (List.range len).map (fun i => (intOf (V0 i), intOf (V1 i))), rfl, ⟨by simp, ?_⟩, fun h => by simp at h, by omega⟩
    by_cases h0 : len = 0
    · exact .inl h0
    · obtain ⟨b, off, spot⟩ := a
      have hc := (each 0 (by omega)).1
      have hspot : spot = none := by simpa [Addr.add] using World.cell?_spot hc
      subst hspot
      refine .inr ⟨b, off, rfl, fun j hj => ?_⟩
      have hj' : j < len := by simpa using hj
      have hq := each j hj'
      rw [add_plain', add_plain'] at hq
      simpa [Nat.add_assoc] using hq

end Go.Proofs.YtgfjgenkpfdofaaDoor
