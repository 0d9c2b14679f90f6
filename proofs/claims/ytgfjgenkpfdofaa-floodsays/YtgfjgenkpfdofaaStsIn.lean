/-
  States that came in, as the walks want them.
-/
import Derived.Test.YtgfjgenkpfdofaaFloodMap
import Derived.Test.YtgfjgenkpfdofaaStCheckAll
import Derived.Deep.Slices
namespace Go.Proofs.Ytgfjgenkpfdofaa
open Go.RowKit St
open Go.ChangeShapes Go.WideShapes Go.ChangeAt

/-- The slice reads as n states: S how each lies, E its edges. -/
structure StsR (w : World) (a : Option Addr) (n : Nat) (S : Nat → SV) (E : Nat → List Opt) : Prop where
  row : n = 0 ∨ ∃ b off, a = some ⟨b, off, none⟩ ∧ ∀ j, j < n → w.cell? ⟨b, off + j * 3, none⟩ = some (.int .i64 (S j).own) ∧ w.cell? ⟨b, off + j * 3 + 1, none⟩ = some (.int .i64 (S j).seq) ∧ w.cell? ⟨b, off + j * 3 + 2, none⟩ = some (.slice (S j).a (S j).n (S j).cap)
  opt : ∀ j, j < n → OptR w (S j).a (S j).n (E j) ∧ NilOk (S j).a (S j).cap ∧ (S j).n ≤ maxLen
theorem StsR.below {w w' : World} {a : Option Addr} {n : Nat} {S : Nat → SV} {E : Nat → List Opt} (h : StsR w a n S E) (hb : Below w.heap.size w w') : StsR w' a n S E := by
  refine ⟨?_, fun j hj => ⟨(h.opt j hj).1.below hb, (h.opt j hj).2⟩⟩
  rcases h.row with h2 | ⟨b, off, rfl, h2⟩
  · exact .inl h2
  · refine .inr ⟨b, off, rfl, fun j hj => ?_⟩
    obtain ⟨c1, c2, c3⟩ := h2 j hj
    have l := World.block_lt_of_cell? w _ c1
    exact ⟨(hb.cell (p := ⟨b, off + j * 3, none⟩) l).trans c1, (hb.cell (p := ⟨b, off + j * 3 + 1, none⟩) l).trans c2, (hb.cell (p := ⟨b, off + j * 3 + 2, none⟩) l).trans c3⟩
theorem StsR.drewN {w : World} {a : Option Addr} {n : Nat} {S : Nat → SV} {E : Nat → List Opt} (h : StsR w a n S E) (m : Nat) : StsR (w.drewN m) a n S E := h.below (below_drewN (Below.refl _ _) m)

instance : Inhabited SV := ⟨SV.zero⟩
theorem open_edges {H : Type} {enc : TypeId × Value → H} {W : World} {m : Nat} {v : Value} {y : DataW H × List MemPlace}
    (h2 : DataW.trod enc Try.prog W 0 (fun _ => true) true m 33 [v] = some y) :
    ∃ (a : Option Addr) (n cap : Nat) (os : List Opt), v = .slice a n cap ∧ OptR W a n os ∧ NilOk a cap ∧ n ≤ maxLen := by
  rcases Go.Deep.open_slice_pairs Try.underlying33 Try.underlying78 (by kernel_rfl) rfl rfl (by kernel_rfl) (by kernel_rfl) h2 with ⟨hcs, _⟩ | ⟨a, len, cap, m', n', V0, V1, D0, D1, P0, P1, hcs, _, hl, hm, hmm, _, hx⟩
  · simp at hcs
    subst hcs
    exact ⟨none, 0, 0, [], rfl, ⟨rfl, .inl rfl⟩, fun _ => rfl, by decide⟩
  · simp at hcs
    subst hcs
    simp at hmm
    have each : ∀ i, i < len → W.cell? (a.add (i * 2)) = some (.int .i64 (intOf (V0 i))) ∧ W.cell? (a.add (i * 2 + 1)) = some (.int .i64 (intOf (V1 i))) := by
      intro i hi
      obtain ⟨q1, q2, q3, q4⟩ := hx i (by omega)
      obtain ⟨k, f0, _, _⟩ := DataW.trod_int Try.underlying3 q3
      obtain ⟨n, f1, _, _⟩ := DataW.trod_int Try.underlying3 q4
      simp at f0 f1
      exact ⟨by rw [q1, f0]; rfl, by rw [q2, f1]; rfl⟩
    refine ⟨some a, len, cap, (List.range len).map (fun i => (intOf (V0 i), intOf (V1 i))), rfl, ⟨by simp, ?_⟩, fun h => by simp at h, by omega⟩
    by_cases h0 : len = 0
    · exact .inl h0
    · obtain ⟨b, off, spot⟩ := a
      have hc := (each 0 (by omega)).1
      have hspot : spot = none := by simpa [Addr.add] using World.cell?_spot hc
      subst hspot
      refine .inr ⟨b, off, rfl, fun j hj => ?_⟩
      have hj' : j < len := by simpa using hj
      have hq := each j hj'
      rw [add_plain', add_plain'] at hq
      simpa [Nat.add_assoc] using hq

set_option maxRecDepth 100000 in
theorem open_states {H : Type} {enc : TypeId × Value → H} {W : World} {a : Option Addr} {n cap : Nat} {d : DataW H} {ps : List MemPlace}
    (h : DataW.Trod enc Try.prog W 0 (fun _ => true) true 56 (.slice a n cap) d ps) :
    ∃ (S : Nat → SV) (E : Nat → List Opt), StsR W a n S E ∧ n ≤ maxLen := by
  obtain ⟨fuel, hf⟩ := h
  rcases Go.Deep.open_slice Try.underlying56 hf with ⟨hcs, _⟩ | ⟨x, len, cp, m', n', D, Pl, hcs, _, hl, hm, hmm, _, hx⟩
  · simp [Value.cells] at hcs
    obtain ⟨rfl, rfl, rfl⟩ := hcs
    exact ⟨fun _ => SV.zero, fun _ => [], ⟨.inl rfl, fun j hj => by omega⟩, by decide⟩
  · simp [Value.cells] at hcs
    obtain ⟨rfl, rfl, rfl⟩ := hcs
    simp at hmm
    have ce : (Try.prog).cellsOf 35 = 3 := by kernel_rfl
    rw [ce] at hx
    have each : ∀ i, i < n → ∃ q : SV × List Opt, W.cell? (x.add (i * 3)) = some (.int .i64 q.1.own) ∧ W.cell? (x.add (i * 3 + 1)) = some (.int .i64 q.1.seq) ∧ W.cell? (x.add (i * 3 + 2)) = some (.slice q.1.a q.1.n q.1.cap) ∧
        OptR W q.1.a q.1.n q.2 ∧ NilOk q.1.a q.1.cap ∧ q.1.n ≤ maxLen := by
      intro i hi
      obtain ⟨cs', h1, h2⟩ := hx i (by omega)
      obtain ⟨_, hlen, hcell⟩ := World.cells?_some h1
      obtain ⟨xs, k, hk, hxy, _, hxl, hff⟩ := DataW.trod_struct Try.underlying35 h2
      match xs, hxl, cs', hlen with
      | [y0, y1, y2], _, [v0, v1, v2], _ =>
        have g0 := hff 0 _ rfl
        have g1 := hff 1 _ rfl
        have g2 := hff 2 _ rfl
        have ci : (Try.prog).cellsOf 3 = 1 := by kernel_rfl
        have cs : (Try.prog).cellsOf 33 = 1 := by kernel_rfl
        simp [ci, cs] at g0 g1 g2
        obtain ⟨o, f0, _, _⟩ := DataW.trod_int Try.underlying3 g0
        obtain ⟨q, f1, _, _⟩ := DataW.trod_int Try.underlying3 g1
        obtain ⟨ea, en, ec, es, f2, eo, ez, em⟩ := open_edges g2
        simp at f0 f1
        subst f0 f1 f2
        have e0 := hcell 0 (by omega)
        have e1 := hcell 1 (by omega)
        have e2 := hcell 2 (by omega)
        rw [Go.Deep.add_add] at e0 e1 e2
        exact ⟨(⟨o, q, ea, en, ec⟩, es), by simpa using e0, by simpa using e1, by simpa using e2, eo, ez, em⟩
    obtain ⟨q, hq⟩ := Go.Deep.choose_lt each
    refine ⟨fun i => (q i).1, fun i => (q i).2, ⟨?_, fun j hj => (hq j hj).2.2.2⟩, by omega⟩
    by_cases h0 : n = 0
    · exact .inl h0
    · obtain ⟨b, off, spot⟩ := x
      have hc := (hq 0 (by omega)).1
      have hspot : spot = none := by simpa [Addr.add] using World.cell?_spot hc
      subst hspot
      refine .inr ⟨b, off, rfl, fun j hj => ?_⟩
      obtain ⟨c1, c2, c3, _⟩ := hq j hj
      rw [add_plain'] at c1 c2 c3
      exact ⟨c1, by simpa [Nat.add_assoc] using c2, by simpa [Nat.add_assoc] using c3⟩
end Go.Proofs.Ytgfjgenkpfdofaa
