/-
  'TopRefuse', whole; numbers that came in.
-/
import Derived.Test.YtakckdeadchflabRefuseWalk
import Derived.Test.YtakckdeadchflabOpenOpt
namespace Go.Proofs.Ytakckdeadchflab
open Go.RowKit

/-- Numbers that came in, as the walks want them. -/
theorem open_nums {H : Type} {enc : TypeId × Value → H} {W : World} {a : Option Addr} {n cap : Nat} {d : DataW H} {ps : List MemPlace}
    (h : DataW.Trod enc Try.prog W 0 (fun _ => true) true 22 (.slice a n cap) d ps) :
    ∃ xs : List Int, IntsR W a n xs ∧ n ≤ maxLen := by
  obtain ⟨fuel, hf⟩ := h
  rcases Go.ChangeShapes.open_ints Try.underlying22 Try.underlying3 (by kernel_rfl) hf with ⟨hcs, _⟩ | ⟨x, l, c, zs, hcs, _, hl, hm, hz, _, hcell, _⟩
  · simp [Value.cells] at hcs
    obtain ⟨rfl, rfl, rfl⟩ := hcs
    exact ⟨[], ⟨rfl, .inl rfl⟩, by decide⟩
  · simp [Value.cells] at hcs
    obtain ⟨rfl, rfl, rfl⟩ := hcs
    simp at hz
    refine ⟨zs.take n, ⟨by simp; omega, ?_⟩, by omega⟩
    by_cases h0 : n = 0
    · exact .inl h0
    · obtain ⟨b, off, spot⟩ := x
      have hc := hcell 0 (by omega)
      have hspot : spot = none := by simpa [Addr.add] using World.cell?_spot hc
      subst hspot
      refine .inr ⟨b, off, rfl, fun j hj => ?_⟩
      have hj' : j < n := by simp at hj; omega
      have h2 := hcell j (by omega)
      rw [add_plain'] at h2
      rw [h2]
      simp [List.getD_eq_getElem?_getD, List.getElem?_eq_getElem (show j < zs.length by omega)]


namespace topRefuse
theorem walk (a b : Int) (ca : Option Addr) (nc cc : Nat) (cs : List Int) (la : Option Addr) (nl lc : Nat) (os : List Opt) (w : World) (hc : IntsR w ca nc cs) (ho : OptR w la nl os) (hnc : nc ≤ maxLen) (hnl : nl ≤ maxLen) :
    Calls Try.prog 3 #[.int .i64 a, .int .i64 b, .slice ca nc cc, .slice la nl lc] w fun e w' => e = .returned (.bool true) ∧ Below w.heap.size w w' := by
  by_cases h : a < 40 ∨ 255 < a ∨ b < 1 ∨ 255 < b
  · exact walk_gen a b 0 0 _ ca nc cc cs la nl lc os w hc ho hnc hnl (fun V => new_out a b V h) (.inr rfl)
  · exact walk_gen a b a b _ ca nc cc cs la nl lc os w hc ho hnc hnl (fun V => new_in a b V (by omega) (by omega) (by omega) (by omega)) (.inl ⟨rfl, by unfold Fine; omega⟩)
end topRefuse
end Go.Proofs.Ytakckdeadchflab
