/-
  The document's lists of states tell just what is known, or owed, by rising owners.
-/
import Derived.Test.YtgfjgenkpfdofaaFloodTies
namespace Go.Proofs.Ytgfjgenkpfdofaa
open Go.RowKit St

theorem lstQ_mem (KS : Nat → SV) (sel : Nat → Bool) : ∀ m s, s ∈ lstQ KS sel m ↔ ∃ k, 1 ≤ k ∧ k < m ∧ sel k = true ∧ s = KS k
  | 0, s => by simp [lstQ]
  | m + 1, s => by
    have ih := lstQ_mem KS sel m s
    simp only [lstQ]
    split
    · rename_i hc
      rw [List.mem_append, ih]
      constructor
      · rintro (⟨k, h1, h2, h3, h4⟩ | h1)
        · exact ⟨k, h1, by omega, h3, h4⟩
        · exact ⟨m, hc.1, by omega, hc.2, by simpa using h1⟩
      · rintro ⟨k, h1, h2, h3, h4⟩
        by_cases e : k = m
        · subst e
          exact .inr (by simp [h4])
        · exact .inl ⟨k, h1, by omega, h3, h4⟩
    · rename_i hc
      rw [ih]
      constructor
      · rintro ⟨k, h1, h2, h3, h4⟩
        exact ⟨k, h1, by omega, h3, h4⟩
      · rintro ⟨k, h1, h2, h3, h4⟩
        by_cases e : k = m
        · subst e
          exact absurd ⟨h1, h3⟩ hc
        · exact ⟨k, h1, by omega, h3, h4⟩
theorem lstQ_ris (KS : Nat → SV) (sel : Nat → Bool) (h : ∀ k, 1 ≤ k → k ≤ 6 → sel k = true → (KS k).own = k) : ∀ m, m ≤ 7 → (lstQ KS sel m).Pairwise (fun x y => x.own < y.own)
  | 0, _ => List.Pairwise.nil
  | m + 1, hm => by
    have ih := lstQ_ris KS sel h m (by omega)
    simp only [lstQ]
    split
    · rename_i hc
      rw [List.pairwise_append]
      refine ⟨ih, List.pairwise_singleton _ _, fun a ha b hb => ?_⟩
      obtain ⟨k, k1, k2, k3, rfl⟩ := (lstQ_mem KS sel m a).1 ha
      have hbm : b = KS m := by simpa using hb
      subst hbm
      rw [h k k1 (by omega) k3, h m hc.1 (by omega) hc.2]
      omega
    · exact ih
/-- A list of the document's base, plainly. -/
theorem doc_lists {w w' : World} {K F : Int → Option PS} {KS : Nat → SV} {sel : Nat → Bool} {a : Option Addr} {cap : Nat} (ht : TieR w K KS) (hb : Below w.heap.size w w') (hrow : Row w' 3 (.slice a (lstQ KS sel 7).length cap) (lstQ KS sel 7).length (svC (lstQ KS sel 7)))
    (hF : ∀ n : Nat, 1 ≤ n → n ≤ 6 → F n = cond (sel n) (K n) none) (hs : ∀ n : Nat, 1 ≤ n → n ≤ 6 → sel n = true → (K n).isSome = true) (hout : ∀ k, inR k → (k < 1 ∨ 6 < k) → F k = none) :
    StsR w' a (lstQ KS sel 7).length (fun j => (lstQ KS sel 7).getD j SV.zero) (fun j => esOf K ((lstQ KS sel 7).getD j SV.zero).own) ∧ Lists F (lstQ KS sel 7).length (fun j => (lstQ KS sel 7).getD j SV.zero) (fun j => esOf K ((lstQ KS sel 7).getD j SV.zero).own) ∧ (lstQ KS sel 7).length ≤ 7 := by
  have hlen := lstQ_length KS sel 7
  have hown : ∀ k, 1 ≤ k → k ≤ 6 → sel k = true → (KS k).own = k := fun k k1 k6 ks => by
    obtain ⟨q, hq⟩ := Option.isSome_iff_exists.1 (hs k k1 k6 ks)
    exact (ht.some k1 k6 hq).1
  have hris := lstQ_ris KS sel hown 7 (Nat.le_refl _)
  have hmem := lstQ_mem KS sel 7
  generalize lstQ KS sel 7 = L at hrow hlen hris hmem ⊢
  have hat : ∀ j, j < L.length → ∃ k : Nat, ∃ q : PS, 1 ≤ k ∧ k ≤ 6 ∧ sel k = true ∧ L.getD j SV.zero = KS k ∧ K k = some q := fun j hj => by
    obtain ⟨k, k1, k7, ks, ke⟩ := (hmem _).1 (List.mem_of_getElem? (svGet L j hj))
    obtain ⟨q, hq⟩ := Option.isSome_iff_exists.1 (hs k k1 (by omega) ks)
    exact ⟨k, q, k1, by omega, ks, ke, hq⟩
  refine ⟨⟨?_, fun j hj => ?_⟩, ⟨fun j hj => ?_, fun j hj => ?_, fun k hk hsome => ?_, fun i j hij hj => ?_⟩, hlen⟩
  · rcases hrow.2 with ⟨e, e2⟩ | ⟨g, cap', e, _⟩
    · exact .inl e2
    · cases e
      refine .inr ⟨g, 0, rfl, fun j hj => ?_⟩
      obtain ⟨c0, c1, c2⟩ := svC_get L j _ (svGet L j hj)
      rw [show 0 + j * 3 = j * 3 by omega]
      exact ⟨Row.cell hrow _ _ c0, Row.cell hrow _ _ c1, Row.cell hrow _ _ c2⟩
  · obtain ⟨k, q, k1, k6, ks, ke, hq⟩ := hat j hj
    obtain ⟨t1, t2, t3, t4, t5⟩ := ht.some k1 k6 hq
    have e : esOf K (KS k).own = q.2 := by rw [t1]; simp [esOf, hq]
    rw [ke, e]
    refine ⟨t3.below hb, t4, ?_⟩
    have := (stF_zero t5).2.2.1
    have := t3.1
    unfold maxLen
    omega
  · obtain ⟨k, q, k1, k6, ks, ke, hq⟩ := hat j hj
    obtain ⟨t1, t2, t3, t4, t5⟩ := ht.some k1 k6 hq
    rw [ke, t1, t2]
    refine ⟨by unfold inR; omega, ?_⟩
    rw [hF k k1 k6, ks, hq]
    simp [esOf, hq]
  · obtain ⟨k, q, k1, k6, ks, ke, hq⟩ := hat j hj
    obtain ⟨t1, t2, t3, t4, t5⟩ := ht.some k1 k6 hq
    have e : esOf K k = q.2 := by simp [esOf, hq]
    rw [ke, t1, t2, e]
    exact t5
  · by_cases hin : k < 1 ∨ 6 < k
    · rw [hout k hk hin] at hsome
      cases hsome
    · obtain ⟨n, rfl⟩ : ∃ n : Nat, k = (n : Int) := ⟨k.toNat, by omega⟩
      have h9 := hF n (by omega) (by omega)
      cases hsn : sel n with
      | false => rw [hsn] at h9; rw [h9] at hsome; cases hsome
      | true =>
        obtain ⟨j, hj, e⟩ := List.getElem_of_mem ((hmem (KS n)).2 ⟨n, by omega, by omega, hsn, rfl⟩)
        refine ⟨j, hj, ?_⟩
        have e1 : L.getD j SV.zero = L[j] := by rw [List.getD_eq_getElem?_getD, List.getElem?_eq_getElem hj]; rfl
        rw [e1, e]
        exact hown n (by omega) (by omega) hsn
  · have hi : i < L.length := by omega
    have h9 := List.pairwise_iff_getElem.1 hris i j hi hj hij
    have e1 : L.getD i SV.zero = L[i] := by rw [List.getD_eq_getElem?_getD, List.getElem?_eq_getElem hi]; rfl
    have e2 : L.getD j SV.zero = L[j] := by rw [List.getD_eq_getElem?_getD, List.getElem?_eq_getElem hj]; rfl
    rw [e1, e2]
    exact h9
end Go.Proofs.Ytgfjgenkpfdofaa
