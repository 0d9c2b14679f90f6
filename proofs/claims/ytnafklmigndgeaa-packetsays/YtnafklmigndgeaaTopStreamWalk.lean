/-
  'TopStream' returns true at every list of texts, and changes nothing that was there.
-/
import Derived.Test.YtnafklmigndgeaaTopBase
import Derived.ProofKit
import Derived.SliceStrings
namespace Go.Proofs.Ytnafklmigndgeaa
open Go.RowKit Plain
open Go.ChangeShapes Go.WideShapes Go.ChangeAt

abbrev R0 : RState := ([], false, false)
theorem make_ok (s : ByteArray) (w : World) (hs : s.size ≤ 60) : Calls Try.prog 10 #[.string s] w fun e w' => ∃ F : ByteArray, e = .returned (.tuple #[.string F, .nilIface]) ∧ F.size ≤ 126 ∧ allR R0 F.data.toList = ([s.data.toList], 0, R0) ∧ Below w.heap.size w w' := by
  have hsl : s.data.toList.length ≤ 60 := by simpa using hs
  refine (make_yes s w hs).mono ?_
  rintro e w' ⟨rfl, hb⟩
  refine ⟨_, rfl, ?_, ?_, hb⟩
  · show (frameL s.data.toList).toArray.size ≤ 126
    rw [List.size_toArray]
    exact frameL_le _ hsl
  · exact allR_frame _ hsl

/-- A list of texts that came in, as the walks want it. -/
theorem open_texts {H : Type} {enc : TypeId × Value → H} {W : World} {a : Option Addr} {n cap : Nat} {d : DataW H} {ps : List MemPlace}
    (h : DataW.Trod enc Try.prog W 0 (fun _ => true) true 22 (.slice a n cap) d ps) :
    ∃ ss : List ByteArray, Reads W (.slice a n cap) n (ss.map Value.string) ∧ (∀ s ∈ ss, s.size ≤ maxLen) ∧ n ≤ maxLen := by
  obtain ⟨fuel, hf⟩ := h
  rcases open_strings Try.underlying22 Try.underlying9 (by kernel_rfl) hf with ⟨hcs, _⟩ | ⟨x, l, c, ss, hcs, _, hl, hm, hz, _, hcell, hws⟩
  · simp [Value.cells] at hcs
    obtain ⟨rfl, rfl, rfl⟩ := hcs
    exact ⟨[], ⟨rfl, none, 0, rfl, .inl rfl⟩, by simp, by decide⟩
  · simp [Value.cells] at hcs
    obtain ⟨rfl, rfl, rfl⟩ := hcs
    simp at hz
    refine ⟨ss.take n, ⟨by simp; omega, some x, cap, rfl, ?_⟩, fun s hs => hws s (List.mem_of_mem_take hs), by omega⟩
    by_cases h0 : n = 0
    · exact .inl h0
    · obtain ⟨b, off, spot⟩ := x
      have hc := hcell 0 (by omega)
      have hspot : spot = none := by simpa [Addr.add] using World.cell?_spot hc
      subst hspot
      refine .inr ⟨b, off, rfl, fun j u hu => ?_⟩
      have hj : j < n := by
        have := (List.getElem?_eq_some_iff.1 hu).1
        simp at this
        omega
      have h2 := hcell j (by omega)
      rw [add_plain'] at h2
      rw [h2]
      rw [List.getElem?_map, List.getElem?_take, if_pos hj] at hu
      have h3 : ss[j]? = some (ss.getD j ByteArray.empty) := by simp [show j < ss.length by omega]
      rw [h3] at hu
      simpa using hu

namespace topStream
def texts (ss : List ByteArray) : List (List UInt8) := ss.map fun s => s.data.toList
theorem strs_texts (ss : List ByteArray) : strs (texts ss) = ss.map Value.string := by simp [strs, texts]
theorem Reads.below {w w' : World} {v : Value} {n : Nat} {xs : List Value} (h : Reads w v n xs) (hb : Below w.heap.size w w') : Reads w' v n xs := by
  obtain ⟨h1, a, cap, rfl, h2⟩ := h
  refine ⟨h1, a, cap, rfl, ?_⟩
  rcases h2 with h2 | ⟨b, off, rfl, h2⟩
  · exact .inl h2
  · refine .inr ⟨b, off, rfl, fun j u hu => ?_⟩
    have := h2 j u hu
    rw [← this]
    exact hb.cell (World.block_lt_of_cell? w _ this)

set_option maxRecDepth 100000 in
set_option maxHeartbeats 4000000 in
theorem walk (a : Option Addr) (n cap : Nat) (ss : List ByteArray) (w : World) (hv : Reads w (.slice a n cap) n (ss.map Value.string)) (hss : ∀ s ∈ ss, s.size ≤ maxLen) (hn : n ≤ maxLen) :
    Calls Try.prog 6 #[.slice a n cap] w fun e w' => e = .returned (.bool true) ∧ Below w.heap.size w w' := by
  have hz := zero35.1
  unfold maxLen at hn
  have hlen : ss.length = n := by have := hv.1; simpa using this
  go_enter Try.func6, Try.ntmps6
  go_wp2_with (fail)
  refine (make_ok ⟨#[120]⟩ _ (by decide)).mono ?_
  rintro e w1 ⟨F, rfl, hF, hA, hb1⟩
  have s1 : F.size ≤ 100000 := by omega
  go_wp2_with (fail)
  refine (all_one _ R0 R0 _ F _ (rd_new w1) s1 hA).mono ?_
  rintro e w2 ⟨g, cp, rfl, hrow, hg, hR, hg2⟩
  have hw2 : Below w.heap.size w w2 := below_grown (hb1.alloc hb1.size _) hg2 hb1.size
  have hrow' : Row w2 1 (.slice (some ⟨g, 0, none⟩) 1 cp) 1 [.string ⟨#[120]⟩] := hrow
  clear hg2 hR hrow
  go_wp2_with (fail)
  refine (same_one ⟨#[120]⟩ _ _ _ (hrow'.alloc _).reads (one_made w2 ⟨#[120]⟩)).mono ?_
  rintro e w3 ⟨rfl, n3, rfl⟩
  have hw3 : Below w.heap.size w ((w2.alloc (.cells #[.string ⟨#[120]⟩] 9)).drewN n3) := below_drewN (hw2.alloc hw2.size _) n3
  generalize ((w2.alloc (.cells #[.string ⟨#[120]⟩] 9)).drewN n3) = w3 at hw3
  by_cases h12 : (12 : Int) < (n : Int)
  · go_wp2_with (fail)
    go_ret
    exact ⟨rfl, hw3⟩
  · clear hA hF s1 hrow' hg
    go_wp2_with (fail)
    go_loopw [8, 9] (fun t i wr => ∃ (k : Nat) (T : ByteArray), k ≤ n ∧ i = .int .i64 k ∧ t = .string T ∧ T.size ≤ 126 * k ∧ allR R0 T.data.toList = (texts (ss.take k), 0, R0) ∧ Below w.heap.size w wr) (fun _ i _ => n - (intOf i).toNat)
    case atStart => exact ⟨0, ⟨#[]⟩, Nat.zero_le _, rfl, rfl, Nat.le_refl _, rfl, hw3⟩
    case round =>
      obtain ⟨k, T, hk, rfl, rfl, hT, hA, hbr⟩ := hrel
      by_cases hlt : k < n
      · have hr := (Reads.below hv hbr)
        obtain ⟨_, a', cap', he, hcell⟩ := hr
        simp only [Value.slice.injEq] at he
        obtain ⟨rfl, _, rfl⟩ := he
        rcases hcell with hcell | ⟨b, off, rfl, hcell⟩
        · omega
        have hlt2 : k < ss.length := by omega
        have c1 := hcell k (.string ss[k]) (by simp [hlt2])
        have hsz := hss ss[k] (List.getElem_mem _)
        have HN : Hid (texts (ss.take (k + 1)) = texts (ss.take k) ++ [ss[k].data.toList]) := by
          show texts (ss.take (k + 1)) = _
          rw [List.take_succ_eq_append_getElem hlt2]
          unfold texts
          rw [List.map_append]
          rfl
        obtain ⟨S, hS⟩ : ∃ S, S = ss[k] := ⟨_, rfl⟩
        rw [← hS] at c1 hsz HN
        have hlt' : (k : Int) < (n : Int) := by omega
        have HA : Hid _ := hA
        clear hS hcell hA hv hw3
        by_cases h60 : S.size ≤ 60
        · go_wp2_with (fail)
          refine (make_ok S _ h60).mono ?_
          rintro e w4 ⟨G, rfl, hG, hB, hb4⟩
          have hTG : T.size + G.size ≤ 9223372036854775807 := by omega
          have HB : Hid _ := hB
          clear hB
          go_wp2_with (fail)
          go_roundw
          case rel =>
            refine ⟨k + 1, T ++ G, by omega, by go_num, rfl, ?_, ?_, below_chain hbr hb4⟩
            · rw [ByteArray.size_append]; omega
            · have e1 : (T ++ G).data.toList = T.data.toList ++ G.data.toList := by simp
              rw [e1, allR_append, HA.out]
              simp only [HB.out]
              rw [HN.out]
          case measure => simp [intOf]; omega
        · go_wp2_with (fail)
          refine (make_no S _ (by omega) hsz).mono ?_
          rintro e w4 ⟨rfl, rfl⟩
          go_wp2_with (fail)
          go_ret
          exact ⟨rfl, hbr⟩
      · have hkn : ss.take k = ss := List.take_of_length_le (by omega)
        rw [hkn] at hA
        have s2 : T.size ≤ 100000 := by omega
        have hq := fun W b h => all_any b R0 T W h s2
        rw [hA] at hq
        clear hA hT hw3 hkn
        go_wp2_with (fail)
        refine (hq _ _ (rd_new wr)).mono ?_
        rintro e w5 ⟨v, rfl, h1, h2, _, _, h5⟩
        have hw5 : Below w.heap.size w w5 := below_grown (hbr.alloc hbr.size _) h5 hbr.size
        have hl : (texts ss).length = n := by simp [texts, hlen]
        simp only [hl] at h1
        clear hq h5
        go_wp2_with (fail)
        refine (sameTexts_true v _ n (texts ss) _ h1.reads (by rw [strs_texts]; exact Reads.below hv hw5) (by omega)).mono ?_
        rintro e w6 ⟨rfl, n6, rfl⟩
        go_wp2_with (fail)
        go_ret
        exact ⟨rfl, below_drewN hw5 n6⟩
end topStream
end Go.Proofs.Ytnafklmigndgeaa
