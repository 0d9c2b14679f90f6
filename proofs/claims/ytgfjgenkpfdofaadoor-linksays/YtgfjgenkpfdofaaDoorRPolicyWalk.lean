/-
  The document's policy: Asks and Judge.
-/
import Derived.Test.YtgfjgenkpfdofaaDoorPolicyWalk3
namespace Go.Proofs.YtgfjgenkpfdofaaDoor
open Go.RowKit

set_option maxRecDepth 100000 in
set_option maxHeartbeats 2000000 in
theorem rasks_any (sz mg : Int) (w : World) : Calls Tryd.prog 35 #[.agg #[.int .i64 sz, .int .i64 mg]] w fun e w' => ∃ v, e = .returned v ∧ Made w w' v (asksL sz mg) := by
  obtain ⟨i0, hi, hz0, hz1, hz2⟩ := info_parts infoOpt
  have hw0 : Below w.heap.size w (w.alloc (.cells #[.int .i64 sz, .int .i64 mg] 45)) := below_alloc _ _
  have hA := fun j => World.cell?_alloc_mark w #[.int .i64 sz, .int .i64 mg] 45 (0, 0) j
  by_cases h1 : 0 < sz
  · by_cases h2 : 0 < mg
    · have hL : asksL sz mg = [(1, sz)] ++ [(5, mg)] := by simp [asksL, h1, h2]
      rw [hL]
      go_enter Tryd.func35, Tryd.ntmps35
      go_wp2_with (at_builtin; go_must (refine wpList_append_row _ rfl (.tmp 7) (.tmp 11) 34 rfl 69 i0 (.agg #[.int .i64 0, .int .i64 0]) 2 16 Tryd.underlying34 hi hz0 hz1 hz2 rfl (by decide) (.slice none 0 0) 0 (optCells []) rfl (Row.nil _ 2) _ 1 1 [.int .i64 1, .int .i64 sz] rfl rfl (by decide) (cells_twoN _ _ _ _ _ (by simp)) (one_ints _ _ _ _) (by decide) (by decide) ?_))
      intro g1 cap1 w1 hr1 hg1 hown1
      have hb1 := grow_below (hw0.alloc hw0.size _) hg1 (fun j hj => own_none hj)
      have hn1 := grow_new (B := w.heap.size) hown1 (by omega) (fun j hj => own_none hj)
      have hm1 : w1.cell? ⟨w.heap.size, 1, none⟩ = some (.int .i64 mg) := by
        exact grown_cell hg1 (by simp [Value.ownBlock]) (((below_alloc _ _).cell (p := ⟨w.heap.size, 1, none⟩) (by simp)).trans (hA 1))
      have hl1 : w.heap.size < w1.heap.size := World.block_lt_of_cell? w1 _ hm1
      rw [show ([] : List Opt) = [] from rfl] at hr1
      have hr1' : Row w1 2 (.slice (some ⟨g1, 0, none⟩) 1 cap1) 1 (optCells [(1, sz)]) := hr1
      clear hg1 hown1 hr1
      go_wp2_with (at_builtin; go_must (refine wpList_append_row _ rfl (.tmp 16) (.tmp 20) 34 rfl 69 i0 (.agg #[.int .i64 0, .int .i64 0]) 2 16 Tryd.underlying34 hi hz0 hz1 hz2 rfl (by decide) (.slice (some ⟨g1, 0, none⟩) 1 cap1) 1 (optCells [(1, sz)]) rfl (hr1'.alloc _) _ 1 1 [.int .i64 5, .int .i64 mg] rfl rfl (by decide) (cells_twoN _ _ _ _ _ (by simp)) (one_ints _ _ _ _) (by decide) (by decide) ?_))
      intro g2 cap2 w2 hr2 hg2 hown2
      have hb2 := grow_below (hb1.alloc hb1.size _) hg2 (fun j hj => own_some hn1 hj)
      have hn2 := grow_new (B := w.heap.size) hown2 (by have := hb1.size; omega) (fun j hj => own_some hn1 hj)
      clear hg2 hown2
      go_wp2_with (fail)
      go_ret
      exact ⟨_, rfl, ⟨hr2, fun j hj => own_some hn2 hj, hb2⟩⟩
    · have hL : asksL sz mg = [(1, sz)] := by simp [asksL, h1, h2]
      rw [hL]
      go_enter Tryd.func35, Tryd.ntmps35
      go_wp2_with (at_builtin; go_must (refine wpList_append_row _ rfl (.tmp 7) (.tmp 11) 34 rfl 69 i0 (.agg #[.int .i64 0, .int .i64 0]) 2 16 Tryd.underlying34 hi hz0 hz1 hz2 rfl (by decide) (.slice none 0 0) 0 (optCells []) rfl (Row.nil _ 2) _ 1 1 [.int .i64 1, .int .i64 sz] rfl rfl (by decide) (cells_twoN _ _ _ _ _ (by simp)) (one_ints _ _ _ _) (by decide) (by decide) ?_))
      intro g1 cap1 w1 hr1 hg1 hown1
      have hb1 := grow_below (hw0.alloc hw0.size _) hg1 (fun j hj => own_none hj)
      have hn1 := grow_new (B := w.heap.size) hown1 (by omega) (fun j hj => own_none hj)
      have hm1 : w1.cell? ⟨w.heap.size, 1, none⟩ = some (.int .i64 mg) := by
        exact grown_cell hg1 (by simp [Value.ownBlock]) (((below_alloc _ _).cell (p := ⟨w.heap.size, 1, none⟩) (by simp)).trans (hA 1))
      have hl1 : w.heap.size < w1.heap.size := World.block_lt_of_cell? w1 _ hm1
      clear hg1 hown1
      go_wp2_with (fail)
      go_ret
      exact ⟨_, rfl, ⟨hr1, fun j hj => own_some hn1 hj, hb1⟩⟩
  · by_cases h2 : 0 < mg
    · have hL : asksL sz mg = [(5, mg)] := by simp [asksL, h1, h2]
      rw [hL]
      go_enter Tryd.func35, Tryd.ntmps35
      go_wp2_with (at_builtin; go_must (refine wpList_append_row _ rfl (.tmp 16) (.tmp 20) 34 rfl 69 i0 (.agg #[.int .i64 0, .int .i64 0]) 2 16 Tryd.underlying34 hi hz0 hz1 hz2 rfl (by decide) (.slice none 0 0) 0 (optCells []) rfl (Row.nil _ 2) _ 1 1 [.int .i64 5, .int .i64 mg] rfl rfl (by decide) (cells_twoN _ _ _ _ _ (by simp)) (one_ints _ _ _ _) (by decide) (by decide) ?_))
      intro g1 cap1 w1 hr1 hg1 hown1
      have hb1 := grow_below (hw0.alloc hw0.size _) hg1 (fun j hj => own_none hj)
      have hn1 := grow_new (B := w.heap.size) hown1 (by omega) (fun j hj => own_none hj)
      clear hg1 hown1
      go_wp2_with (fail)
      go_ret
      exact ⟨_, rfl, ⟨hr1, fun j hj => own_some hn1 hj, hb1⟩⟩
    · have hL : asksL sz mg = [] := by simp [asksL, h1, h2]
      rw [hL]
      go_enter Tryd.func35, Tryd.ntmps35
      go_wp2_with (fail)
      go_ret
      exact ⟨_, rfl, ⟨Row.nil _ 2, fun j hj => own_none hj, hw0⟩⟩


set_option maxRecDepth 100000 in
set_option maxHeartbeats 4000000 in
theorem rjudge_far (sz mg : Int) (a : Option Addr) (n cap : Nat) (os : List Opt) (w : World) (hmg : 0 ≤ mg) (hmg2 : mg ≤ 255) (hn : n ≤ 1000000) (ho : OptR w a n os) :
    Calls Tryd.prog 28 #[.agg #[.int .i64 sz, .int .i64 mg], .slice a n cap] w fun e w' => ∃ (a' : Option Addr) (n' cap' : Nat), e = .returned (.tuple #[.int .i64 (judgeR mg os).1, .slice a' n' cap']) ∧ OptR w' a' n' (judgeR mg os).2 ∧ Below w.heap.size w w' ∧ (∀ k, optOwn a' n' = some k → w.heap.size ≤ k ∧ k < w'.heap.size ∨ optOwn a n = some k) := by
  obtain ⟨i0, hi, hz0, hz1, hz2⟩ := info_parts infoOpt
  have hw0 : Below w.heap.size w (w.alloc (.cells #[.int .i64 sz, .int .i64 mg] 45)) := below_alloc _ _
  have hA0 := fun j => World.cell?_alloc_mark w #[.int .i64 sz, .int .i64 mg] 45 (0, 0) j
  go_enter Tryd.func28, Tryd.ntmps28
  go_wp2_with (fail)
  go_loopw [6, 7, 8] (fun no ot i wr => ∃ (k : Nat) (ao : Option Addr) (m1 c1 : Nat) (bo : Option Addr) (m2 c2 : Nat), k ≤ n ∧ no = .slice ao m1 c1 ∧ ot = .slice bo m2 c2 ∧ i = .int .i64 k ∧ m1 ≤ k ∧ m2 ≤ k ∧ Row wr 2 (.slice ao m1 c1) m1 (optCells (unkL (os.take k))) ∧ Row wr 2 (.slice bo m2 c2) m2 (optCells (betL mg (os.take k))) ∧
      (∀ j, Value.ownBlock (.slice ao m1 c1) = some j → w.heap.size + 1 ≤ j) ∧ (∀ j, Value.ownBlock (.slice bo m2 c2) = some j → w.heap.size + 1 ≤ j) ∧ (∀ j, Value.ownBlock (.slice ao m1 c1) = some j → Value.ownBlock (.slice bo m2 c2) ≠ some j) ∧ wr.cell? ⟨w.heap.size, 1, none⟩ = some (.int .i64 mg) ∧ Below w.heap.size w wr) (fun _ _ i _ => n - (intOf i).toNat)
  case atStart => exact ⟨0, none, 0, 0, none, 0, 0, Nat.zero_le _, rfl, rfl, rfl, Nat.le_refl _, Nat.le_refl _, by simpa [unkL, optCells] using Row.nil _ 2, by simpa [betL, optCells] using Row.nil _ 2, fun j hj => own_none hj, fun j hj => own_none hj, fun j hj => by simp [Value.ownBlock] at hj, hA0 1, hw0⟩
  case round =>
    obtain ⟨k, ao, m1, c1, bo, m2, c2, hk, rfl, rfl, rfl, hm1, hm2, hA, hB, nA, nB, hap, hmc, hbel⟩ := hrel
    have hl1 : w.heap.size < wr.heap.size := World.block_lt_of_cell? wr _ hmc
    by_cases hlt : k < n
    · have hor := ho.below hbel
      rcases hor.2 with h0 | ⟨b, off, rfl, hc⟩
      · omega
      have hlo : k < os.length := by rw [ho.1]; exact hlt
      obtain ⟨e1, e2⟩ := hc k hlo
      have HT : Hid (os.take (k + 1) = os.take k ++ [os[k]]) := List.take_succ_eq_append_getElem hlo
      have HT2 : Hid (betL mg (os.take (k + 1)) = betL mg (os.take k) ++ bet1 mg os[k]) := by
        show _ = _
        rw [List.take_succ_eq_append_getElem hlo, betL, List.flatMap_append, List.flatMap_cons, List.flatMap_nil, List.append_nil]
        rfl
      generalize os[k] = o at e1 e2 HT HT2
      clear hc
      have hlt' : (k : Int) < (n : Int) := by omega
      have hb1 := hbel.alloc hbel.size (.cells #[.int .i64 o.1, .int .i64 o.2] 69)
      have hmc' : (wr.alloc (.cells #[.int .i64 o.1, .int .i64 o.2] 69)).cell? ⟨w.heap.size, 1, none⟩ = some (.int .i64 mg) := ((below_alloc _ _).cell (p := ⟨w.heap.size, 1, none⟩) hl1).trans hmc
      cases q1 : (o.1 == 1)
      · have p1 : (o.1 != 1) = true := by simp [bne, q1]
        cases q5 : (o.1 == 5)
        · have p5 : (o.1 != 5) = true := by simp [bne, q5]
          have HU : Hid (unkL (os.take (k + 1)) = unkL (os.take k) ++ [o]) := by
            show _ = _
            rw [HT.out, unkL, List.filter_append]
            simp [isUnk, q1, q5]
            rfl
          have HV : Hid (betL mg (os.take (k + 1)) = betL mg (os.take k)) := by
            show _ = _
            rw [HT2.out, show bet1 mg o = [] by simp at q1 q5; simp [bet1, q1, q5]]
            rw [List.append_nil]
          go_wp2_with (at_builtin; go_must (refine wpList_append_row _ rfl (.tmp 28) (.tmp 30) 34 rfl 69 i0 (.agg #[.int .i64 0, .int .i64 0]) 2 16 Tryd.underlying34 hi hz0 hz1 hz2 rfl (by decide) (.slice ao m1 c1) m1 (optCells (unkL (os.take k))) rfl ((hA.alloc _).alloc _) _ 1 1 [.int .i64 o.1, .int .i64 o.2] rfl rfl (by decide) (cells_twoN _ _ _ _ _ (by simp)) (one_ints _ _ _ _) (by unfold maxLen; omega) (by omega) ?_))
          intro g' cap' w1 hr1 hg1 hown1
          have hb2 := grow_below (hb1.alloc hb1.size _) hg1 (fun j hj => by have := nA j hj; omega)
          have hn1 := grow_new (B := w.heap.size + 1) hown1 (by omega) nA
          have hmc2 : w1.cell? ⟨w.heap.size, 1, none⟩ = some (.int .i64 mg) := grown_cell hg1 (fun e => by have := nA _ e; omega) (((below_alloc _ _).cell (p := ⟨w.heap.size, 1, none⟩) (by simp; omega)).trans hmc')
          have hl2 : w.heap.size < w1.heap.size := World.block_lt_of_cell? w1 _ hmc2
          have hcs : ∀ j, j < 2 → w1.cell? ⟨wr.heap.size, j, none⟩ = (wr.alloc (.cells #[.int .i64 o.1, .int .i64 o.2] 69)).cell? ⟨wr.heap.size, j, none⟩ := fun j _ => by
            have e1 := World.cell?_of_block (a := ⟨wr.heap.size, j, none⟩) (hg1.block wr.heap.size (by simp; omega) (fun e => by have := hA.lt _ e.symm; omega))
            exact e1.trans ((below_alloc _ _).cell (p := ⟨wr.heap.size, j, none⟩) (by simp))
          have d0 := (hcs 0 (by decide)).trans (World.cell?_alloc_mark wr #[.int .i64 o.1, .int .i64 o.2] 69 (0, 0) 0)
          have d1 := (hcs 1 (by decide)).trans (World.cell?_alloc_mark wr #[.int .i64 o.1, .int .i64 o.2] 69 (0, 0) 1)
          have hl3 : wr.heap.size < w1.heap.size := World.block_lt_of_cell? w1 _ d0
          have hr2 : Row w1 2 (.slice (some ⟨g', 0, none⟩) (m1 + 1) cap') (m1 + 1) (optCells (unkL (os.take (k + 1)))) := by
            rw [HU.out, optCells_snoc]
            exact hr1
          have hB2 : Row w1 2 (.slice bo m2 c2) m2 (optCells (betL mg (os.take (k + 1)))) := by
            rw [HV.out]
            exact ((hB.alloc _).alloc _).kept hg1 (fun j hj e => hap j e hj)
          have hap2 : ∀ j, Value.ownBlock (.slice (some ⟨g', 0, none⟩) (m1 + 1) cap') = some j → Value.ownBlock (.slice bo m2 c2) ≠ some j := by
            intro j hj hj2
            have hgj : g' = j := by simpa [Value.ownBlock] using hj
            subst hgj
            rcases hown1 with h | h
            · exact hap _ h hj2
            · have := hB.lt _ hj2; omega
          clear hg1 hown1 hr1 hcs
          go_wp2_with (fail)
          go_roundw
          case rel => exact ⟨k + 1, _, m1 + 1, cap', _, m2, c2, by omega, rfl, rfl, by go_num, by omega, by omega, hr2, hB2, fun j hj => own_some hn1 hj, nB, hap2, hmc2, hb2⟩
          case measure => simp [intOf]; omega
        · have p5 : (o.1 != 5) = false := by simp [bne, q5]
          cases q6 : (o.2 == 0)
          · cases q7 : (o.2 == mg)
            · have HU : Hid (unkL (os.take (k + 1)) = unkL (os.take k)) := by
                show _ = _
                rw [HT.out, unkL, List.filter_append]
                simp [isUnk, q1, q5]
                rfl
              have HV : Hid (betL mg (os.take (k + 1)) = betL mg (os.take k)) := by
                show _ = _
                rw [HT2.out, show bet1 mg o = [] by simp at q1 q5 q6 q7; simp [bet1, q5, q6, q7]]
                rw [List.append_nil]
              have hA2 : Row (wr.alloc (.cells #[.int .i64 o.1, .int .i64 o.2] 69)) 2 (.slice ao m1 c1) m1 (optCells (unkL (os.take (k + 1)))) := by rw [HU.out]; exact hA.alloc _
              have hB2 : Row (wr.alloc (.cells #[.int .i64 o.1, .int .i64 o.2] 69)) 2 (.slice bo m2 c2) m2 (optCells (betL mg (os.take (k + 1)))) := by rw [HV.out]; exact hB.alloc _
              go_wp2_with (fail)
              go_roundw
              case rel => exact ⟨k + 1, _, m1, c1, _, m2, c2, by omega, rfl, rfl, by go_num, by omega, by omega, hA2, hB2, nA, nB, hap, hmc', hb1⟩
              case measure => simp [intOf]; omega
            · have HU : Hid (unkL (os.take (k + 1)) = unkL (os.take k)) := by
                show _ = _
                rw [HT.out, unkL, List.filter_append]
                simp [isUnk, q1, q5]
                rfl
              have HV : Hid (betL mg (os.take (k + 1)) = betL mg (os.take k) ++ [(5, mg % 255 + 1)]) := by
                show _ = _
                rw [HT2.out, show bet1 mg o = [(5, mg % 255 + 1)] by simp at q1 q5 q6 q7; simp [bet1, q5, q7]]

              go_wp2_with (at_builtin; go_must (refine wpList_append_row _ rfl (.tmp 59) (.tmp 65) 34 rfl 69 i0 (.agg #[.int .i64 0, .int .i64 0]) 2 16 Tryd.underlying34 hi hz0 hz1 hz2 rfl (by decide) (.slice bo m2 c2) m2 (optCells (betL mg (os.take k))) rfl ((hB.alloc _).alloc _) _ 1 1 [.int .i64 5, .int .i64 (mg % 255 + 1)] rfl rfl (by decide) (cells_twoN _ _ _ _ _ (by simp)) (one_ints _ _ _ _) (by unfold maxLen; omega) (by omega) ?_))
              intro g' cap' w1 hr1 hg1 hown1
              have hb2 := grow_below (hb1.alloc hb1.size _) hg1 (fun j hj => by have := nB j hj; omega)
              have hn1 := grow_new (B := w.heap.size + 1) hown1 (by omega) nB
              have hmc2 : w1.cell? ⟨w.heap.size, 1, none⟩ = some (.int .i64 mg) := grown_cell hg1 (fun e => by have := nB _ e; omega) (((below_alloc _ _).cell (p := ⟨w.heap.size, 1, none⟩) (by simp; omega)).trans hmc')
              have hl2 : w.heap.size < w1.heap.size := World.block_lt_of_cell? w1 _ hmc2
              have hcs : ∀ j, j < 2 → w1.cell? ⟨wr.heap.size, j, none⟩ = (wr.alloc (.cells #[.int .i64 o.1, .int .i64 o.2] 69)).cell? ⟨wr.heap.size, j, none⟩ := fun j _ => by
                have e1 := World.cell?_of_block (a := ⟨wr.heap.size, j, none⟩) (hg1.block wr.heap.size (by simp; omega) (fun e => by have := hB.lt _ e.symm; omega))
                exact e1.trans ((below_alloc _ _).cell (p := ⟨wr.heap.size, j, none⟩) (by simp))
              have d0 := (hcs 0 (by decide)).trans (World.cell?_alloc_mark wr #[.int .i64 o.1, .int .i64 o.2] 69 (0, 0) 0)
              have d1 := (hcs 1 (by decide)).trans (World.cell?_alloc_mark wr #[.int .i64 o.1, .int .i64 o.2] 69 (0, 0) 1)
              have hl3 : wr.heap.size < w1.heap.size := World.block_lt_of_cell? w1 _ d0
              have hr2 : Row w1 2 (.slice (some ⟨g', 0, none⟩) (m2 + 1) cap') (m2 + 1) (optCells (betL mg (os.take (k + 1)))) := by
                rw [HV.out, optCells_snoc]
                exact hr1
              have hA2 : Row w1 2 (.slice ao m1 c1) m1 (optCells (unkL (os.take (k + 1)))) := by
                rw [HU.out]
                exact ((hA.alloc _).alloc _).kept hg1 (fun j hj e => hap j hj e)
              have hap2 : ∀ j, Value.ownBlock (.slice ao m1 c1) = some j → Value.ownBlock (.slice (some ⟨g', 0, none⟩) (m2 + 1) cap') ≠ some j := by
                intro j hj2 hj
                have hgj : g' = j := by simpa [Value.ownBlock] using hj
                subst hgj
                rcases hown1 with h | h
                · exact hap _ hj2 h
                · have := hA.lt _ hj2; omega
              clear hg1 hown1 hr1 hcs
              go_wp2_with (fail)
              go_roundw
              case rel => exact ⟨k + 1, _, m1, c1, _, m2 + 1, cap', by omega, rfl, rfl, by go_num, by omega, by omega, hA2, hr2, nA, fun j hj => own_some hn1 hj, hap2, hmc2, hb2⟩
              case measure => simp [intOf]; omega
          · have HU : Hid (unkL (os.take (k + 1)) = unkL (os.take k)) := by
              show _ = _
              rw [HT.out, unkL, List.filter_append]
              simp [isUnk, q1, q5]
              rfl
            have HV : Hid (betL mg (os.take (k + 1)) = betL mg (os.take k) ++ [(5, mg % 255 + 1)]) := by
              show _ = _
              rw [HT2.out, show bet1 mg o = [(5, mg % 255 + 1)] by simp at q1 q5 q6; simp [bet1, q5, q6]]

            go_wp2_with (at_builtin; go_must (refine wpList_append_row _ rfl (.tmp 59) (.tmp 65) 34 rfl 69 i0 (.agg #[.int .i64 0, .int .i64 0]) 2 16 Tryd.underlying34 hi hz0 hz1 hz2 rfl (by decide) (.slice bo m2 c2) m2 (optCells (betL mg (os.take k))) rfl ((hB.alloc _).alloc _) _ 1 1 [.int .i64 5, .int .i64 (mg % 255 + 1)] rfl rfl (by decide) (cells_twoN _ _ _ _ _ (by simp)) (one_ints _ _ _ _) (by unfold maxLen; omega) (by omega) ?_))
            intro g' cap' w1 hr1 hg1 hown1
            have hb2 := grow_below (hb1.alloc hb1.size _) hg1 (fun j hj => by have := nB j hj; omega)
            have hn1 := grow_new (B := w.heap.size + 1) hown1 (by omega) nB
            have hmc2 : w1.cell? ⟨w.heap.size, 1, none⟩ = some (.int .i64 mg) := grown_cell hg1 (fun e => by have := nB _ e; omega) (((below_alloc _ _).cell (p := ⟨w.heap.size, 1, none⟩) (by simp; omega)).trans hmc')
            have hl2 : w.heap.size < w1.heap.size := World.block_lt_of_cell? w1 _ hmc2
            have hcs : ∀ j, j < 2 → w1.cell? ⟨wr.heap.size, j, none⟩ = (wr.alloc (.cells #[.int .i64 o.1, .int .i64 o.2] 69)).cell? ⟨wr.heap.size, j, none⟩ := fun j _ => by
              have e1 := World.cell?_of_block (a := ⟨wr.heap.size, j, none⟩) (hg1.block wr.heap.size (by simp; omega) (fun e => by have := hB.lt _ e.symm; omega))
              exact e1.trans ((below_alloc _ _).cell (p := ⟨wr.heap.size, j, none⟩) (by simp))
            have d0 := (hcs 0 (by decide)).trans (World.cell?_alloc_mark wr #[.int .i64 o.1, .int .i64 o.2] 69 (0, 0) 0)
            have d1 := (hcs 1 (by decide)).trans (World.cell?_alloc_mark wr #[.int .i64 o.1, .int .i64 o.2] 69 (0, 0) 1)
            have hl3 : wr.heap.size < w1.heap.size := World.block_lt_of_cell? w1 _ d0
            have hr2 : Row w1 2 (.slice (some ⟨g', 0, none⟩) (m2 + 1) cap') (m2 + 1) (optCells (betL mg (os.take (k + 1)))) := by
              rw [HV.out, optCells_snoc]
              exact hr1
            have hA2 : Row w1 2 (.slice ao m1 c1) m1 (optCells (unkL (os.take (k + 1)))) := by
              rw [HU.out]
              exact ((hA.alloc _).alloc _).kept hg1 (fun j hj e => hap j hj e)
            have hap2 : ∀ j, Value.ownBlock (.slice ao m1 c1) = some j → Value.ownBlock (.slice (some ⟨g', 0, none⟩) (m2 + 1) cap') ≠ some j := by
              intro j hj2 hj
              have hgj : g' = j := by simpa [Value.ownBlock] using hj
              subst hgj
              rcases hown1 with h | h
              · exact hap _ hj2 h
              · have := hA.lt _ hj2; omega
            clear hg1 hown1 hr1 hcs
            go_wp2_with (fail)
            go_roundw
            case rel => exact ⟨k + 1, _, m1, c1, _, m2 + 1, cap', by omega, rfl, rfl, by go_num, by omega, by omega, hA2, hr2, nA, fun j hj => own_some hn1 hj, hap2, hmc2, hb2⟩
            case measure => simp [intOf]; omega
      · have p1 : (o.1 != 1) = false := by simp [bne, q1]
        have q5 : (o.1 == 5) = false := by simp at q1 ⊢; omega
        by_cases q2 : o.2 < 40
        · have HU : Hid (unkL (os.take (k + 1)) = unkL (os.take k)) := by
            show _ = _
            rw [HT.out, unkL, List.filter_append]
            simp [isUnk, q1]
            rfl
          have HV : Hid (betL mg (os.take (k + 1)) = betL mg (os.take k) ++ [(1, 40)]) := by
            show _ = _
            rw [HT2.out, show bet1 mg o = [(1, 40)] by simp at q1; simp [bet1, q1, q2]]

          go_wp2_with (at_builtin; go_must (refine wpList_append_row _ rfl (.tmp 40) (.tmp 42) 34 rfl 69 i0 (.agg #[.int .i64 0, .int .i64 0]) 2 16 Tryd.underlying34 hi hz0 hz1 hz2 rfl (by decide) (.slice bo m2 c2) m2 (optCells (betL mg (os.take k))) rfl ((hB.alloc _).alloc _) _ 1 1 [.int .i64 1, .int .i64 40] rfl rfl (by decide) (cells_twoN _ _ _ _ _ (by simp)) (one_ints _ _ _ _) (by unfold maxLen; omega) (by omega) ?_))
          intro g' cap' w1 hr1 hg1 hown1
          have hb2 := grow_below (hb1.alloc hb1.size _) hg1 (fun j hj => by have := nB j hj; omega)
          have hn1 := grow_new (B := w.heap.size + 1) hown1 (by omega) nB
          have hmc2 : w1.cell? ⟨w.heap.size, 1, none⟩ = some (.int .i64 mg) := grown_cell hg1 (fun e => by have := nB _ e; omega) (((below_alloc _ _).cell (p := ⟨w.heap.size, 1, none⟩) (by simp; omega)).trans hmc')
          have hl2 : w.heap.size < w1.heap.size := World.block_lt_of_cell? w1 _ hmc2
          have hcs : ∀ j, j < 2 → w1.cell? ⟨wr.heap.size, j, none⟩ = (wr.alloc (.cells #[.int .i64 o.1, .int .i64 o.2] 69)).cell? ⟨wr.heap.size, j, none⟩ := fun j _ => by
            have e1 := World.cell?_of_block (a := ⟨wr.heap.size, j, none⟩) (hg1.block wr.heap.size (by simp; omega) (fun e => by have := hB.lt _ e.symm; omega))
            exact e1.trans ((below_alloc _ _).cell (p := ⟨wr.heap.size, j, none⟩) (by simp))
          have d0 := (hcs 0 (by decide)).trans (World.cell?_alloc_mark wr #[.int .i64 o.1, .int .i64 o.2] 69 (0, 0) 0)
          have d1 := (hcs 1 (by decide)).trans (World.cell?_alloc_mark wr #[.int .i64 o.1, .int .i64 o.2] 69 (0, 0) 1)
          have hl3 : wr.heap.size < w1.heap.size := World.block_lt_of_cell? w1 _ d0
          have hr2 : Row w1 2 (.slice (some ⟨g', 0, none⟩) (m2 + 1) cap') (m2 + 1) (optCells (betL mg (os.take (k + 1)))) := by
            rw [HV.out, optCells_snoc]
            exact hr1
          have hA2 : Row w1 2 (.slice ao m1 c1) m1 (optCells (unkL (os.take (k + 1)))) := by
            rw [HU.out]
            exact ((hA.alloc _).alloc _).kept hg1 (fun j hj e => hap j hj e)
          have hap2 : ∀ j, Value.ownBlock (.slice ao m1 c1) = some j → Value.ownBlock (.slice (some ⟨g', 0, none⟩) (m2 + 1) cap') ≠ some j := by
            intro j hj2 hj
            have hgj : g' = j := by simpa [Value.ownBlock] using hj
            subst hgj
            rcases hown1 with h | h
            · exact hap _ hj2 h
            · have := hA.lt _ hj2; omega
          clear hg1 hown1 hr1 hcs
          go_wp2_with (fail)
          go_roundw
          case rel => exact ⟨k + 1, _, m1, c1, _, m2 + 1, cap', by omega, rfl, rfl, by go_num, by omega, by omega, hA2, hr2, nA, fun j hj => own_some hn1 hj, hap2, hmc2, hb2⟩
          case measure => simp [intOf]; omega
        · have HU : Hid (unkL (os.take (k + 1)) = unkL (os.take k)) := by
            show _ = _
            rw [HT.out, unkL, List.filter_append]
            simp [isUnk, q1]
            rfl
          have HV : Hid (betL mg (os.take (k + 1)) = betL mg (os.take k)) := by
            show _ = _
            rw [HT2.out, show bet1 mg o = [] by simp at q1; simp [bet1, q1, q2]]
            rw [List.append_nil]
          have hA2 : Row (wr.alloc (.cells #[.int .i64 o.1, .int .i64 o.2] 69)) 2 (.slice ao m1 c1) m1 (optCells (unkL (os.take (k + 1)))) := by rw [HU.out]; exact hA.alloc _
          have hB2 : Row (wr.alloc (.cells #[.int .i64 o.1, .int .i64 o.2] 69)) 2 (.slice bo m2 c2) m2 (optCells (betL mg (os.take (k + 1)))) := by rw [HV.out]; exact hB.alloc _
          go_wp2_with (fail)
          go_roundw
          case rel => exact ⟨k + 1, _, m1, c1, _, m2, c2, by omega, rfl, rfl, by go_num, by omega, by omega, hA2, hB2, nA, nB, hap, hmc', hb1⟩
          case measure => simp [intOf]; omega
    · have hkk : os.take k = os := List.take_of_length_le (by rw [ho.1]; omega)
      rw [hkk] at hA hB
      have hl1 : m1 = (unkL os).length := by have := hA.1; rw [optCells_length] at this; omega
      have hl2 : m2 = (betL mg os).length := by have := hB.1; rw [optCells_length] at this; omega
      by_cases hu : unkL os = []
      · have z1 : ¬ (0 : Int) < (m1 : Int) := by rw [hl1, hu]; simp
        by_cases hb : betL mg os = []
        · have z2 : ¬ (0 : Int) < (m2 : Int) := by rw [hl2, hb]; simp
          have HJ : Hid (judgeR mg os = (2, os)) := by show _ = _; simp [judgeR, hu, hb]
          clear hu hb hl1 hl2 hA hB
          go_wp2_with (fail)
          rw [HJ.out]
          go_ret2
          first | exact ⟨_, _, _, rfl, ho.below hbel, hbel, fun k hk => .inr hk⟩ | exact ⟨_, _, ⟨_, rfl⟩, ho.below hbel, hbel, fun k hk => .inr hk⟩
        · have z2 : (0 : Int) < (m2 : Int) := by
            have : (betL mg os).length ≠ 0 := fun h => hb (List.eq_nil_of_length_eq_zero h)
            omega
          have HJ : Hid (judgeR mg os = (3, betL mg os)) := by show _ = _; simp [judgeR, hu, hb]
          clear hu hb hl1 hl2 hA
          go_wp2_with (fail)
          rw [HJ.out]
          go_ret2
          first | exact ⟨_, _, _, rfl, hB.opts, hbel, fun k hk => .inl ⟨by have := nB k (optOwn_own hk); omega, hB.lt k (optOwn_own hk)⟩⟩ | exact ⟨_, _, ⟨_, rfl⟩, hB.opts, hbel, fun k hk => .inl ⟨by have := nB k (optOwn_own hk); omega, hB.lt k (optOwn_own hk)⟩⟩
      · have z1 : (0 : Int) < (m1 : Int) := by
          have : (unkL os).length ≠ 0 := fun h => hu (List.eq_nil_of_length_eq_zero h)
          omega
        have HJ : Hid (judgeR mg os = (4, unkL os)) := by show _ = _; simp [judgeR, hu]
        clear hu hl1 hl2 hB
        go_wp2_with (fail)
        rw [HJ.out]
        go_ret2
        first | exact ⟨_, _, _, rfl, hA.opts, hbel, fun k hk => .inl ⟨by have := nA k (optOwn_own hk); omega, hA.lt k (optOwn_own hk)⟩⟩ | exact ⟨_, _, ⟨_, rfl⟩, hA.opts, hbel, fun k hk => .inl ⟨by have := nA k (optOwn_own hk); omega, hA.lt k (optOwn_own hk)⟩⟩

theorem rjudge_any (sz mg : Int) (a : Option Addr) (n cap : Nat) (os : List Opt) (w : World) (hmg : 0 ≤ mg) (hmg2 : mg ≤ 255) (hn : n ≤ 1000000) (ho : OptR w a n os) :
    Calls Tryd.prog 28 #[.agg #[.int .i64 sz, .int .i64 mg], .slice a n cap] w fun e w' => ∃ (a' : Option Addr) (n' cap' : Nat), e = .returned (.tuple #[.int .i64 (judgeR mg os).1, .slice a' n' cap']) ∧ OptR w' a' n' (judgeR mg os).2 ∧ Below w.heap.size w w' := by
  refine (rjudge_far sz mg a n cap os w hmg hmg2 hn ho).mono ?_
  rintro e w' ⟨a', n', cap', rfl, h1, h2, _⟩
  exact ⟨a', n', cap', rfl, h1, h2⟩
theorem zeroRPol (w : World) : (zeroValue 45).run Tryd.prog w = .ok (.agg #[.int .i64 0, .int .i64 0]) w := by kernel_rfl
theorem Pol.set0 {w : World} {B : Nat} {s m : Int} (h : Pol w B s m) (s' : Int) : Pol (w.setCell ⟨B, 0, none⟩ (.int .i64 s')) B s' m :=
  ⟨World.cell?_setCell_same' _ _ _ (by rw [h.c0]; rfl), (World.cell?_setCell_other _ ⟨B, 0, none⟩ ⟨B, 1, none⟩ _ (by simp)).trans h.c1, by simp [h.f0], by simp [h.f1]⟩
theorem Pol.set1 {w : World} {B : Nat} {s m : Int} (h : Pol w B s m) (m' : Int) : Pol (w.setCell ⟨B, 1, none⟩ (.int .i64 m')) B s m' :=
  ⟨(World.cell?_setCell_other _ ⟨B, 1, none⟩ ⟨B, 0, none⟩ _ (by simp)).trans h.c0, World.cell?_setCell_same' _ _ _ (by rw [h.c1]; rfl), by simp [h.f0], by simp [h.f1]⟩
theorem Pol.far {w : World} {B B' j : Nat} {s m : Int} (h : Pol w B s m) (hne : B' ≠ B) (x : Value) : Pol (w.setCell ⟨B', j, none⟩ x) B s m :=
  ⟨(World.cell?_setCell_far _ _ _ _ hne).trans h.c0, (World.cell?_setCell_far _ _ _ _ hne).trans h.c1, by simp [h.f0], by simp [h.f1]⟩

set_option maxRecDepth 100000 in
set_option maxHeartbeats 4000000 in
theorem rtold_any (sz mg code : Int) (a : Option Addr) (n cap : Nat) (os : List Opt) (w : World) (hn : n ≤ 1000000) (ho : OptR w a n os) :
    Calls Tryd.prog 30 #[.agg #[.int .i64 sz, .int .i64 mg], .int .i64 code, .slice a n cap] w fun e w' =>
      e = .returned (.agg #[.int .i64 (toldR code os (sz, mg)).1, .int .i64 (toldR code os (sz, mg)).2]) ∧ Below w.heap.size w w' := by
  have hz := zeroRPol
  have P0 : Pol ((w.alloc (.cells #[.int .i64 sz, .int .i64 mg] 45)).alloc (.cells #[.int .i64 0, .int .i64 0] 45)) w.heap.size sz mg := by
    have hA := fun j => World.cell?_alloc_mark w #[.int .i64 sz, .int .i64 mg] 45 (0, 0) j
    have hF := fun j => World.frozen?_alloc_mark w #[.int .i64 sz, .int .i64 mg] 45 0 0 j
    exact Pol.below ⟨hA 0, hA 1, by rw [hF]; rfl, by rw [hF]; rfl⟩ (below_alloc _ _)
  have P1 : Pol ((w.alloc (.cells #[.int .i64 sz, .int .i64 mg] 45)).alloc (.cells #[.int .i64 0, .int .i64 0] 45)) (w.heap.size + 1) 0 0 := by
    have hA := fun j => World.cell?_alloc_mark (w.alloc (.cells #[.int .i64 sz, .int .i64 mg] 45)) #[.int .i64 0, .int .i64 0] 45 (0, 0) j
    have hF := fun j => World.frozen?_alloc_mark (w.alloc (.cells #[.int .i64 sz, .int .i64 mg] 45)) #[.int .i64 0, .int .i64 0] 45 0 0 j
    have e : (w.alloc (.cells #[.int .i64 sz, .int .i64 mg] 45)).heap.size = w.heap.size + 1 := by simp
    rw [e] at hA hF
    exact ⟨hA 0, hA 1, by rw [hF]; rfl, by rw [hF]; rfl⟩
  have hw0 : Below w.heap.size w ((w.alloc (.cells #[.int .i64 sz, .int .i64 mg] 45)).alloc (.cells #[.int .i64 0, .int .i64 0] 45)) := (below_alloc _ _).alloc (by simp) _
  go_enter Tryd.func30, Tryd.ntmps30
  go_wp2_with (fail)
  go_loopw [7] (fun i wr => ∃ (k : Nat) (s m : Int), k ≤ n ∧ i = .int .i64 k ∧ toldR code os (sz, mg) = toldR code (os.drop k) (s, m) ∧ Pol wr w.heap.size s m ∧ Pol wr (w.heap.size + 1) 0 0 ∧ Below w.heap.size w wr) (fun i _ => n - (intOf i).toNat)
  case atStart => exact ⟨0, sz, mg, Nat.zero_le _, rfl, rfl, P0, P1, hw0⟩
  case round =>
    obtain ⟨k, s, m, hk, rfl, hT0, hP, hP1, hbel⟩ := hrel
    have HF : Hid _ := hT0
    clear hT0 P0 P1
    have Q0 := hP
    have Q1 := hP1
    obtain ⟨c0, c1, f0, f1⟩ := hP
    obtain ⟨d0, d1, g0, g1⟩ := hP1
    have hl0 : w.heap.size < wr.heap.size := World.block_lt_of_cell? wr _ c0
    have hl1 : w.heap.size + 1 < wr.heap.size := World.block_lt_of_cell? wr _ d0
    by_cases hlt : k < n
    · have hor := ho.below hbel
      rcases hor.2 with h0 | ⟨b, off, rfl, hc⟩
      · omega
      have hlo : k < os.length := by rw [ho.1]; exact hlt
      obtain ⟨e1, e2⟩ := hc k hlo
      have HD : Hid (os.drop k = os[k] :: os.drop (k + 1)) := List.drop_eq_getElem_cons hlo
      generalize os[k] = o at e1 e2 HD
      clear hc
      have hlt' : (k : Int) < (n : Int) := by omega
      have HS : ∀ s' m', told1 code (s, m) o = (s', m') → Hid (toldR code os (sz, mg) = toldR code (os.drop (k + 1)) (s', m')) := by
        intro s' m' h
        show _ = _
        rw [HF.out, HD.out, ← h]
        rfl
      have hbx := below_alloc wr (.cells #[.int .i64 o.1, .int .i64 o.2] 69)
      have hb1 := below_chain hbel hbx
      have R0 := Q0.below hbx
      have R1 := Q1.below hbx
      clear HF HD
      cases q4 : (code == 4)
      · cases q3 : (code == 3)
        · have H := HS s m (by simp at q3 q4; simp [told1, q3, q4])
          clear HS
          go_wp2_with (fail)
          go_roundw
          case rel => exact ⟨k + 1, s, m, by omega, by go_num, H.out, R0, R1, hb1⟩
          case measure => simp [intOf]; omega
        · cases q1 : (o.1 == 1)
          · cases q5 : (o.1 == 5)
            · have H := HS s m (by simp at q3 q4 q1 q5; simp [told1, q3, q1, q5])
              clear HS
              go_wp2_with (fail)
              go_roundw
              case rel => exact ⟨k + 1, s, m, by omega, by go_num, H.out, R0, R1, hb1⟩
              case measure => simp [intOf]; omega
            · by_cases t1 : 0 < m
              · by_cases t2 : 0 < o.2
                · have H := HS s o.2 (by simp at q3 q4 q1 q5; simp [told1, q3, q5, t1, t2])
                  clear HS
                  go_wp2_with (fail)
                  go_roundw
                  case rel => exact ⟨k + 1, s, o.2, by omega, by go_num, H.out, (Q0.set1 o.2).below (below_alloc _ _), (Q1.far (B' := w.heap.size) (by omega) _).below (below_alloc _ _), below_chain (hbel.setCell (Nat.le_refl _) _) (below_alloc _ _)⟩
                  case measure => simp [intOf]; omega
                · have H := HS s m (by simp at q3 q4 q1 q5; simp [told1, q3, q5, t2])
                  clear HS
                  go_wp2_with (fail)
                  go_roundw
                  case rel => exact ⟨k + 1, s, m, by omega, by go_num, H.out, R0, R1, hb1⟩
                  case measure => simp [intOf]; omega
              · have H := HS s m (by simp at q3 q4 q1 q5; simp [told1, q3, q5, t1])
                clear HS
                go_wp2_with (fail)
                go_roundw
                case rel => exact ⟨k + 1, s, m, by omega, by go_num, H.out, R0, R1, hb1⟩
                case measure => simp [intOf]; omega
          · have q5 : (o.1 == 5) = false := by simp at q1 ⊢; omega
            by_cases t1 : 0 < s
            · by_cases t2 : 40 ≤ o.2
              · have H := HS o.2 m (by simp at q3 q4 q1; simp [told1, q3, q1, t1, t2])
                clear HS
                go_wp2_with (fail)
                go_roundw
                case rel => exact ⟨k + 1, o.2, m, by omega, by go_num, H.out, (Q0.set0 o.2).below (below_alloc _ _), (Q1.far (B' := w.heap.size) (by omega) _).below (below_alloc _ _), below_chain (hbel.setCell (Nat.le_refl _) _) (below_alloc _ _)⟩
                case measure => simp [intOf]; omega
              · have H := HS s m (by simp at q3 q4 q1; simp [told1, q3, q1, t2])
                clear HS
                go_wp2_with (fail)
                go_roundw
                case rel => exact ⟨k + 1, s, m, by omega, by go_num, H.out, R0, R1, hb1⟩
                case measure => simp [intOf]; omega
            · have H := HS s m (by simp at q3 q4 q1; simp [told1, q3, q1, t1])
              clear HS
              go_wp2_with (fail)
              go_roundw
              case rel => exact ⟨k + 1, s, m, by omega, by go_num, H.out, R0, R1, hb1⟩
              case measure => simp [intOf]; omega
      · have q3 : (code == 3) = false := by simp at q4 ⊢; omega
        cases q1 : (o.1 == 1)
        · cases q5 : (o.1 == 5)
          · have H := HS s m (by simp at q4 q1 q5; simp [told1, q4, q1, q5])
            clear HS
            go_wp2_with (fail)
            go_roundw
            case rel => exact ⟨k + 1, s, m, by omega, by go_num, H.out, R0, R1, hb1⟩
            case measure => simp [intOf]; omega
          · have H := HS s 0 (by simp at q4 q1 q5; simp [told1, q4, q5])
            clear HS
            go_wp2_with (fail)
            go_roundw
            case rel => exact ⟨k + 1, s, 0, by omega, by go_num, H.out, (Q0.set1 0).below (below_alloc _ _), (Q1.far (B' := w.heap.size) (by omega) _).below (below_alloc _ _), below_chain (hbel.setCell (Nat.le_refl _) _) (below_alloc _ _)⟩
            case measure => simp [intOf]; omega
        · have q5 : (o.1 == 5) = false := by simp at q1 ⊢; omega
          have H := HS 0 m (by simp at q4 q1; simp [told1, q4, q1])
          clear HS
          go_wp2_with (fail)
          go_roundw
          case rel => exact ⟨k + 1, 0, m, by omega, by go_num, H.out, (Q0.set0 0).below (below_alloc _ _), (Q1.far (B' := w.heap.size) (by omega) _).below (below_alloc _ _), below_chain (hbel.setCell (Nat.le_refl _) _) (below_alloc _ _)⟩
          case measure => simp [intOf]; omega
    · have hdd : os.drop k = [] := List.drop_eq_nil_of_le (by rw [ho.1]; omega)
      have HS : Hid (toldR code os (sz, mg) = (s, m)) := by
        show _ = _
        rw [HF.out, hdd]
        rfl
      clear HF hdd
      have hb3 : Below w.heap.size w ((wr.setCell ⟨w.heap.size + 1, 0, none⟩ (.int .i64 s)).setCell ⟨w.heap.size + 1, 1, none⟩ (.int .i64 m)) := (hbel.setCell (by simp) _).setCell (by simp) _
      have R1 := Q1.set s m
      go_wp2_with (fail)
      rw [HS.out]
      obtain ⟨r0, r1, _, _⟩ := R1
      refine bodyPost_ret (v := .agg #[.int .i64 s, .int .i64 m]) (by simp [results, Tryd.results30, go_sem, r0, r1]) rfl ?_
      exact ⟨rfl, hb3⟩
end Go.Proofs.YtgfjgenkpfdofaaDoor
