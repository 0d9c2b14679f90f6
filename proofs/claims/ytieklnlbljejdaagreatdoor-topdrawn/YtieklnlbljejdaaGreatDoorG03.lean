/-
  PolicyWalk2 OpenOpt
-/
import Derived.Test.YtieklnlbljejdaaGreatDoorG02
import Derived.ProofKit
import Derived.Lib.SmallJoins
import Derived.Deep.SlicePairs
namespace Go.Proofs.YtieklnlbljejdaaGreatDoor
open Go.RowKit
set_option maxRecDepth 100000 in
theorem without_any (sz mg k : Int) (w : World) : Calls Tryz.prog 247 #[.agg #[.int .i64 sz, .int .i64 mg], .int .i64 k] w fun e w' =>
 e = .returned (.agg #[.int .i64 (told1 4 (sz, mg) (k, 0)).1, .int .i64 (told1 4 (sz, mg) (k, 0)).2]) ∧ Below w.heap.size w w' := by
 have hz := zeroPol
 have hb : ∀ A B : Array Value, Below w.heap.size w ((w.alloc (.cells A 252)).alloc (.cells B 252)) := fun A B => (below_alloc _ _).alloc (by simp) _
 cases q1 : (k == 1)
 · cases q5 : (k == 5)
   · have hv : told1 4 (sz, mg) (k, 0) = (sz, mg) := by simp at q1 q5; simp [told1, q1, q5]
     rw [hv]
     clear hv
     go_enter Tryz.func247, Tryz.ntmps247
     go_wp2
     refine bodyPost_ret (v := .agg #[.int .i64 sz, .int .i64 mg]) (by simp [results, Tryz.results247, go_sem]) rfl ?_
     exact ⟨rfl, hb _ _⟩
   · have hv : told1 4 (sz, mg) (k, 0) = (sz, 0) := by simp at q1 q5; simp [told1, q5]
     rw [hv]
     clear hv
     go_enter Tryz.func247, Tryz.ntmps247
     go_wp2
     refine bodyPost_ret (v := .agg #[.int .i64 sz, .int .i64 0]) (by simp [results, Tryz.results247, go_sem]) rfl ?_
     exact ⟨rfl, hb _ _⟩
 · have hv : told1 4 (sz, mg) (k, 0) = (0, mg) := by simp at q1; simp [told1, q1]
   rw [hv]
   clear hv
   go_enter Tryz.func247, Tryz.ntmps247
   go_wp2
   refine bodyPost_ret (v := .agg #[.int .i64 0, .int .i64 mg]) (by simp [results, Tryz.results247, go_sem]) rfl ?_
   exact ⟨rfl, hb _ _⟩
set_option maxRecDepth 100000 in
set_option maxHeartbeats 2000000 in
theorem with_any (sz mg k n : Int) (w : World) : Calls Tryz.prog 248 #[.agg #[.int .i64 sz, .int .i64 mg], .agg #[.int .i64 k, .int .i64 n]] w fun e w' =>
 e = .returned (.agg #[.int .i64 (told1 3 (sz, mg) (k, n)).1, .int .i64 (told1 3 (sz, mg) (k, n)).2]) ∧ Below w.heap.size w w' := by
 have hz := zeroPol
 have hb : ∀ (A B C : Array Value) (t u v : TypeId), Below w.heap.size w (((w.alloc (.cells A t)).alloc (.cells B u)).alloc (.cells C v)) := fun A B C t u v => ((below_alloc _ _).alloc (by simp) _).alloc (by simp; omega) _
 have fin : ∀ (s m : Int), told1 3 (sz, mg) (k, n) = (s, m) → ((told1 3 (sz, mg) (k, n)).1 = s ∧ (told1 3 (sz, mg) (k, n)).2 = m) := fun s m h => by rw [h]; exact ⟨rfl, rfl⟩
 cases q1 : (k == 1)
 · cases q5 : (k == 5)
   · have hv : told1 3 (sz, mg) (k, n) = (sz, mg) := by simp at q1 q5; simp [told1, q1, q5]
     rw [hv]
     clear hv fin
     go_enter Tryz.func248, Tryz.ntmps248
     go_wp2
     refine bodyPost_ret (v := .agg #[.int .i64 sz, .int .i64 mg]) (by simp [results, Tryz.results248, go_sem]) rfl ?_
     exact ⟨rfl, hb _ _ _ _ _ _⟩
   · by_cases h1 : 0 < mg
     · by_cases h2 : 0 < n
       · have hv : told1 3 (sz, mg) (k, n) = (sz, n) := by simp at q1 q5; simp [told1, q5, h1, h2]
         rw [hv]
         clear hv fin
         go_enter Tryz.func248, Tryz.ntmps248
         go_wp2
         refine bodyPost_ret (v := .agg #[.int .i64 sz, .int .i64 n]) (by simp [results, Tryz.results248, go_sem]) rfl ?_
         exact ⟨rfl, hb _ _ _ _ _ _⟩
       · have hv : told1 3 (sz, mg) (k, n) = (sz, mg) := by simp at q1 q5; simp [told1, q5, h2]
         rw [hv]
         clear hv fin
         go_enter Tryz.func248, Tryz.ntmps248
         go_wp2
         refine bodyPost_ret (v := .agg #[.int .i64 sz, .int .i64 mg]) (by simp [results, Tryz.results248, go_sem]) rfl ?_
         exact ⟨rfl, hb _ _ _ _ _ _⟩
     · have hv : told1 3 (sz, mg) (k, n) = (sz, mg) := by simp at q1 q5; simp [told1, q5, h1]
       rw [hv]
       clear hv fin
       go_enter Tryz.func248, Tryz.ntmps248
       go_wp2
       refine bodyPost_ret (v := .agg #[.int .i64 sz, .int .i64 mg]) (by simp [results, Tryz.results248, go_sem]) rfl ?_
       exact ⟨rfl, hb _ _ _ _ _ _⟩
 · have q5 : (k == 5) = false := by simp at q1 ⊢; omega
   by_cases h1 : 0 < sz
   · by_cases h2 : 40 ≤ n
     · have hv : told1 3 (sz, mg) (k, n) = (n, mg) := by simp at q1; simp [told1, q1, h1, h2]
       rw [hv]
       clear hv fin
       go_enter Tryz.func248, Tryz.ntmps248
       go_wp2
       refine bodyPost_ret (v := .agg #[.int .i64 n, .int .i64 mg]) (by simp [results, Tryz.results248, go_sem]) rfl ?_
       exact ⟨rfl, hb _ _ _ _ _ _⟩
     · have hv : told1 3 (sz, mg) (k, n) = (sz, mg) := by simp at q1; simp [told1, q1, h2]
       rw [hv]
       clear hv fin
       go_enter Tryz.func248, Tryz.ntmps248
       go_wp2
       refine bodyPost_ret (v := .agg #[.int .i64 sz, .int .i64 mg]) (by simp [results, Tryz.results248, go_sem]) rfl ?_
       exact ⟨rfl, hb _ _ _ _ _ _⟩
   · have hv : told1 3 (sz, mg) (k, n) = (sz, mg) := by simp at q1; simp [told1, q1, h1]
     rw [hv]
     clear hv fin
     go_enter Tryz.func248, Tryz.ntmps248
     go_wp2
     refine bodyPost_ret (v := .agg #[.int .i64 sz, .int .i64 mg]) (by simp [results, Tryz.results248, go_sem]) rfl ?_
     exact ⟨rfl, hb _ _ _ _ _ _⟩
set_option maxRecDepth 100000 in
set_option maxHeartbeats 2000000 in
theorem better_any (sz mg : Int) (a : Option Addr) (n cap : Nat) (os : List Opt) (w : World) (hmg : 0 ≤ mg) (hmg2 : mg ≤ 255) (hn : n ≤ 1000000) (ho : OptR w a n os) :
 Calls Tryz.prog 245 #[.agg #[.int .i64 sz, .int .i64 mg], .slice a n cap] w fun e w' => ∃ v, e = .returned v ∧ Made w w' v (betL mg os) := by
 obtain ⟨i0, hi, hz0, hz1, hz2⟩ := info_parts infoOpt
 have hw0 : Below w.heap.size w (w.alloc (.cells #[.int .i64 sz, .int .i64 mg] 252)) := below_alloc _ _
 have hA := fun j => World.cell?_alloc_mark w #[.int .i64 sz, .int .i64 mg] 252 (0, 0) j
 go_enter Tryz.func245, Tryz.ntmps245
 go_wp2_with (fail)
 go_loopw [5, 10] (fun out i wr => ∃ (k : Nat) (ao : Option Addr) (m cp : Nat), k ≤ n ∧ out = .slice ao m cp ∧ i = .int .i64 k ∧ m ≤ k ∧ Row wr 2 (.slice ao m cp) m (optCells (betL mg (os.take k))) ∧ (∀ j, Value.ownBlock (.slice ao m cp) = some j → w.heap.size + 1 ≤ j) ∧ wr.cell? ⟨w.heap.size, 1, none⟩ = some (.int .i64 mg) ∧ Below w.heap.size w wr) (fun _ i _ => n - (intOf i).toNat)
 case atStart => exact ⟨0, none, 0, 0, Nat.zero_le _, rfl, rfl, Nat.le_refl _, by simpa [betL, optCells] using Row.nil _ 2, fun j hj => own_none hj, hA 1, hw0⟩
 case round =>
  obtain ⟨k, ao, m, cp, hk, rfl, rfl, hmk, hrow, hnew, hmc, hbel⟩ := hrel
  have hl1 : w.heap.size < wr.heap.size := World.block_lt_of_cell? wr _ hmc
  by_cases hlt : k < n
  · have hor := ho.below hbel
    rcases hor.2 with h0 | ⟨b, off, rfl, hc⟩
    · omega
    have hlo : k < os.length := by rw [ho.1]; exact hlt
    obtain ⟨c1, c2⟩ := hc k hlo
    have HT : Hid (betL mg (os.take (k + 1)) = betL mg (os.take k) ++ bet1 mg os[k]) := by
     show _ = _
     rw [List.take_succ_eq_append_getElem hlo, betL, List.flatMap_append, List.flatMap_cons, List.flatMap_nil, List.append_nil]
     rfl
    generalize os[k] = o at c1 c2 HT
    clear hc
    have hlt' : (k : Int) < (n : Int) := by omega
    have hb1 := hbel.alloc hbel.size (.cells #[.int .i64 o.1, .int .i64 o.2] 276)
    have hmc' : (wr.alloc (.cells #[.int .i64 o.1, .int .i64 o.2] 276)).cell? ⟨w.heap.size, 1, none⟩ = some (.int .i64 mg) := ((below_alloc _ _).cell (p := ⟨w.heap.size, 1, none⟩) hl1).trans hmc
    have keep : bet1 mg o = [] → Hid (Row (wr.alloc (.cells #[.int .i64 o.1, .int .i64 o.2] 276)) 2 (.slice ao m cp) m (optCells (betL mg (os.take (k + 1))))) := fun he => by
     show Row _ _ _ _ _
     rw [HT.out, he, List.append_nil]
     exact hrow.alloc _
    cases q1 : (o.1 == 1)
    · cases q5 : (o.1 == 5)
      · have hr1 := keep (by simp at q1 q5; simp [bet1, q1, q5])
        go_wp2_with (fail)
        go_roundw
        case rel => exact ⟨k + 1, _, m, cp, by omega, rfl, by go_num, by omega, hr1.out, hnew, hmc', hb1⟩
        case measure => simp [intOf]; omega
      · cases q6 : (o.2 == 0)
        · cases q7 : (o.2 == mg)
          · have hr1 := keep (by simp at q1 q5 q6 q7; simp [bet1, q5, q6, q7])
            go_wp2_with (fail)
            go_roundw
            case rel => exact ⟨k + 1, _, m, cp, by omega, rfl, by go_num, by omega, hr1.out, hnew, hmc', hb1⟩
            case measure => simp [intOf]; omega
          · have HU : Hid (bet1 mg o = [(5, (mg % 255 + 1))]) := by
             show _ = _
             simp at q1 q5 q6 q7; simp [bet1, q5, q7]
            go_wp2_with (at_builtin; go_must (refine wpList_append_row _ rfl (.tmp 41) (.tmp 47) 35 rfl 276 i0 (.agg #[.int .i64 0, .int .i64 0]) 2 16 Tryz.underlying35 hi hz0 hz1 hz2 rfl (by decide) (.slice ao m cp) m (optCells (betL mg (os.take k))) rfl ((hrow.alloc _).alloc _) _ 1 1 [.int .i64 5, .int .i64 (mg % 255 + 1)] rfl rfl (by decide) (cells_twoN _ _ _ _ _ (by simp)) (one_ints _ _ _ _) (by unfold maxLen; omega) (by omega) ?_))
            intro g' cap' w1 hr1 hg1 hown1
            have hb2 := grow_below (hb1.alloc hb1.size _) hg1 (fun j hj => by have := hnew j hj; omega)
            have hn1 := grow_new (B := w.heap.size + 1) hown1 (by omega) hnew
            have hmc2 : w1.cell? ⟨w.heap.size, 1, none⟩ = some (.int .i64 mg) := grown_cell hg1 (fun e => by have := hnew _ e; omega) (((below_alloc _ _).cell (p := ⟨w.heap.size, 1, none⟩) (by simp; omega)).trans hmc')
            have hl2 : w.heap.size < w1.heap.size := World.block_lt_of_cell? w1 _ hmc2
            have hcs : ∀ j, j < 2 → w1.cell? ⟨wr.heap.size, j, none⟩ = (wr.alloc (.cells #[.int .i64 o.1, .int .i64 o.2] 276)).cell? ⟨wr.heap.size, j, none⟩ := fun j _ => by
             have e1 := World.cell?_of_block (a := ⟨wr.heap.size, j, none⟩) (hg1.block wr.heap.size (by simp; omega) (fun e => by have := hrow.lt _ e.symm; omega))
             exact e1.trans ((below_alloc _ _).cell (p := ⟨wr.heap.size, j, none⟩) (by simp))
            have d0 := (hcs 0 (by decide)).trans (World.cell?_alloc_mark wr #[.int .i64 o.1, .int .i64 o.2] 276 (0, 0) 0)
            have d1 := (hcs 1 (by decide)).trans (World.cell?_alloc_mark wr #[.int .i64 o.1, .int .i64 o.2] 276 (0, 0) 1)
            have hl3 : wr.heap.size < w1.heap.size := World.block_lt_of_cell? w1 _ d0
            have hr2 : Row w1 2 (.slice (some ⟨g', 0, none⟩) (m + 1) cap') (m + 1) (optCells (betL mg (os.take (k + 1)))) := by
             rw [HT.out, HU.out, optCells_snoc]
             exact hr1
            clear hg1 hown1 hr1 hcs keep
            go_wp2_with (fail)
            go_roundw
            case rel => exact ⟨k + 1, _, m + 1, cap', by omega, rfl, by go_num, by omega, hr2, fun j hj => own_some hn1 hj, hmc2, hb2⟩
            case measure => simp [intOf]; omega
        · have HU : Hid (bet1 mg o = [(5, (mg % 255 + 1))]) := by
           show _ = _
           simp at q1 q5 q6; simp [bet1, q5, q6]
          go_wp2_with (at_builtin; go_must (refine wpList_append_row _ rfl (.tmp 41) (.tmp 47) 35 rfl 276 i0 (.agg #[.int .i64 0, .int .i64 0]) 2 16 Tryz.underlying35 hi hz0 hz1 hz2 rfl (by decide) (.slice ao m cp) m (optCells (betL mg (os.take k))) rfl ((hrow.alloc _).alloc _) _ 1 1 [.int .i64 5, .int .i64 (mg % 255 + 1)] rfl rfl (by decide) (cells_twoN _ _ _ _ _ (by simp)) (one_ints _ _ _ _) (by unfold maxLen; omega) (by omega) ?_))
          intro g' cap' w1 hr1 hg1 hown1
          have hb2 := grow_below (hb1.alloc hb1.size _) hg1 (fun j hj => by have := hnew j hj; omega)
          have hn1 := grow_new (B := w.heap.size + 1) hown1 (by omega) hnew
          have hmc2 : w1.cell? ⟨w.heap.size, 1, none⟩ = some (.int .i64 mg) := grown_cell hg1 (fun e => by have := hnew _ e; omega) (((below_alloc _ _).cell (p := ⟨w.heap.size, 1, none⟩) (by simp; omega)).trans hmc')
          have hl2 : w.heap.size < w1.heap.size := World.block_lt_of_cell? w1 _ hmc2
          have hcs : ∀ j, j < 2 → w1.cell? ⟨wr.heap.size, j, none⟩ = (wr.alloc (.cells #[.int .i64 o.1, .int .i64 o.2] 276)).cell? ⟨wr.heap.size, j, none⟩ := fun j _ => by
           have e1 := World.cell?_of_block (a := ⟨wr.heap.size, j, none⟩) (hg1.block wr.heap.size (by simp; omega) (fun e => by have := hrow.lt _ e.symm; omega))
           exact e1.trans ((below_alloc _ _).cell (p := ⟨wr.heap.size, j, none⟩) (by simp))
          have d0 := (hcs 0 (by decide)).trans (World.cell?_alloc_mark wr #[.int .i64 o.1, .int .i64 o.2] 276 (0, 0) 0)
          have d1 := (hcs 1 (by decide)).trans (World.cell?_alloc_mark wr #[.int .i64 o.1, .int .i64 o.2] 276 (0, 0) 1)
          have hl3 : wr.heap.size < w1.heap.size := World.block_lt_of_cell? w1 _ d0
          have hr2 : Row w1 2 (.slice (some ⟨g', 0, none⟩) (m + 1) cap') (m + 1) (optCells (betL mg (os.take (k + 1)))) := by
           rw [HT.out, HU.out, optCells_snoc]
           exact hr1
          clear hg1 hown1 hr1 hcs keep
          go_wp2_with (fail)
          go_roundw
          case rel => exact ⟨k + 1, _, m + 1, cap', by omega, rfl, by go_num, by omega, hr2, fun j hj => own_some hn1 hj, hmc2, hb2⟩
          case measure => simp [intOf]; omega
    · have q5 : (o.1 == 5) = false := by simp at q1 ⊢; omega
      by_cases q2 : o.2 < 40
      · have HU : Hid (bet1 mg o = [(1, 40)]) := by
         show _ = _
         simp at q1; simp [bet1, q1, q2]
        go_wp2_with (at_builtin; go_must (refine wpList_append_row _ rfl (.tmp 22) (.tmp 24) 35 rfl 276 i0 (.agg #[.int .i64 0, .int .i64 0]) 2 16 Tryz.underlying35 hi hz0 hz1 hz2 rfl (by decide) (.slice ao m cp) m (optCells (betL mg (os.take k))) rfl ((hrow.alloc _).alloc _) _ 1 1 [.int .i64 1, .int .i64 40] rfl rfl (by decide) (cells_twoN _ _ _ _ _ (by simp)) (one_ints _ _ _ _) (by unfold maxLen; omega) (by omega) ?_))
        intro g' cap' w1 hr1 hg1 hown1
        have hb2 := grow_below (hb1.alloc hb1.size _) hg1 (fun j hj => by have := hnew j hj; omega)
        have hn1 := grow_new (B := w.heap.size + 1) hown1 (by omega) hnew
        have hmc2 : w1.cell? ⟨w.heap.size, 1, none⟩ = some (.int .i64 mg) := grown_cell hg1 (fun e => by have := hnew _ e; omega) (((below_alloc _ _).cell (p := ⟨w.heap.size, 1, none⟩) (by simp; omega)).trans hmc')
        have hl2 : w.heap.size < w1.heap.size := World.block_lt_of_cell? w1 _ hmc2
        have hcs : ∀ j, j < 2 → w1.cell? ⟨wr.heap.size, j, none⟩ = (wr.alloc (.cells #[.int .i64 o.1, .int .i64 o.2] 276)).cell? ⟨wr.heap.size, j, none⟩ := fun j _ => by
         have e1 := World.cell?_of_block (a := ⟨wr.heap.size, j, none⟩) (hg1.block wr.heap.size (by simp; omega) (fun e => by have := hrow.lt _ e.symm; omega))
         exact e1.trans ((below_alloc _ _).cell (p := ⟨wr.heap.size, j, none⟩) (by simp))
        have d0 := (hcs 0 (by decide)).trans (World.cell?_alloc_mark wr #[.int .i64 o.1, .int .i64 o.2] 276 (0, 0) 0)
        have d1 := (hcs 1 (by decide)).trans (World.cell?_alloc_mark wr #[.int .i64 o.1, .int .i64 o.2] 276 (0, 0) 1)
        have hl3 : wr.heap.size < w1.heap.size := World.block_lt_of_cell? w1 _ d0
        have hr2 : Row w1 2 (.slice (some ⟨g', 0, none⟩) (m + 1) cap') (m + 1) (optCells (betL mg (os.take (k + 1)))) := by
         rw [HT.out, HU.out, optCells_snoc]
         exact hr1
        clear hg1 hown1 hr1 hcs keep
        go_wp2_with (fail)
        go_roundw
        case rel => exact ⟨k + 1, _, m + 1, cap', by omega, rfl, by go_num, by omega, hr2, fun j hj => own_some hn1 hj, hmc2, hb2⟩
        case measure => simp [intOf]; omega
      · have hr1 := keep (by simp at q1; simp [bet1, q1, q2])
        go_wp2_with (fail)
        go_roundw
        case rel => exact ⟨k + 1, _, m, cp, by omega, rfl, by go_num, by omega, hr1.out, hnew, hmc', hb1⟩
        case measure => simp [intOf]; omega
  · have hkk : os.take k = os := List.take_of_length_le (by rw [ho.1]; omega)
    rw [hkk] at hrow
    have hml : m = (betL mg os).length := by have := hrow.1; rw [optCells_length] at this; omega
    go_wp2_with (fail)
    go_ret
    exact ⟨_, rfl, ⟨by rw [← hml]; exact hrow, fun j hj => by have := hnew j hj; omega, hbel⟩⟩
theorem not_nil (a : Addr) (n cap : Nat) (w : World) : (binOp .eql 35 (.slice (some a) n cap) (.slice none 0 0)).run Tryz.prog w = .ok (.bool false) w := by kernel_rfl
theorem is_nil (w : World) : (binOp .eql 35 (.slice none 0 0) (.slice none 0 0)).run Tryz.prog w = .ok (.bool true) w := by kernel_rfl
set_option maxRecDepth 100000 in
theorem clone_zero (a : Addr) (cap : Nat) (w : World) :
 Calls Tryz.prog 246 #[.slice (some a) 0 cap] w fun e w' => ∃ (v : Value), e = .returned v ∧ Made w w' v [] := by
 have hq := not_nil
 go_enter Tryz.func246, Tryz.ntmps246
 go_wp2
 go_ret
 exact ⟨_, rfl, ⟨Row.made w 2 _ #[] (0, 0) 0 0 [] rfl rfl (Nat.le_refl _) (by decide) (.inl rfl) (by simp), fun j hj => own_some (Nat.le_refl _) hj, below_alloc _ _⟩⟩
set_option maxRecDepth 100000 in
theorem clone_nil (w : World) :
 Calls Tryz.prog 246 #[.slice none 0 0] w fun e w' => ∃ (v : Value), e = .returned v ∧ Made w w' v [] := by
 have hq := is_nil
 go_enter Tryz.func246, Tryz.ntmps246
 go_wp2
 go_ret
 exact ⟨_, rfl, ⟨Row.nil w 2, fun j hj => own_none hj, Below.refl _ _⟩⟩
set_option maxRecDepth 100000 in
theorem clone_some (b off n cap : Nat) (os : List Opt) (w : World) (hn : n ≤ 1000000) (hpos : 0 < n) (ho : OptR w (some ⟨b, off, none⟩) n os) :
 Calls Tryz.prog 246 #[.slice (some ⟨b, off, none⟩) n cap] w fun e w' => ∃ (v : Value), e = .returned v ∧ Made w w' v os := by
 obtain ⟨i0, hi, hz0, hz1, hz2⟩ := info_parts infoOpt
 have hq := not_nil
 have hw0 : Below w.heap.size w (w.alloc (.cells #[] 276)) := below_alloc _ _
 have hl := ho.1
 have hrow : Row (w.alloc (.cells #[] 276)) 2 (.slice (some ⟨w.heap.size, 0, none⟩) 0 0) 0 [] := Row.made w 2 _ #[] (0, 0) 0 0 [] rfl rfl (Nat.le_refl _) (by decide) (.inl rfl) (by simp)
 go_enter Tryz.func246, Tryz.ntmps246
 go_wp2_with (at_builtin; go_must (refine wpList_append_row _ rfl (.tmp 5) (.tmp 6) 35 rfl 276 i0 (.agg #[.int .i64 0, .int .i64 0]) 2 16 Tryz.underlying35 hi hz0 hz1 hz2 rfl (by decide) (.slice (some ⟨w.heap.size, 0, none⟩) 0 0) 0 [] rfl hrow _ n cap (optCells os) rfl (by rw [optCells_length]; omega) hpos ((ho.below hw0).cells hpos) (one_opts _) (by unfold maxLen; omega) (by omega) ?_))
 intro g1 cap1 w1 hr1 hg1 hown1
 have hb1 := grow_below hw0 hg1 (fun j hj => own_some (Nat.le_refl _) hj)
 have hn1 := grow_new (B := w.heap.size) hown1 (by omega) (fun j hj => own_some (Nat.le_refl _) hj)
 clear hg1 hown1
 go_wp2_with (fail)
 go_ret
 refine ⟨_, rfl, ⟨?_, fun j hj => own_some hn1 hj, hb1⟩⟩
 rw [hl]
 exact hr1
theorem clone_any (a : Option Addr) (n cap : Nat) (os : List Opt) (w : World) (hn : n ≤ 1000000) (hnil : NilOk a cap) (ho : OptR w a n os) :
 Calls Tryz.prog 246 #[.slice a n cap] w fun e w' => ∃ (v : Value), e = .returned v ∧ Made w w' v os := by
 rcases ho.2 with h0 | ⟨b, off, rfl, hc⟩
 · subst h0
   have hos : os = [] := List.eq_nil_of_length_eq_zero ho.1
   subst hos
   cases a with
   | none =>
     obtain rfl := hnil rfl
     exact clone_nil w
   | some a => exact clone_zero a cap w
 · by_cases hpos : 0 < n
   · exact clone_some b off n cap os w hn hpos ho
   · have h0 : n = 0 := by omega
     subst h0
     have hos : os = [] := List.eq_nil_of_length_eq_zero ho.1
     subst hos
     exact clone_zero _ cap w
theorem pol_cells {w w1 : World} {t : TypeId} {x y : Value} (hb : Below (w.alloc (.cells #[x, y] t)).heap.size (w.alloc (.cells #[x, y] t)) w1) :
 w1.cell? ⟨w.heap.size, 0, none⟩ = some x ∧ w1.cell? ⟨w.heap.size, 1, none⟩ = some y ∧ w.heap.size < w1.heap.size := by
 have hz : w.heap.size < (w.alloc (.cells #[x, y] t)).heap.size := by simp
 have hA := fun j => World.cell?_alloc_mark w #[x, y] t (0, 0) j
 exact ⟨(hb.cell (p := ⟨w.heap.size, 0, none⟩) hz).trans (hA 0), (hb.cell (p := ⟨w.heap.size, 1, none⟩) hz).trans (hA 1), Nat.lt_of_lt_of_le hz hb.size⟩
set_option maxRecDepth 100000 in
set_option maxHeartbeats 2000000 in
theorem judge_any (sz mg : Int) (a : Option Addr) (n cap : Nat) (os : List Opt) (w : World) (hmg : 0 ≤ mg) (hmg2 : mg ≤ 255) (hn : n ≤ 1000000) (hnil : NilOk a cap) (ho : OptR w a n os) :
 Calls Tryz.prog 228 #[.agg #[.int .i64 sz, .int .i64 mg], .slice a n cap] w fun e w' => ∃ v, e = .returned (.tuple #[.int .i64 (judgeR mg os).1, v]) ∧ Made w w' v (judgeR mg os).2 := by
 have hw0 : Below w.heap.size w (w.alloc (.cells #[.int .i64 sz, .int .i64 mg] 252)) := below_alloc _ _
 have hA := fun j => World.cell?_alloc_mark w #[.int .i64 sz, .int .i64 mg] 252 (0, 0) j
 by_cases hu : unkL os = []
 · have hunk := unknown_any a n cap os _ hn (ho.below hw0)
   rw [hu] at hunk
   by_cases hb : betL mg os = []
   · have hJ : judgeR mg os = (2, os) := by simp [judgeR, hu, hb]
     rw [hJ]
     clear hJ
     go_enter Tryz.func228, Tryz.ntmps228
     go_wp2_with (fail)
     refine hunk.mono ?_
     rintro e w1 ⟨v, rfl, hM⟩
     obtain ⟨a1, cp1, rfl, _, _⟩ := hM.shape
     obtain ⟨c0, c1, hl⟩ := pol_cells hM.below
     have hb1 := below_chain hw0 hM.below
     have hbet := better_any sz mg a n cap os w1 hmg hmg2 hn (ho.below hb1)
     rw [hb] at hbet
     simp only [List.length_nil]
     clear hunk hM
     go_wp2_with (fail)
     refine hbet.mono ?_
     rintro e w2 ⟨v, rfl, hM⟩
     obtain ⟨a2, cp2, rfl, _, _⟩ := hM.shape
     have hb2 := below_chain hb1 hM.below
     simp only [List.length_nil]
     clear hbet hM
     go_wp2_with (fail)
     refine (clone_any a n cap os w2 hn hnil (ho.below hb2)).mono ?_
     rintro e w3 ⟨v, rfl, hM⟩
     go_wp2_with (fail)
     go_ret2
     exact ⟨_, rfl, hM.from hb2⟩
   · have hJ : judgeR mg os = (3, betL mg os) := by simp [judgeR, hu, hb]
     rw [hJ]
     clear hJ
     go_enter Tryz.func228, Tryz.ntmps228
     go_wp2_with (fail)
     refine hunk.mono ?_
     rintro e w1 ⟨v, rfl, hM⟩
     obtain ⟨a1, cp1, rfl, _, _⟩ := hM.shape
     obtain ⟨c0, c1, hl⟩ := pol_cells hM.below
     have hb1 := below_chain hw0 hM.below
     have hbet := better_any sz mg a n cap os w1 hmg hmg2 hn (ho.below hb1)
     simp only [List.length_nil]
     clear hunk hM
     go_wp2_with (fail)
     refine hbet.mono ?_
     rintro e w2 ⟨v, rfl, hM⟩
     obtain ⟨a2, cp2, rfl, _, _⟩ := hM.shape
     have hM2 := hM.from hb1
     have hpos : (0 : Int) < ((betL mg os).length : Int) := by
      have : (betL mg os).length ≠ 0 := fun h => hb (List.eq_nil_of_length_eq_zero h)
      omega
     clear hbet hM
     go_wp2_with (fail)
     go_ret2
     exact ⟨_, rfl, hM2⟩
 · have hunk := unknown_any a n cap os _ hn (ho.below hw0)
   have hJ : judgeR mg os = (4, unkL os) := by simp [judgeR, hu]
   rw [hJ]
   clear hJ
   go_enter Tryz.func228, Tryz.ntmps228
   go_wp2_with (fail)
   refine hunk.mono ?_
   rintro e w1 ⟨v, rfl, hM⟩
   obtain ⟨a1, cp1, rfl, _, _⟩ := hM.shape
   have hM2 := hM.from hw0
   have hpos : (0 : Int) < ((unkL os).length : Int) := by
    have : (unkL os).length ≠ 0 := fun h => hu (List.eq_nil_of_length_eq_zero h)
    omega
   clear hunk hM
   go_wp2_with (fail)
   go_ret2
   exact ⟨_, rfl, hM2⟩
structure Pol (w : World) (B : Nat) (s m : Int) : Prop where
 c0 : w.cell? ⟨B, 0, none⟩ = some (.int .i64 s)
 c1 : w.cell? ⟨B, 1, none⟩ = some (.int .i64 m)
 f0 : w.frozen? ⟨B, 0, none⟩ = false
 f1 : w.frozen? ⟨B, 1, none⟩ = false
theorem Pol.lt {w : World} {B : Nat} {s m : Int} (h : Pol w B s m) : B < w.heap.size := World.block_lt_of_cell? w _ h.c0
theorem Pol.below {w w' : World} {B : Nat} {s m : Int} (h : Pol w B s m) (hb : Below w.heap.size w w') : Pol w' B s m :=
 ⟨(hb.cell (p := ⟨B, 0, none⟩) h.lt).trans h.c0, (hb.cell (p := ⟨B, 1, none⟩) h.lt).trans h.c1,
   (World.frozen?_of_block (a := ⟨B, 0, none⟩) (hb.block B h.lt)).trans h.f0, (World.frozen?_of_block (a := ⟨B, 1, none⟩) (hb.block B h.lt)).trans h.f1⟩
end Go.Proofs.YtieklnlbljejdaaGreatDoor

namespace Go.Proofs.YtieklnlbljejdaaGreatDoor
open Go.RowKit
open Go.ChangeShapes Go.WideShapes Go.ChangeAt
set_option maxRecDepth 100000 in
theorem open_opts {H : Type} {enc : TypeId × Value → H} {W : World} {a : Option Addr} {n cap : Nat} {d : DataW H} {ps : List MemPlace}
 (h : DataW.Trod enc Tryz.prog W 0 (fun _ => true) true 35 (.slice a n cap) d ps) :
 ∃ os : List Opt, OptR W a n os ∧ NilOk a cap ∧ n ≤ maxLen := by
 obtain ⟨fuel, hf⟩ := h
 rcases Go.Deep.open_slice_pairs Tryz.underlying35 Tryz.underlying276 (by kernel_rfl) rfl rfl (by kernel_rfl) (by kernel_rfl) hf with ⟨hcs, _⟩ | ⟨x, len, cp, m', n', V0, V1, D0, D1, P0, P1, hcs, _, hl, hm, hmm, _, hx⟩
 · simp [Value.cells] at hcs
   obtain ⟨rfl, rfl, rfl⟩ := hcs
   exact ⟨[], ⟨rfl, .inl rfl⟩, fun _ => rfl, by decide⟩
 · simp [Value.cells] at hcs
   obtain ⟨rfl, rfl, rfl⟩ := hcs
   simp at hmm
   have each : ∀ i, i < n → W.cell? (x.add (i * 2)) = some (.int .i64 (intOf (V0 i))) ∧ W.cell? (x.add (i * 2 + 1)) = some (.int .i64 (intOf (V1 i))) := by
    intro i hi
    obtain ⟨q1, q2, q3, q4⟩ := hx i (by omega)
    obtain ⟨k, f0, _, _⟩ := DataW.trod_int Tryz.underlying3 q3
    obtain ⟨n, f1, _, _⟩ := DataW.trod_int Tryz.underlying3 q4
    simp at f0 f1
    exact ⟨by rw [q1, f0]; rfl, by rw [q2, f1]; rfl⟩
   refine ⟨(List.range n).map (fun i => (intOf (V0 i), intOf (V1 i))), ⟨by simp, ?_⟩, fun h => by simp at h, by omega⟩
   by_cases h0 : n = 0
   · exact .inl h0
   · obtain ⟨b, off, spot⟩ := x
     have hc := (each 0 (by omega)).1
     have hspot : spot = none := by simpa [Addr.add] using World.cell?_spot hc
     subst hspot
     refine .inr ⟨b, off, rfl, fun j hj => ?_⟩
     have hj' : j < n := by simpa using hj
     have hq := each j hj'
     rw [add_plain', add_plain'] at hq
     simpa [Nat.add_assoc] using hq
end Go.Proofs.YtieklnlbljejdaaGreatDoor
