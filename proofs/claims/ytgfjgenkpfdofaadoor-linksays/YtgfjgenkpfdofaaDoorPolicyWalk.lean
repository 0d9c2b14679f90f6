/-
  The program's policy package: what New, Asks, Judge and Told answer.
-/
import Derived.Test.YtgfjgenkpfdofaaDoorBase
namespace Go.Proofs.YtgfjgenkpfdofaaDoor
open Go.RowKit

theorem infoOpt : (Tryd.prog.info? 69).map (fun i => (i.zero, i.size, i.bytes)) = some (some (.agg #[.int .i64 0, .int .i64 0]), 2, 16) := by kernel_rfl
theorem zeroPol (w : World) : (zeroValue 56).run Tryd.prog w = .ok (.agg #[.int .i64 0, .int .i64 0]) w := by kernel_rfl

/-- What an end asks for. -/
def asksL (sz mg : Int) : List Opt := (if 0 < sz then [(1, sz)] else []) ++ (if 0 < mg then [(5, mg)] else [])
def isUnk (o : Opt) : Bool := !(o.1 == 1) && !(o.1 == 5)
def unkL (l : List Opt) : List Opt := l.filter isUnk
def bet1 (mg : Int) (o : Opt) : List Opt :=
  if o.1 = 1 ∧ o.2 < 40 then [(1, 40)] else if o.1 = 5 ∧ (o.2 = 0 ∨ o.2 = mg) then [(5, mg % 255 + 1)] else []
def betL (mg : Int) (l : List Opt) : List Opt := l.flatMap (bet1 mg)
/-- The answer's code, and its options. -/
def judgeR (mg : Int) (l : List Opt) : Int × List Opt := if unkL l ≠ [] then (4, unkL l) else if betL mg l ≠ [] then (3, betL mg l) else (2, l)
def told1 (code : Int) (p : Int × Int) (o : Opt) : Int × Int :=
  if code = 4 then (if o.1 = 1 then (0, p.2) else if o.1 = 5 then (p.1, 0) else p)
  else if code = 3 then (if o.1 = 1 ∧ 0 < p.1 ∧ 40 ≤ o.2 then (o.2, p.2) else if o.1 = 5 ∧ 0 < p.2 ∧ 0 < o.2 then (p.1, o.2) else p)
  else p
def toldR (code : Int) (l : List Opt) (p : Int × Int) : Int × Int := l.foldl (told1 code) p

set_option maxRecDepth 100000 in
theorem new_in (sz mg : Int) (w : World) (h1 : ¬ sz < 40) (h2 : ¬ 255 < sz) (h3 : ¬ mg < 1) (h4 : ¬ 255 < mg) :
    Calls Tryd.prog 20 #[.int .i64 sz, .int .i64 mg] w fun e w' => e = .returned (.tuple #[.agg #[.int .i64 sz, .int .i64 mg], .nilIface]) ∧ Below w.heap.size w w' := by
  have hz := zeroPol
  have hb : Below w.heap.size w (w.alloc (.cells #[.int .i64 sz, .int .i64 mg] 56)) := below_alloc _ _
  go_enter Tryd.func20, Tryd.ntmps20
  go_wp2
  refine bodyPost_ret (v := .tuple #[.agg #[.int .i64 sz, .int .i64 mg], .nilIface]) (by simp [results, Tryd.results20, go_sem]) rfl ?_
  exact ⟨rfl, hb⟩
set_option maxRecDepth 100000 in
theorem new_out (sz mg : Int) (w : World) (h : sz < 40 ∨ 255 < sz ∨ mg < 1 ∨ 255 < mg) :
    Calls Tryd.prog 20 #[.int .i64 sz, .int .i64 mg] w fun e w' => e = .returned (.tuple #[.agg #[.int .i64 0, .int .i64 0], .iface 61 (.int .i64 1)]) ∧ Below w.heap.size w w' := by
  have hz := zeroPol
  have hb : Below w.heap.size w (w.alloc (.cells #[.int .i64 0, .int .i64 0] 56)) := below_alloc _ _
  have main : ∀ (Q : Prop), (sz < 40 → Q) → (¬ sz < 40 → 255 < sz → Q) → (¬ sz < 40 → ¬ 255 < sz → mg < 1 → Q) → (¬ sz < 40 → ¬ 255 < sz → ¬ mg < 1 → 255 < mg → Q) → Q := by
    intro Q a b c d
    by_cases h1 : sz < 40
    · exact a h1
    · by_cases h2 : 255 < sz
      · exact b h1 h2
      · by_cases h3 : mg < 1
        · exact c h1 h2 h3
        · exact d h1 h2 h3 (by omega)
  clear h
  refine main _ ?_ ?_ ?_ ?_ <;> clear main
  all_goals
    intros
    go_enter Tryd.func20, Tryd.ntmps20
    go_wp2
    refine bodyPost_ret (v := .tuple #[.agg #[.int .i64 0, .int .i64 0], .iface 61 (.int .i64 1)]) (by simp [results, Tryd.results20, go_sem]) rfl ?_
    exact ⟨rfl, hb⟩

set_option maxRecDepth 100000 in
set_option maxHeartbeats 2000000 in
theorem asks_any (sz mg : Int) (w : World) : Calls Tryd.prog 41 #[.agg #[.int .i64 sz, .int .i64 mg]] w fun e w' => ∃ v, e = .returned v ∧ Made w w' v (asksL sz mg) := by
  obtain ⟨i0, hi, hz0, hz1, hz2⟩ := info_parts infoOpt
  have hw0 : Below w.heap.size w (w.alloc (.cells #[.int .i64 sz, .int .i64 mg] 56)) := below_alloc _ _
  have hA := fun j => World.cell?_alloc_mark w #[.int .i64 sz, .int .i64 mg] 56 (0, 0) j
  by_cases h1 : 0 < sz
  · by_cases h2 : 0 < mg
    · have hL : asksL sz mg = [(1, sz)] ++ [(5, mg)] := by simp [asksL, h1, h2]
      rw [hL]
      go_enter Tryd.func41, Tryd.ntmps41
      go_wp2_with (at_builtin; go_must (refine wpList_append_row _ rfl (.tmp 7) (.tmp 11) 34 rfl 69 i0 (.agg #[.int .i64 0, .int .i64 0]) 2 16 Tryd.underlying34 hi hz0 hz1 hz2 rfl (by decide) (.slice none 0 0) 0 (optCells []) rfl (Row.nil _ 2) _ 1 1 [.int .i64 1, .int .i64 sz] rfl rfl (by decide) (cells_twoN _ _ _ _ _ (by simp)) (one_ints _ _ _ _) (by decide) (by decide) ?_))
      intro g1 cap1 w1 hr1 hg1 hown1
      have hb1 := grow_below (hw0.alloc hw0.size _) hg1 (fun j hj => own_none hj)
      have hn1 := grow_new (B := w.heap.size) hown1 (by omega) (fun j hj => own_none hj)
      have hm1 : w1.cell? ⟨w.heap.size, 1, none⟩ = some (.int .i64 mg) := by
        exact grown_cell hg1 (by simp [Value.ownBlock]) (((below_alloc _ _).cell (p := ⟨w.heap.size, 1, none⟩) (by simp)).trans (hA 1))
      have hl1 : w.heap.size < w1.heap.size := World.block_lt_of_cell? w1 _ hm1
      rw [show ([] : List Opt) = [] from rfl] at hr1
      have hr1' : Row w1 2 (.slice (some ⟨g1, 0, none⟩) 1 cap1) 1 (optCells [(1, sz)]) := hr1
      clear hg1 hown1 hr1
      go_wp2_with (at_builtin; go_must (refine wpList_append_row _ rfl (.tmp 16) (.tmp 20) 34 rfl 69 i0 (.agg #[.int .i64 0, .int .i64 0]) 2 16 Tryd.underlying34 hi hz0 hz1 hz2 rfl (by decide) (.slice (some ⟨g1, 0, none⟩) 1 cap1) 1 (optCells [(1, sz)]) rfl (hr1'.alloc _) _ 1 1 [.int .i64 5, .int .i64 mg] rfl rfl (by decide) (cells_twoN _ _ _ _ _ (by simp)) (one_ints _ _ _ _) (by decide) (by decide) ?_))
      intro g2 cap2 w2 hr2 hg2 hown2
      have hb2 := grow_below (hb1.alloc hb1.size _) hg2 (fun j hj => own_some hn1 hj)
      have hn2 := grow_new (B := w.heap.size) hown2 (by have := hb1.size; omega) (fun j hj => own_some hn1 hj)
      clear hg2 hown2
      go_wp2_with (fail)
      go_ret
      exact ⟨_, rfl, ⟨hr2, fun j hj => own_some hn2 hj, hb2⟩⟩
    · have hL : asksL sz mg = [(1, sz)] := by simp [asksL, h1, h2]
      rw [hL]
      go_enter Tryd.func41, Tryd.ntmps41
      go_wp2_with (at_builtin; go_must (refine wpList_append_row _ rfl (.tmp 7) (.tmp 11) 34 rfl 69 i0 (.agg #[.int .i64 0, .int .i64 0]) 2 16 Tryd.underlying34 hi hz0 hz1 hz2 rfl (by decide) (.slice none 0 0) 0 (optCells []) rfl (Row.nil _ 2) _ 1 1 [.int .i64 1, .int .i64 sz] rfl rfl (by decide) (cells_twoN _ _ _ _ _ (by simp)) (one_ints _ _ _ _) (by decide) (by decide) ?_))
      intro g1 cap1 w1 hr1 hg1 hown1
      have hb1 := grow_below (hw0.alloc hw0.size _) hg1 (fun j hj => own_none hj)
      have hn1 := grow_new (B := w.heap.size) hown1 (by omega) (fun j hj => own_none hj)
      have hm1 : w1.cell? ⟨w.heap.size, 1, none⟩ = some (.int .i64 mg) := by
        exact grown_cell hg1 (by simp [Value.ownBlock]) (((below_alloc _ _).cell (p := ⟨w.heap.size, 1, none⟩) (by simp)).trans (hA 1))
      have hl1 : w.heap.size < w1.heap.size := World.block_lt_of_cell? w1 _ hm1
      clear hg1 hown1
      go_wp2_with (fail)
      go_ret
      exact ⟨_, rfl, ⟨hr1, fun j hj => own_some hn1 hj, hb1⟩⟩
  · by_cases h2 : 0 < mg
    · have hL : asksL sz mg = [(5, mg)] := by simp [asksL, h1, h2]
      rw [hL]
      go_enter Tryd.func41, Tryd.ntmps41
      go_wp2_with (at_builtin; go_must (refine wpList_append_row _ rfl (.tmp 16) (.tmp 20) 34 rfl 69 i0 (.agg #[.int .i64 0, .int .i64 0]) 2 16 Tryd.underlying34 hi hz0 hz1 hz2 rfl (by decide) (.slice none 0 0) 0 (optCells []) rfl (Row.nil _ 2) _ 1 1 [.int .i64 5, .int .i64 mg] rfl rfl (by decide) (cells_twoN _ _ _ _ _ (by simp)) (one_ints _ _ _ _) (by decide) (by decide) ?_))
      intro g1 cap1 w1 hr1 hg1 hown1
      have hb1 := grow_below (hw0.alloc hw0.size _) hg1 (fun j hj => own_none hj)
      have hn1 := grow_new (B := w.heap.size) hown1 (by omega) (fun j hj => own_none hj)
      clear hg1 hown1
      go_wp2_with (fail)
      go_ret
      exact ⟨_, rfl, ⟨hr1, fun j hj => own_some hn1 hj, hb1⟩⟩
    · have hL : asksL sz mg = [] := by simp [asksL, h1, h2]
      rw [hL]
      go_enter Tryd.func41, Tryd.ntmps41
      go_wp2_with (fail)
      go_ret
      exact ⟨_, rfl, ⟨Row.nil _ 2, fun j hj => own_none hj, hw0⟩⟩

set_option maxRecDepth 100000 in
set_option maxHeartbeats 2000000 in
theorem unknown_any (a : Option Addr) (n cap : Nat) (os : List Opt) (w : World) (hn : n ≤ 1000000) (ho : OptR w a n os) :
    Calls Tryd.prog 47 #[.slice a n cap] w fun e w' => ∃ v, e = .returned v ∧ Made w w' v (unkL os) := by
  obtain ⟨i0, hi, hz0, hz1, hz2⟩ := info_parts infoOpt
  go_enter Tryd.func47, Tryd.ntmps47
  go_wp2_with (fail)
  go_loopw [3, 8] (fun out i wr => ∃ (k : Nat) (ao : Option Addr) (m cp : Nat), k ≤ n ∧ out = .slice ao m cp ∧ i = .int .i64 k ∧ m ≤ k ∧ Row wr 2 (.slice ao m cp) m (optCells (unkL (os.take k))) ∧ (∀ j, Value.ownBlock (.slice ao m cp) = some j → w.heap.size ≤ j) ∧ Below w.heap.size w wr) (fun _ i _ => n - (intOf i).toNat)
  case atStart => exact ⟨0, none, 0, 0, Nat.zero_le _, rfl, rfl, Nat.le_refl _, by simpa [unkL, optCells] using Row.nil w 2, fun j hj => own_none hj, Below.refl _ _⟩
  case round =>
    obtain ⟨k, ao, m, cp, hk, rfl, rfl, hmk, hrow, hnew, hbel⟩ := hrel
    by_cases hlt : k < n
    · have hor := ho.below hbel
      rcases hor.2 with h0 | ⟨b, off, rfl, hc⟩
      · omega
      have hlo : k < os.length := by rw [ho.1]; exact hlt
      obtain ⟨c1, c2⟩ := hc k hlo
      have HT : Hid (os.take (k + 1) = os.take k ++ [os[k]]) := List.take_succ_eq_append_getElem hlo
      generalize os[k] = o at c1 c2 HT
      clear hc
      have hlt' : (k : Int) < (n : Int) := by omega
      cases q1 : (o.1 == 1)
      · cases q5 : (o.1 == 5)
        · have p1 : (o.1 != 1) = true := by simp [bne, q1]
          have p5 : (o.1 != 5) = true := by simp [bne, q5]
          have HU : Hid (unkL (os.take (k + 1)) = unkL (os.take k) ++ [o]) := by
            show _ = _
            rw [HT.out, unkL, List.filter_append]
            simp [isUnk, q1, q5]
            rfl
          go_wp2_with (at_builtin; go_must (refine wpList_append_row _ rfl (.tmp 20) (.tmp 22) 34 rfl 69 i0 (.agg #[.int .i64 0, .int .i64 0]) 2 16 Tryd.underlying34 hi hz0 hz1 hz2 rfl (by decide) (.slice ao m cp) m (optCells (unkL (os.take k))) rfl ((hrow.alloc _).alloc _) _ 1 1 [.int .i64 o.1, .int .i64 o.2] rfl rfl (by decide) (cells_twoN _ _ _ _ _ (by simp)) (one_ints _ _ _ _) (by unfold maxLen; omega) (by omega) ?_))
          intro g' cap' w1 hr1 hg1 hown1
          have hb1 := grow_below ((hbel.alloc hbel.size _).alloc (by simp; have := hbel.size; omega) _) hg1 hnew
          have hn1 := grow_new (B := w.heap.size) hown1 (by have := hbel.size; omega) hnew
          rw [← optCells_snoc, ← HU.out] at hr1
          clear hg1 hown1
          go_wp2_with (fail)
          go_roundw
          case rel => exact ⟨k + 1, _, m + 1, cap', by omega, rfl, by go_num, by omega, hr1, fun j hj => own_some hn1 hj, hb1⟩
          case measure => simp [intOf]; omega
        · have p1 : (o.1 != 1) = true := by simp [bne, q1]
          have p5 : (o.1 != 5) = false := by simp [bne, q5]
          have HU : Hid (unkL (os.take (k + 1)) = unkL (os.take k)) := by
            show _ = _
            rw [HT.out, unkL, List.filter_append]
            simp [isUnk, q1, q5]
            rfl
          have hb1 := hbel.alloc hbel.size (.cells #[.int .i64 o.1, .int .i64 o.2] 69)
          go_wp2_with (fail)
          go_roundw
          case rel => exact ⟨k + 1, _, m, cp, by omega, rfl, by go_num, by omega, by rw [HU.out]; exact hrow.alloc _, hnew, hb1⟩
          case measure => simp [intOf]; omega
      · have p1 : (o.1 != 1) = false := by simp [bne, q1]
        have HU : Hid (unkL (os.take (k + 1)) = unkL (os.take k)) := by
          show _ = _
          rw [HT.out, unkL, List.filter_append]
          simp [isUnk, q1]
          rfl
        have hb1 := hbel.alloc hbel.size (.cells #[.int .i64 o.1, .int .i64 o.2] 69)
        go_wp2_with (fail)
        go_roundw
        case rel => exact ⟨k + 1, _, m, cp, by omega, rfl, by go_num, by omega, by rw [HU.out]; exact hrow.alloc _, hnew, hb1⟩
        case measure => simp [intOf]; omega
    · have hkk : os.take k = os := List.take_of_length_le (by rw [ho.1]; omega)
      rw [hkk] at hrow
      have hml : m = (unkL os).length := by have := hrow.1; rw [optCells_length] at this; omega
      go_wp2_with (fail)
      go_ret
      exact ⟨_, rfl, ⟨by rw [← hml]; exact hrow, hnew, hbel⟩⟩
end Go.Proofs.YtgfjgenkpfdofaaDoor
