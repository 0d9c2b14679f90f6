/-
  Bytes read as a state, by the program's Parse.
-/
import Derived.Test.YtjchmcclmbmggabStParseBase
namespace Go.Proofs.Ytjchmcclmbmggab
open Go.RowKit St

set_option maxRecDepth 100000 in
set_option maxHeartbeats 4000000 in
theorem parse_good (s : ByteArray) (w : World) (h4 : 4 ≤ s.size) (hs : s.size ≤ 16) (heq : s.size % 2 = 0) :
    Calls Try.prog 35 #[.string s] w fun e w' => ParsedAs errV s.data.toList w e w' := by
  obtain ⟨i0, hi, hz0, hz1, hz2⟩ := info_parts infoEdge
  have hz := zeroState
  have g1 : ¬ (s.size : Int) < 4 := by omega
  have g2 : ¬ (16 : Int) < (s.size : Int) := by omega
  have g3 : (((s.size : Int) - 4) % 2 != 0) = false := by rw [bne_eq_false_iff_eq]; omega
  have HE : Hid _ := heq
  clear heq
  have b0 : 0 < s.size := by omega
  have b1 : 1 < s.size := by omega
  have b2 : 2 < s.size := by omega
  have b3 : 3 < s.size := by omega
  have hb0 := s[0].toNat_lt
  have hb1 := s[1].toNat_lt
  have hb2 := s[2].toNat_lt
  have hb3 := s[3].toNat_lt
  have z0 : (0 : Int) < (s.size : Int) := by omega
  have z1 : (1 : Int) < (s.size : Int) := by omega
  have z2 : (2 : Int) < (s.size : Int) := by omega
  have z3 : (3 : Int) < (s.size : Int) := by omega
  obtain ⟨Q, hQ⟩ : ∃ Q : Int, (s[1].toNat : Int) + (256 : Int) * (s[2].toNat : Int) + (65536 : Int) * (s[3].toNat : Int) = Q := ⟨_, rfl⟩
  have ho1 := or_1 s[1].toNat s[2].toNat (by omega) (by omega)
  have ho2 : bits .or .i64 ((s[1].toNat : Int) + (256 : Int) * (s[2].toNat : Int)) ((s[3].toNat : Int) * (65536 : Int)) = Q := by
    have := or_2 (s[1].toNat + 256 * s[2].toNat) s[3].toNat (by omega) (by omega)
    push_cast at this
    rw [this, hQ]
  have HQQ : Hid _ := hQ
  go_enter Try.func35, Try.ntmps35
  go_wp2_with (fail)
  go_region
  go_wp2_with (fail)
  try rw [HQQ.out]
  try clear hQ
  try clear ho1
  try clear ho2
  obtain ⟨X0, hX0⟩ : ∃ X0 : Int, (s[0].toNat : Int) = X0 := ⟨_, rfl⟩
  have HX0 : Hid _ := hX0
  rw [hX0]
  clear hX0 hb0 hb1 hb2 hb3
  go_loopw [5] (fun i wr => ∃ (k cp : Nat) (ao : Option Addr) (ok : List Opt), 4 + 2 * k ≤ s.size ∧ i = .int .i64 ((4 + 2 * k : Nat) : Int) ∧ ok.length = k ∧ pairs (s.data.toList.drop 4) = ok ++ pairs (s.data.toList.drop (4 + 2 * k)) ∧ Row wr 2 (.slice ao k cp) k (optCells ok) ∧
      wr.heap[w.heap.size + 1]? = some (.cells #[.int .i64 X0, .int .i64 Q, .slice ao k cp] 62 (0, 0)) ∧ wr.heap[w.heap.size]? = some (.cells #[.int .i64 0, .int .i64 0, .slice none 0 0] 62 (0, 0)) ∧
      (∀ j, Value.ownBlock (.slice ao k cp) = some j → w.heap.size + 2 ≤ j) ∧ Below w.heap.size w wr)
    (fun i _ => s.size - (intOf i).toNat)
  case atStart =>
    refine ⟨0, 0, none, [], by omega, rfl, rfl, rfl, Row.nil _ _, ?_, ?_, fun j hj => by simp [Value.ownBlock] at hj, (((Below.refl _ _).alloc (Nat.le_refl _) _).alloc (by simp) _).drew⟩
    · exact heap_two_last w _ _
    · exact heap_two_first w _ _
  case round =>
    obtain ⟨k, cp, ao, ok, hk, rfl, hok, hP0, hrow, hpb, hrb, hnew, hbel⟩ := hrel
    have hP : Hid _ := hP0
    clear hP0
    have cv : wr.cell? ⟨w.heap.size + 1, 2, none⟩ = some (.slice ao k cp) := cell_of_row wr _ 2 _ 62 (0, 0) hpb
    have fv : wr.frozen? ⟨w.heap.size + 1, 2, none⟩ = false := frozen_of_row wr _ 2 _ 62 hpb
    have hzz : w.heap.size + 1 < wr.heap.size := World.block_lt_of_cell? wr _ cv
    have HPB : Hid _ := hpb
    have HRB : Hid _ := hrb
    clear hpb hrb
    by_cases hlt : 4 + 2 * k < s.size
    · have hlt1 : 4 + 2 * k + 1 < s.size := by have := HE.out; omega
      obtain ⟨q, hq⟩ : ∃ q, q = 4 + 2 * k := ⟨_, rfl⟩
      rw [← hq] at hlt hlt1
      have HQ : Hid (q = 4 + 2 * k) := hq
      have y0 : (0 : Int) ≤ (q : Int) := by omega
      have y1 : (q : Int) < (s.size : Int) := by omega
      have y2 : (q : Int) + 1 < (s.size : Int) := by omega
      have y3 : (0 : Int) ≤ (q : Int) + 1 := by omega
      have yw : IntKind.i64.wrap ((q : Int) + 1) = (q : Int) + 1 := IntWalk.i64_in _ ⟨by omega, by omega⟩
      have hbq := s[q].toNat_lt
      have hbq1 := s[q + 1].toNat_lt
      have m1 : k + 1 ≤ maxLen := by unfold maxLen; omega
      have bb1 : (k + 1) * 16 ≤ 140737488355328 := by omega
      rw [← hq]
      clear hq
      have HP2 : Hid (pairs (s.data.toList.drop 4) = (ok ++ [((s[q].toNat : Int), (s[q + 1].toNat : Int))]) ++ pairs (s.data.toList.drop (4 + 2 * (k + 1)))) := by
        show pairs (s.data.toList.drop 4) = _
        rw [hP.out, ← HQ.out, pdrop_cons s q hlt, pdrop_cons s (q + 1) hlt1]
        have e1 : q + 1 + 1 = 4 + 2 * (k + 1) := by have := HQ.out; omega
        rw [e1]
        simp [pairs]
      go_wp2_with (fail)
      go_region_law ((refine step_append_row (by rfl) (.tmp 47) (.tmp 58) 60 (by rfl) 118 i0 (.agg #[.int .i64 0, .int .i64 0]) 2 16 Try.underlying60 hi hz0 hz1 hz2 (by rfl) (by decide) (.slice ao k cp) k (optCells ok) (by rfl) ((hrow.alloc _).drew) _ 1 1 [.int .i64 (IntKind.i64.wrap (s[q].toNat : Int)), .int .i64 (IntKind.i64.wrap (s[q + 1].toNat : Int))] (by rfl) (by rfl) (by decide) (cells_two_drew _ _ _ _) (one_ints _ _ _ _) m1 bb1 ?_; intro g' cap' x1 hr1 hg1 hown1; have c1 := keep_cell hnew hg1 cv; have f1 := keep_frozen hnew hg1 cv fv))
      all_goals have hS := parse_step (c := X0) (d := Q) HPB.out HRB.out hrow hnew hbel hr1 hg1 hown1 s[q].toNat_lt s[q + 1].toNat_lt
      all_goals clear hr1 hg1 hown1 c1 f1
      all_goals go_wp2_with (fail)
      all_goals go_roundw
      all_goals first
        | exact ⟨k + 1, cap', some ⟨g', 0, none⟩, _, by have := HQ.out; omega, by have := HQ.out; go_num, by simp [hok], HP2.out, hS⟩
        | (simp [intOf]; omega)
    · have hkm : 4 + 2 * k = s.size := by omega
      have hoks : pairs (s.data.toList.drop 4) = ok := by
        rw [hP.out, hkm, List.drop_eq_nil_of_le (by show s.size ≤ s.size; omega)]
        simp [pairs]
      have hopt := hrow.opts
      have hcp := hrow.cap_le
      have c0 : wr.cell? ⟨w.heap.size + 1, 0, none⟩ = some (.int .i64 X0) := cell_of_row wr _ 0 _ 62 (0, 0) HPB.out
      have c1 : wr.cell? ⟨w.heap.size + 1, 1, none⟩ = some (.int .i64 Q) := cell_of_row wr _ 1 _ 62 (0, 0) HPB.out
      have hcall := check_any X0 Q ao k cp ok wr (by omega) hopt
      have HK : Hid (pairs (s.data.toList.drop 4) = ok) := hoks
      clear hP hoks hkm
      by_cases hf : stF X0 Q ok = 0
      · have e0 : errV 0 = .nilIface := rfl
        rw [hf, e0] at hcall
        clear e0
        have HF : Hid _ := hf
        clear hf
        go_wp2_with (fail)
        refine hcall.mono ?_
        rintro e w1 ⟨rfl, hb1⟩
        have d0 := (hb1.cell (p := ⟨w.heap.size + 1, 0, none⟩) hzz).trans c0
        have d1 := (hb1.cell (p := ⟨w.heap.size + 1, 1, none⟩) hzz).trans c1
        have d2 := (hb1.cell (p := ⟨w.heap.size + 1, 2, none⟩) hzz).trans cv
        obtain ⟨r0, r1, r2, r3⟩ := parse_result HRB.out hb1
        have hw2 := below_chain hbel hb1
        have hE := parse_end (x := .int .i64 X0) (y := .int .i64 Q) (z := .slice ao k cp) (hrow.below hb1) hnew hw2
        have HV : Hid (parseR s.data.toList = (X0, Q, ok, 0)) := by
          show parseR s.data.toList = _
          rw [parseR_good s Q h4 HE.out HQQ.out, HX0.out, HK.out, if_pos HF.out]
        clear hcall hb1 c0 c1 cv hrow
        go_wp2_with (fail)
        refine bodyPost_ret (v := .tuple #[.agg #[.int .i64 X0, .int .i64 Q, .slice ao k cp], .nilIface]) (by simp [results, Try.results35, go_sem, r0, r1, r2]) rfl ?_
        exact ⟨ao, k, cp, 0, _, _, ok, rfl, hE.1, hcp, HV.out, hE.2⟩
      · have e0 : errV (stF X0 Q ok) = .iface 111 (.int .i64 (stF X0 Q ok : Int)) := by simp [errV, hf]
        rw [e0] at hcall
        clear e0
        have HF : Hid _ := hf
        clear hf
        have HV : Hid (parseR s.data.toList = (0, 0, [], 4)) := by
          show parseR s.data.toList = _
          rw [parseR_good s Q h4 HE.out HQQ.out, HX0.out, HK.out, if_neg HF.out]
        generalize stF X0 Q ok = ff at hcall
        go_wp2_with (fail)
        refine hcall.mono ?_
        rintro e w1 ⟨rfl, hb1⟩
        obtain ⟨r0, r1, r2, r3⟩ := parse_result HRB.out hb1
        have hw2 := below_chain hbel hb1
        have hE := parse_end (ok := []) (ao := none) (k := 0) (cp := 0) (x := .int .i64 0) (y := .int .i64 0) (z := .slice none 0 0) (Row.nil w1 2) (fun j hj => by simp [Value.ownBlock] at hj) hw2
        clear hcall hb1 c0 c1 cv hrow hopt
        go_wp2_with (fail)
        refine bodyPost_ret (v := .tuple #[.agg #[.int .i64 0, .int .i64 0, .slice none 0 0], .iface 111 (.int .i64 4)]) (by simp [results, Try.results35, go_sem, r0, r1, r2]) rfl ?_
        exact ⟨none, 0, 0, 4, 0, 0, [], rfl, hE.1, Nat.le_refl _, HV.out, hE.2⟩

set_option maxRecDepth 100000 in
set_option maxHeartbeats 2000000 in
theorem parse_bad (s : ByteArray) (w : World) (hs : s.size ≤ maxLen) (h : parseR s.data.toList = (0, 0, [], 4)) (hb : s.size < 4 ∨ 16 < s.size ∨ s.size % 2 = 1) :
    Calls Try.prog 35 #[.string s] w fun e w' => ParsedAs errV s.data.toList w e w' := by
  have hz := zeroState
  have HV : Hid _ := h
  clear h
  unfold maxLen at hs
  have hw1 := below_alloc w (.cells #[.int .i64 0, .int .i64 0, .slice none 0 0] 62)
  have hnil : OptR (w.alloc (.cells #[.int .i64 0, .int .i64 0, .slice none 0 0] 62)) none 0 [] := ⟨rfl, .inl rfl⟩
  have g0 : (0 : Int) ≤ (s.size : Int) := by omega
  rcases (show s.size < 4 ∨ (4 ≤ s.size ∧ 16 < s.size) ∨ (4 ≤ s.size ∧ s.size ≤ 16 ∧ s.size % 2 = 1) by omega) with h1 | h1 | h1
  · have g1 : (s.size : Int) < 4 := by omega
    go_enter Try.func35, Try.ntmps35
    go_wp2_with (fail)
    refine bodyPost_ret (v := .tuple #[.agg #[.int .i64 0, .int .i64 0, .slice none 0 0], .iface 111 (.int .i64 4)]) (by simp [results, Try.results35, go_sem]) rfl ?_
    exact ⟨none, 0, 0, 4, 0, 0, [], rfl, hnil, Nat.le_refl _, HV.out, hw1⟩
  · have g1 : ¬ (s.size : Int) < 4 := by omega
    have g2 : (16 : Int) < (s.size : Int) := by omega
    go_enter Try.func35, Try.ntmps35
    go_wp2_with (fail)
    refine bodyPost_ret (v := .tuple #[.agg #[.int .i64 0, .int .i64 0, .slice none 0 0], .iface 111 (.int .i64 4)]) (by simp [results, Try.results35, go_sem]) rfl ?_
    exact ⟨none, 0, 0, 4, 0, 0, [], rfl, hnil, Nat.le_refl _, HV.out, hw1⟩
  · have g1 : ¬ (s.size : Int) < 4 := by omega
    have g2 : ¬ (16 : Int) < (s.size : Int) := by omega
    have g3 : (((s.size : Int) - 4) % 2 != 0) = true := by rw [bne_iff_ne]; omega
    clear hb h1
    go_enter Try.func35, Try.ntmps35
    go_wp2_with (fail)
    refine bodyPost_ret (v := .tuple #[.agg #[.int .i64 0, .int .i64 0, .slice none 0 0], .iface 111 (.int .i64 4)]) (by simp [results, Try.results35, go_sem]) rfl ?_
    exact ⟨none, 0, 0, 4, 0, 0, [], rfl, hnil, Nat.le_refl _, HV.out, hw1⟩

theorem parse_any (s : ByteArray) (w : World) (hs : s.size ≤ maxLen) : Calls Try.prog 35 #[.string s] w fun e w' => ParsedAs errV s.data.toList w e w' := by
  have hl : s.data.toList.length = s.size := by simp
  by_cases h3 : s.size < 4 ∨ 16 < s.size ∨ s.size % 2 = 1
  · refine parse_bad s w hs ?_ h3
    by_cases h16 : 16 < s.size
    · exact parseR_long _ (by omega)
    · unfold parseR
      rw [hl, if_pos (by omega)]
  · exact parse_good s w (by omega) (by omega) (by omega)
end Go.Proofs.Ytjchmcclmbmggab
