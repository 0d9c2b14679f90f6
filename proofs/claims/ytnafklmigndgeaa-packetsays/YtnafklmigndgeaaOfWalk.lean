/-
  The document's PacketOf: what it answers.
-/
import Derived.Test.YtnafklmigndgeaaFaultWalk
namespace Go.Proofs.Ytnafklmigndgeaa
open Go.RowKit Plain

/-- What PacketOf answers. -/
def ParsedN (l : List UInt8) (w : World) (e : Ending) (w' : World) : Prop :=
  ∃ (a : Option Addr) (n cap f : Nat) (code id : Int) (os : List Opt), e = .returned (.tuple #[.agg #[.int .i64 code, .int .i64 id, .slice a n cap], .int .i64 (f : Int)]) ∧ OptR w' a n os ∧ n ≤ cap ∧ parseR l = (code, id, os, f) ∧ Below w.heap.size w w'

set_option maxRecDepth 100000 in
set_option maxHeartbeats 4000000 in
theorem of_good (s : ByteArray) (w : World) (hs : s.size ≤ 1000) (h3 : 3 ≤ s.size) (heq : (s.size : Int) = (3 : Int) + (2 : Int) * (s[2].toNat : Int)) :
    Calls Try.prog 26 #[.string s] w fun e w' => ParsedN s.data.toList w e w' := by
  obtain ⟨i0, hi, hz0, hz1, hz2⟩ := info_parts info70
  have hz := zero47
  have g1 : ¬ (s.size : Int) < 3 := by omega
  have hb2 := s[2].toNat_lt
  have g2 : ((s.size : Int) != (3 : Int) + (2 : Int) * (s[2].toNat : Int)) = false := by rw [heq]; simp
  have HE : Hid _ := heq
  clear heq
  have b0 : 0 < s.size := by omega
  have b1 : 1 < s.size := by omega
  have b2 : 2 < s.size := by omega
  have hb0 := s[0].toNat_lt
  have hb1 := s[1].toNat_lt
  have z0 : (0 : Int) < (s.size : Int) := by omega
  have z1 : (1 : Int) < (s.size : Int) := by omega
  go_enter Try.func26, Try.ntmps26
  go_wp2_with (fail)
  go_region
  go_wp2_with (fail)
  go_loopw [5] (fun i wr => ∃ (k cp : Nat) (ao : Option Addr) (ok : List Opt), 3 + 2 * k ≤ s.size ∧ i = .int .i64 ((3 + 2 * k : Nat) : Int) ∧ ok.length = k ∧ pairs (s.data.toList.drop 3) = ok ++ pairs (s.data.toList.drop (3 + 2 * k)) ∧ Row wr 2 (.slice ao k cp) k (optCells ok) ∧
      wr.heap[w.heap.size + 1]? = some (.cells #[.int .i64 (s[0].toNat : Int), .int .i64 (s[1].toNat : Int), .slice ao k cp] 47 (0, 0)) ∧ wr.heap[w.heap.size]? = some (.cells #[.int .i64 0, .int .i64 0, .slice none 0 0] 47 (0, 0)) ∧
      (∀ j, Value.ownBlock (.slice ao k cp) = some j → w.heap.size + 2 ≤ j) ∧ Below w.heap.size w wr)
    (fun i _ => s.size - (intOf i).toNat)
  case atStart =>
    refine ⟨0, 0, none, [], by omega, rfl, rfl, rfl, Row.nil _ _, ?_, ?_, fun j hj => by simp [Value.ownBlock] at hj, (((Below.refl _ _).alloc (Nat.le_refl _) _).alloc (by simp) _).drew⟩
    · exact heap_two_last w _ _
    · exact heap_two_first w _ _
  case round =>
    obtain ⟨k, cp, ao, ok, hk, rfl, hok, hP0, hrow, hpb, hrb, hnew, hbel⟩ := hrel
    have hP : Hid _ := hP0
    clear hP0
    have cv : wr.cell? ⟨w.heap.size + 1, 2, none⟩ = some (.slice ao k cp) := cell_of_row wr _ 2 _ 47 (0, 0) hpb
    have fv : wr.frozen? ⟨w.heap.size + 1, 2, none⟩ = false := frozen_of_row wr _ 2 _ 47 hpb
    have hzz : w.heap.size + 1 < wr.heap.size := World.block_lt_of_cell? wr _ cv
    have HPB : Hid _ := hpb
    have HRB : Hid _ := hrb
    clear hpb hrb
    by_cases hlt : 3 + 2 * k < s.size
    · have hlt1 : 3 + 2 * k + 1 < s.size := by have := HE.out; omega
      obtain ⟨q, hq⟩ : ∃ q, q = 3 + 2 * k := ⟨_, rfl⟩
      rw [← hq] at hlt hlt1
      have HQ : Hid (q = 3 + 2 * k) := hq
      have y0 : (0 : Int) ≤ (q : Int) := by omega
      have y1 : (q : Int) < (s.size : Int) := by omega
      have y2 : (q : Int) + 1 < (s.size : Int) := by omega
      have y3 : (0 : Int) ≤ (q : Int) + 1 := by omega
      have yw : IntKind.i64.wrap ((q : Int) + 1) = (q : Int) + 1 := IntWalk.i64_in _ ⟨by omega, by omega⟩
      have hbq := s[q].toNat_lt
      have hbq1 := s[q + 1].toNat_lt
      have m1 : k + 1 ≤ maxLen := by unfold maxLen; omega
      have bb1 : (k + 1) * 16 ≤ 140737488355328 := by omega
      rw [← hq]
      clear hq
      have HP2 : Hid (pairs (s.data.toList.drop 3) = (ok ++ [((s[q].toNat : Int), (s[q + 1].toNat : Int))]) ++ pairs (s.data.toList.drop (3 + 2 * (k + 1)))) := by
        show pairs (s.data.toList.drop 3) = _
        rw [hP.out, ← HQ.out, pdrop_cons s q hlt, pdrop_cons s (q + 1) hlt1]
        have e1 : q + 1 + 1 = 3 + 2 * (k + 1) := by have := HQ.out; omega
        rw [e1]
        simp [pairs]
      go_wp2_with (fail)
      go_region_law ((refine step_append_row (by rfl) (.tmp 34) (.tmp 45) 45 (by rfl) 70 i0 (.agg #[.int .i64 0, .int .i64 0]) 2 16 Try.underlying45 hi hz0 hz1 hz2 (by rfl) (by decide) (.slice ao k cp) k (optCells ok) (by rfl) ((hrow.alloc _).drew) _ 1 1 [.int .i64 (IntKind.i64.wrap (s[q].toNat : Int)), .int .i64 (IntKind.i64.wrap (s[q + 1].toNat : Int))] (by rfl) (by rfl) (by decide) (cells_two_drew _ _ _ _) (one_ints _ _ _ _) m1 bb1 ?_; intro g' cap' x1 hr1 hg1 hown1; have c1 := keep_cell hnew hg1 cv; have f1 := keep_frozen hnew hg1 cv fv))
      all_goals have hS := parse_step (c := (s[0].toNat : Int)) (d := (s[1].toNat : Int)) HPB.out HRB.out hrow hnew hbel hr1 hg1 hown1 s[q].toNat_lt s[q + 1].toNat_lt
      all_goals clear hr1 hg1 hown1 c1 f1
      all_goals go_wp2_with (fail)
      all_goals go_roundw
      all_goals first
        | exact ⟨k + 1, cap', some ⟨g', 0, none⟩, _, by have := HQ.out; omega, by have := HQ.out; go_num, by simp [hok], HP2.out, hS⟩
        | (simp [intOf]; omega)
    · have hkm : 3 + 2 * k = s.size := by omega
      have hoks : pairs (s.data.toList.drop 3) = ok := by
        rw [hP.out, hkm, List.drop_eq_nil_of_le (by show s.size ≤ s.size; omega)]
        simp [pairs]
      have hopt := hrow.opts
      have hcp := hrow.cap_le
      have c0 : wr.cell? ⟨w.heap.size + 1, 0, none⟩ = some (.int .i64 (s[0].toNat : Int)) := cell_of_row wr _ 0 _ 47 (0, 0) HPB.out
      have c1 : wr.cell? ⟨w.heap.size + 1, 1, none⟩ = some (.int .i64 (s[1].toNat : Int)) := cell_of_row wr _ 1 _ 47 (0, 0) HPB.out
      have hcall := fault_any (s[0].toNat : Int) (s[1].toNat : Int) ao k cp ok wr (by unfold maxLen; omega) hopt
      have HK : Hid (pairs (s.data.toList.drop 3) = ok) := hoks
      clear hP hoks hkm
      by_cases hf : packF (s[0].toNat : Int) (s[1].toNat : Int) ok = 0
      · rw [hf] at hcall
        have HF : Hid _ := hf
        clear hf
        go_wp2_with (fail)
        refine hcall.mono ?_
        rintro e w1 ⟨rfl, hb1⟩
        have d0 := (hb1.cell (p := ⟨w.heap.size + 1, 0, none⟩) hzz).trans c0
        have d1 := (hb1.cell (p := ⟨w.heap.size + 1, 1, none⟩) hzz).trans c1
        have d2 := (hb1.cell (p := ⟨w.heap.size + 1, 2, none⟩) hzz).trans cv
        obtain ⟨r0, r1, r2, r3⟩ := parse_result HRB.out hb1
        have hw2 := below_chain hbel hb1
        have hE := parse_end (x := .int .i64 (s[0].toNat : Int)) (y := .int .i64 (s[1].toNat : Int)) (z := .slice ao k cp) (hrow.below hb1) hnew hw2
        have HV : Hid (parseR s.data.toList = ((s[0].toNat : Int), (s[1].toNat : Int), ok, 0)) := by
          show parseR s.data.toList = _
          rw [parseR_good s h3 HE.out, HK.out, if_pos HF.out]
        clear hcall hb1 c0 c1 cv hrow
        go_wp2_with (fail)
        refine bodyPost_ret (v := .tuple #[.agg #[.int .i64 (s[0].toNat : Int), .int .i64 (s[1].toNat : Int), .slice ao k cp], .int .i64 0]) (by simp [results, Try.results26, go_sem, r0, r1, r2]) rfl ?_
        exact ⟨ao, k, cp, 0, _, _, ok, rfl, hE.1, hcp, HV.out, hE.2⟩
      · have hpos : (0 : Int) < ((packF (s[0].toNat : Int) (s[1].toNat : Int) ok : Nat) : Int) := by omega
        have HF : Hid _ := hf
        clear hf
        have HV : Hid (parseR s.data.toList = (0, 0, [], 4)) := by
          show parseR s.data.toList = _
          rw [parseR_good s h3 HE.out, HK.out, if_neg HF.out]
        generalize packF (s[0].toNat : Int) (s[1].toNat : Int) ok = ff at hcall hpos
        go_wp2_with (fail)
        refine hcall.mono ?_
        rintro e w1 ⟨rfl, hb1⟩
        obtain ⟨r0, r1, r2, r3⟩ := parse_result HRB.out hb1
        have hw2 := below_chain hbel hb1
        have hE := parse_end (ok := []) (ao := none) (k := 0) (cp := 0) (x := .int .i64 0) (y := .int .i64 0) (z := .slice none 0 0) (Row.nil w1 2) (fun j hj => by simp [Value.ownBlock] at hj) hw2
        clear hcall hb1 c0 c1 cv hrow hopt
        go_wp2_with (fail)
        refine bodyPost_ret (v := .tuple #[.agg #[.int .i64 0, .int .i64 0, .slice none 0 0], .int .i64 4]) (by simp [results, Try.results26, go_sem, r0, r1, r2]) rfl ?_
        exact ⟨none, 0, 0, 4, 0, 0, [], rfl, hE.1, Nat.le_refl _, HV.out, hE.2⟩

set_option maxRecDepth 100000 in
set_option maxHeartbeats 2000000 in
theorem of_bad (s : ByteArray) (w : World) (hs : s.size ≤ 1000) (h : parseR s.data.toList = (0, 0, [], 4)) (hb : s.size < 3 ∨ ∃ h3 : 3 ≤ s.size, (s.size : Int) ≠ (3 : Int) + (2 : Int) * (s[2].toNat : Int)) :
    Calls Try.prog 26 #[.string s] w fun e w' => ParsedN s.data.toList w e w' := by
  have hz := zero47
  have HV : Hid _ := h
  clear h
  have hw1 : Below w.heap.size w (w.alloc (.cells #[.int .i64 0, .int .i64 0, .slice none 0 0] 47)) := (Below.refl _ _).alloc (Nat.le_refl _) _
  have hnil : OptR (w.alloc (.cells #[.int .i64 0, .int .i64 0, .slice none 0 0] 47)) none 0 [] := ⟨rfl, .inl rfl⟩
  rcases hb with h1 | ⟨h3, h2⟩
  · have g1 : (s.size : Int) < 3 := by omega
    go_enter Try.func26, Try.ntmps26
    go_wp2_with (fail)
    refine bodyPost_ret (v := .tuple #[.agg #[.int .i64 0, .int .i64 0, .slice none 0 0], .int .i64 4]) (by simp [results, Try.results26, go_sem]) rfl ?_
    exact ⟨none, 0, 0, 4, 0, 0, [], rfl, hnil, Nat.le_refl _, HV.out, hw1⟩
  · have g1 : ¬ (s.size : Int) < 3 := by omega
    have hb2 := s[2].toNat_lt
    have b2 : 2 < s.size := by omega
    have g2 : ((s.size : Int) != (3 : Int) + (2 : Int) * (s[2].toNat : Int)) = true := by rw [bne_iff_ne]; exact h2
    clear h2
    go_enter Try.func26, Try.ntmps26
    go_wp2_with (fail)
    refine bodyPost_ret (v := .tuple #[.agg #[.int .i64 0, .int .i64 0, .slice none 0 0], .int .i64 4]) (by simp [results, Try.results26, go_sem]) rfl ?_
    exact ⟨none, 0, 0, 4, 0, 0, [], rfl, hnil, Nat.le_refl _, HV.out, hw1⟩

theorem of_any (s : ByteArray) (w : World) (hs : s.size ≤ 1000) : Calls Try.prog 26 #[.string s] w fun e w' => ParsedN s.data.toList w e w' := by
  have hl : s.data.toList.length = s.size := by simp
  by_cases h3 : 3 ≤ s.size
  · by_cases heq : (s.size : Int) = (3 : Int) + (2 : Int) * (s[2].toNat : Int)
    · exact of_good s w hs h3 heq
    · refine of_bad s w hs ?_ (.inr ⟨h3, heq⟩)
      unfold parseR
      rw [byte_get s 2 (by omega), hl, if_pos (.inr heq)]
  · refine of_bad s w hs ?_ (.inl (by omega))
    unfold parseR
    rw [hl, if_pos (.inl (by omega))]
end Go.Proofs.Ytnafklmigndgeaa
