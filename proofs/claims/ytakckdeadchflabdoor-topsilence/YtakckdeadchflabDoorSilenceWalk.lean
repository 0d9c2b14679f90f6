/-
  'TopSilence' returns true at all numbers, and changes nothing that was there.
-/
import Derived.Test.YtakckdeadchflabDoorLinkEnd
namespace Go.Proofs.YtakckdeadchflabDoor
open Go.RowKit
namespace topSilence

theorem and_mask (a : Int) : ∃ m : Nat, m ≤ 63 ∧ bits .and .i64 a 63 = (m : Int) := by
  have e : (BitVec.ofInt 64 a &&& BitVec.ofInt 64 63).toNat ≤ 63 := by
    rw [BitVec.toNat_and]
    exact Nat.and_le_right
  refine ⟨(BitVec.ofInt 64 a &&& BitVec.ofInt 64 63).toNat, e, ?_⟩
  show IntKind.i64.wrap ((BitVec.ofInt 64 a &&& BitVec.ofInt 64 63).toNat : Int) = _
  rw [IntKind.wrap_i64]
  omega

/-- An end that nobody answers, behind k ticks; how often it has asked. -/
def Sil (w : World) (B : Nat) (S M : Int) (k : Nat) (asked : Int) : Prop :=
  (∃ q r : Nat, k = 3 * q + r ∧ r < 3 ∧ q < 4 ∧ asked = 1 + (q : Int) ∧ Lk w B (lkC S M S M S M 6 255 (3 - (q : Int)) (3 - (r : Int)) (1 + (q : Int)) nilS)) ∨
  (12 ≤ k ∧ asked = 4 ∧ Lk w B (lkC S M S M S M 3 255 0 0 4 nilS))

set_option maxRecDepth 100000 in
set_option maxHeartbeats 8000000 in
theorem walk_in (S M t : Int) (w : World) (hT : TabOk w) (h1 : ¬ S < 40) (h2 : ¬ 255 < S) (h3 : ¬ M < 1) (h4 : ¬ 255 < M) :
    Calls Tryd.prog 4 #[.int .i64 S, .int .i64 M, .int .i64 t] w fun e w' => e = .returned (.bool true) ∧ Below w.heap.size w w' := by
  obtain ⟨n, hn, hand⟩ := and_mask t
  have h0 := hT.lt
  go_enter Tryd.func4, Tryd.ntmps4
  go_wp2_with (fail)
  refine (end_in 90 7 w hT (by decide) (by decide) (by decide) (by decide)).mono ?_
  rintro e w1 ⟨A, g, c, rfl, hL, hA, hb⟩
  have hT1 := hT.below hb
  go_wp2_with (fail)
  refine (out_any A _ _ _ _ _ _ _ _ _ _ _ _ w1 hL).mono ?_
  rintro e w2 ⟨rfl, hL2, hg2⟩
  have hb2 := below_grown hb hg2 hA
  have hT2 := hT1.grown hg2 (by omega)
  clear hL hL2 hg2 hT1
  go_wp2_with (fail)
  refine (end_in S M w2 hT2 (by omega) (by omega) (by omega) (by omega)).mono ?_
  rintro e w3 ⟨B, g', c', rfl, hL3, hB, hb3⟩
  have hT3 := hT2.below hb3
  have hb4 := below_chain hb2 hb3
  have hBw : w.heap.size ≤ B := Nat.le_trans hb2.size hB
  go_wp2_with (fail)
  refine (out_any B _ _ _ _ _ _ _ _ _ _ _ _ w3 hL3).mono ?_
  rintro e w4 ⟨rfl, hL4, hg4⟩
  have hb5 := below_grown hb4 hg4 hBw
  have hT4 := hT3.grown hg4 (by omega)
  clear hL3 hg4 hT3 hb4 hT2 hb3 hb2 hb
  go_wp2_with (fail)
  go_loopw [9, 11] (fun ak i wr => ∃ (k : Nat) (asked : Int), k ≤ n ∧ ak = .int .i64 asked ∧ i = .int .i64 k ∧ Sil wr B S M k asked ∧ TabOk wr ∧ Below w.heap.size w wr) (fun _ i _ => n - (intOf i).toNat)
  case atStart => exact ⟨0, 1, Nat.zero_le _, rfl, rfl, .inl ⟨0, 0, rfl, by decide, by decide, rfl, hL4⟩, hT4, hb5⟩
  case round =>
    obtain ⟨k, asked, hk, rfl, rfl, hS, hTr, hbel⟩ := hrel
    clear hL4 hT4 hb5
    by_cases hlt : k < n
    · have hlt' : (k : Int) < (n : Int) := by omega
      rcases hS with ⟨q, r, hkq, hr, hq, rfl, hLr⟩ | ⟨hk12, rfl, hLr⟩
      · by_cases hr2 : r < 2
        · go_wp2_with (fail)
          refine (tick_wait B _ _ _ _ _ _ _ _ _ _ _ wr hLr (by omega) (by omega)).mono ?_
          rintro e v1 ⟨rfl, hL1, hg1⟩
          have hb1 := below_grown hbel hg1 hBw
          have hT1 := hTr.grown hg1 (by omega)
          go_wp2_with (fail)
          refine (out_any B _ _ _ _ _ _ _ _ _ _ _ _ v1 hL1).mono ?_
          rintro e v2 ⟨rfl, hL2, hg2⟩
          have hb2 := below_grown hb1 hg2 hBw
          have hT2 := hT1.grown hg2 (by omega)
          have hS2 : Sil v2 B S M (k + 1) (1 + (q : Int)) := by
            refine .inl ⟨q, r + 1, by omega, by omega, hq, rfl, ?_⟩
            have e1 : (3 : Int) - (r : Int) - 1 = 3 - ((r + 1 : Nat) : Int) := by omega
            rw [e1] at hL2
            exact hL2
          clear hL1 hL2 hLr hg1 hg2 hb1 hT1 hTr hbel
          go_wp2_with (fail)
          go_roundw
          case rel => exact ⟨k + 1, _, by omega, by first | rfl | (congr 1; omega), by go_num, hS2, hT2, hb2⟩
          case measure => simp [intOf]; omega
        · have hr3 : r = 2 := by omega
          subst hr3
          have e3 : (3 : Int) - ((2 : Nat) : Int) = 1 := rfl
          rw [e3] at hLr
          by_cases hq3 : q < 3
          · go_wp2_with (fail)
            refine (tick_again B _ _ _ _ _ _ _ _ _ wr hTr (by omega) hLr (by omega) (by omega) (by omega) (by omega)).mono ?_
            rintro e v1 ⟨rfl, g1, c1, hL1, hg1⟩
            have hb1 := below_grown hbel hg1 hBw
            have hT1 := hTr.grown hg1 (by omega)
            go_wp2_with (fail)
            refine (out_any B _ _ _ _ _ _ _ _ _ _ _ _ v1 hL1).mono ?_
            rintro e v2 ⟨rfl, hL2, hg2⟩
            have hb2 := below_grown hb1 hg2 hBw
            have hT2 := hT1.grown hg2 (by omega)
            have hS2 : Sil v2 B S M (k + 1) (1 + (q : Int) + 1) := by
              refine .inl ⟨q + 1, 0, by omega, by omega, by omega, by omega, ?_⟩
              have e1 : (3 : Int) - (q : Int) - 1 = 3 - ((q + 1 : Nat) : Int) := by omega
              have e2 : ((1 : Int) + (q : Int) + 1) % 256 = 1 + ((q + 1 : Nat) : Int) := by omega
              rw [e1, e2] at hL2
              exact hL2
            clear hL1 hL2 hLr hg1 hg2 hb1 hT1 hTr hbel
            go_wp2_with (fail)
            go_roundw
            case rel => exact ⟨k + 1, _, by omega, by first | rfl | (congr 1; omega), by go_num, hS2, hT2, hb2⟩
            case measure => simp [intOf]; omega
          · have hq4 : q = 3 := by omega
            subst hq4
            have e4 : (3 : Int) - ((3 : Nat) : Int) = 0 := rfl
            have e5 : (1 : Int) + ((3 : Nat) : Int) = 4 := rfl
            rw [e4, e5] at hLr
            go_wp2_with (fail)
            refine (tick_over B _ _ _ _ _ _ _ _ _ wr hTr (by omega) hLr).mono ?_
            rintro e v1 ⟨rfl, hL1, hg1⟩
            have hb1 := below_grown hbel hg1 hBw
            have hT1 := hTr.grown hg1 (by omega)
            go_wp2_with (fail)
            refine (out_any B _ _ _ _ _ _ _ _ _ _ _ _ v1 hL1).mono ?_
            rintro e v2 ⟨rfl, hL2, hg2⟩
            have hb2 := below_grown hb1 hg2 hBw
            have hT2 := hT1.grown hg2 (by omega)
            have hS2 : Sil v2 B S M (k + 1) 4 := .inr ⟨by omega, rfl, hL2⟩
            clear hL1 hL2 hLr hg1 hg2 hb1 hT1 hTr hbel
            go_wp2_with (fail)
            go_roundw
            case rel => exact ⟨k + 1, _, by omega, by first | rfl | (congr 1; omega), by go_num, hS2, hT2, hb2⟩
            case measure => simp [intOf]; omega
      · go_wp2_with (fail)
        refine (tick_rest B _ _ _ _ _ _ _ _ _ _ _ wr hLr).mono ?_
        rintro e v1 ⟨rfl, hL1, hg1⟩
        have hb1 := below_grown hbel hg1 hBw
        have hT1 := hTr.grown hg1 (by omega)
        go_wp2_with (fail)
        refine (out_any B _ _ _ _ _ _ _ _ _ _ _ _ v1 hL1).mono ?_
        rintro e v2 ⟨rfl, hL2, hg2⟩
        have hb2 := below_grown hb1 hg2 hBw
        have hT2 := hT1.grown hg2 (by omega)
        have hS2 : Sil v2 B S M (k + 1) 4 := .inr ⟨by omega, rfl, hL2⟩
        clear hL1 hL2 hLr hg1 hg2 hb1 hT1 hTr hbel
        go_wp2_with (fail)
        go_roundw
        case rel => exact ⟨k + 1, _, by omega, by first | rfl | (congr 1; omega), by go_num, hS2, hT2, hb2⟩
        case measure => simp [intOf]; omega
    · have hkn : k = n := by omega
      subst hkn
      rcases hS with ⟨q, r, hkq, hr, hq, rfl, hLr⟩ | ⟨hk12, rfl, hLr⟩
      · have hdiv : (k : Int) / 3 = (q : Int) := by omega
        have hle : (1 : Int) + (q : Int) ≤ 4 := by omega
        have h12 : ¬ (12 : Int) ≤ (k : Int) := by omega
        have hst := lstate_any B _ _ _ _ _ _ _ _ _ _ _ _ wr hLr
        have hqq : ((1 : Int) + (q : Int) == 1 + (q : Int)) = true := by simp
        clear hkq hr hq hLr hTr hk hlt hn
        go_wp2_with (fail)
        refine hst.mono ?_
        rintro e v1 ⟨rfl, rfl⟩
        go_wp2_with (fail)
        go_ret
        exact ⟨rfl, hbel⟩
      · have h12 : (12 : Int) ≤ (k : Int) := by omega
        have hst := lstate_any B _ _ _ _ _ _ _ _ _ _ _ _ wr hLr
        clear hLr hTr hk hlt
        go_wp2_with (fail)
        refine hst.mono ?_
        rintro e v1 ⟨rfl, rfl⟩
        go_wp2_with (fail)
        go_ret
        exact ⟨by first | rfl | simp, hbel⟩

set_option maxRecDepth 100000 in
set_option maxHeartbeats 2000000 in
theorem walk_out (S M t : Int) (w : World) (hT : TabOk w) (h : S < 40 ∨ 255 < S ∨ M < 1 ∨ 255 < M) :
    Calls Tryd.prog 4 #[.int .i64 S, .int .i64 M, .int .i64 t] w fun e w' => e = .returned (.bool true) ∧ Below w.heap.size w w' := by
  have hE := fun V => end_out S M V h
  clear h
  go_enter Tryd.func4, Tryd.ntmps4
  go_wp2_with (fail)
  refine (end_in 90 7 w hT (by decide) (by decide) (by decide) (by decide)).mono ?_
  rintro e w1 ⟨A, g, c, rfl, hL, hA, hb⟩
  go_wp2_with (fail)
  refine (out_any A _ _ _ _ _ _ _ _ _ _ _ _ w1 hL).mono ?_
  rintro e w2 ⟨rfl, hL2, hg2⟩
  have hb2 := below_grown hb hg2 hA
  clear hL hL2 hg2
  go_wp2_with (fail)
  refine (hE _).mono ?_
  rintro e w3 ⟨rfl, hb3⟩
  have hb4 := below_chain hb2 hb3
  go_wp2_with (fail)
  go_ret
  exact ⟨rfl, hb4⟩
theorem walk (S M t : Int) (w : World) (hT : TabOk w) :
    Calls Tryd.prog 4 #[.int .i64 S, .int .i64 M, .int .i64 t] w fun e w' => e = .returned (.bool true) ∧ Below w.heap.size w w' := by
  by_cases h : S < 40 ∨ 255 < S ∨ M < 1 ∨ 255 < M
  · exact walk_out S M t w hT h
  · exact walk_in S M t w hT (by omega) (by omega) (by omega) (by omega)
end topSilence
end Go.Proofs.YtakckdeadchflabDoor
