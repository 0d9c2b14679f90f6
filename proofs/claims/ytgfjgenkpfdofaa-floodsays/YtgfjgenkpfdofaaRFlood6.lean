/-
  The document's base of states: OwedAt.
-/
import Derived.Test.YtgfjgenkpfdofaaRFlood5
namespace Go.Proofs.Ytgfjgenkpfdofaa
open Go.RowKit St

set_option maxRecDepth 100000 in
set_option maxHeartbeats 4000000 in
theorem rowed_any (M g ports : Nat) (K : Nat → SV) (O : Nat → Nat → Bool) (p : Nat) (hp : p < ports) (w : World) (h : RB w M g ports K O) :
    Calls Try.prog 22 #[.pointer (some ⟨M, 0, none⟩), .int .i64 (p : Int)] w fun e w' => (∃ a cap, e = .returned (.slice a (lstQ K (fun n => O p n && decide (0 < (K n).seq)) 7).length cap) ∧ Row w' 3 (.slice a (lstQ K (fun n => O p n && decide (0 < (K n).seq)) 7).length cap) (lstQ K (fun n => O p n && decide (0 < (K n).seq)) 7).length (svC (lstQ K (fun n => O p n && decide (0 < (K n).seq)) 7))) ∧ Below w.heap.size w w' := by
  obtain ⟨i0, hi, hz0, hz1, hz2⟩ := info_parts infoState
  obtain ⟨sel, hsel⟩ : ∃ sel : Nat → Bool, (fun n => O p n && decide (0 < (K n).seq)) = sel := ⟨_, rfl⟩
  have HSel : Hid (∀ m, sel m = (O p m && decide (0 < (K m).seq))) := fun m => by rw [← hsel]
  rw [hsel]
  clear hsel
  have hp0 : (0 : Int) ≤ (p : Int) := by omega
  have hp2 : (p : Int) < (ports : Int) := by omega
  go_enter Try.func22, Try.ntmps22
  go_wp2_with (fail)
  go_loopw [5, 6] (fun s v wr => ∃ m : Nat, 1 ≤ m ∧ m ≤ 7 ∧ v = .int .i64 m ∧ Row wr 3 s (lstQ K sel m).length (svC (lstQ K sel m)) ∧ (∀ b, s.ownBlock = some b → w.heap.size ≤ b) ∧ Below w.heap.size w wr) (fun _ v _ => 7 - (intOf v).toNat)
  case atStart =>
    refine ⟨1, by omega, by omega, rfl, ?_, fun b hb => by simp [Value.ownBlock] at hb, Below.refl _ _⟩
    have e : lstQ K sel 1 = [] := by simp [lstQ]
    rw [e]
    exact Row.nil _ _
  case round =>
    obtain ⟨m, hm1, hm7, rfl, hrow, hown, hbel⟩ := hrel
    by_cases hm6 : m ≤ 6
    · have hm6' : (m : Int) ≤ 6 := by omega
      have hm7' : (m : Int) < 7 := by omega
      obtain ⟨q0, q1, q2⟩ := kC_get K (.slice (some ⟨g, 0, none⟩) ports ports) m (by omega)
      have hk := h.k.below hbel
      have c0 := (hk.cell (m * 3)).trans q0
      have c1 := (hk.cell (m * 3 + 1)).trans q1
      have c2 := (hk.cell (m * 3 + 2)).trans q2
      have HS : Hid (lstQ K sel (m + 1) = if 1 ≤ m ∧ sel m = true then lstQ K sel m ++ [K m] else lstQ K sel m) := rfl
      have hll := lstQ_length K sel m
      have HOwn : Hid _ := hown
      have HB : Hid _ := hbel
      have c21 := (h.below hbel).owed
      have o1 := ((h.below hbel).o.cell (p * 7 + m)).trans (oC_get ports O p m hp (by omega))
      clear q0 q1 q2 hk
      cases hob : O p m with
      | false =>
        have HS2 : Hid (lstQ K sel (m + 1) = lstQ K sel m) := by
          show _ = _
          rw [HS.out, if_neg (fun e => ?_)]
          rw [HSel.out, hob] at e
          exact absurd e.2 (by simp)
        have HRow : Hid _ := hrow
        rw [hob] at o1
        clear hown hbel HS hrow c0 c1 c2 hob
        go_wp2_with (fail)
        go_roundw
        case rel => exact ⟨m + 1, by omega, by omega, by go_num, by rw [HS2.out]; exact HRow.out, HOwn.out, HB.out⟩
        case measure => simp [intOf]; omega
      | true =>
        by_cases hs : 0 < (K m).seq
        · have HS2 : Hid (lstQ K sel (m + 1) = lstQ K sel m ++ [K m]) := by show _ = _; rw [HS.out, if_pos ⟨hm1, by rw [HSel.out]; rw [hob, decide_eq_true hs]; rfl⟩]
          obtain ⟨s, hse⟩ : ∃ s, K m = s := ⟨_, rfl⟩
          rw [hse] at c0 c1 c2 HS2 hs
          obtain ⟨so, sq, sa, sn, sc⟩ := s
          simp only at c0 c1 c2 hs
          obtain ⟨L, hLe⟩ : ∃ L, lstQ K sel m = L := ⟨_, rfl⟩
          rw [hLe] at HS2 hrow hll
          have hws : Hid (w.heap.size ≤ wr.heap.size) := hbel.size
          rw [hob] at o1
          clear hse hLe hown hbel HS hob
          go_wp2_with (at_builtin; go_must (refine wpList_append_row _ rfl (.tmp 43) (.tmp 50) 56 rfl 35 i0 (.agg #[.int .i64 0, .int .i64 0, .slice none 0 0]) 3 40 Try.underlying56 hi hz0 hz1 hz2 rfl (by decide) u5 L.length (svC L) rfl (hrow.alloc _) _ 1 1 [.int .i64 so, .int .i64 sq, .slice sa sn sc] rfl rfl (by decide) (cells_three _ _ _ _ _ _ (by simp)) (one_sv _ _ _ _ _) (by unfold maxLen; omega) (by omega) ?_))
          intro g' cap' w3 hr3 hg3 hown3
          have HR3 : Hid (Row w3 3 (.slice (some ⟨g', 0, none⟩) (L.length + 1) cap') (L ++ [(⟨so, sq, sa, sn, sc⟩ : SV)]).length (svC (L ++ [(⟨so, sq, sa, sn, sc⟩ : SV)]))) := by
            show Row _ _ _ _ _
            rw [svC_snoc, List.length_append]
            exact hr3
          have kb : Below w.heap.size w (wr.alloc (.cells #[.int .i64 so, .int .i64 sq, .slice sa sn sc] 35)) := Below.alloc HB.out HB.out.size _
          have HB3 : Hid (Below w.heap.size w w3) := ⟨hg3.os.trans kb.os, hg3.tape.trans kb.tape, hg3.output.trans kb.output, Nat.le_trans kb.size hg3.size, fun i hi => (hg3.block i (Nat.lt_of_lt_of_le hi kb.size) (fun e => by have := HOwn.out i e.symm; omega)).trans (kb.block i hi)⟩
          have HG3 : Hid (∀ b, Value.ownBlock (.slice (some ⟨g', 0, none⟩) (L.length + 1) cap') = some b → w.heap.size ≤ b) := by
            intro b hb
            have hgg : g' = b := by simpa [Value.ownBlock] using hb
            subst hgg
            rcases hown3 with e | e
            · exact HOwn.out _ e
            · have := hws.out
              omega
          clear hr3 hg3 hown3 kb hrow c0 c1 c2 o1 c21
          go_wp2_with (fail)
          go_roundw
          case rel => exact ⟨m + 1, by omega, by omega, by go_num, by rw [HS2.out]; exact HR3.out, HG3.out, HB3.out⟩
          case measure => simp [intOf]; omega
        · have HS2 : Hid (lstQ K sel (m + 1) = lstQ K sel m) := by
            show _ = _
            rw [HS.out, if_neg (fun e => ?_)]
            rw [HSel.out, Bool.and_eq_true, decide_eq_true_eq] at e
            exact hs e.2.2
          generalize (K m).seq = kq at c1 hs
          have HRow : Hid _ := hrow
          rw [hob] at o1
          clear hown hbel HS hrow c0 c2 hob
          go_wp2_with (fail)
          go_roundw
          case rel => exact ⟨m + 1, by omega, by omega, by go_num, by rw [HS2.out]; exact HRow.out, HOwn.out, HB.out⟩
          case measure => simp [intOf]; omega
    · have hm6' : ¬ (m : Int) ≤ 6 := by omega
      have hme : m = 7 := by omega
      subst hme
      obtain ⟨ra, rc, rfl⟩ := Row.shape hrow
      have HR : Hid _ := hrow
      have HB : Hid _ := hbel
      clear hrow hown hbel
      go_wp2_with (fail)
      go_ret
      first | exact ⟨⟨_, _, rfl, HR.out⟩, HB.out⟩ | exact ⟨⟨_, ⟨_, rfl⟩, HR.out⟩, HB.out⟩ | exact ⟨⟨_, _, ⟨rfl, rfl⟩, HR.out⟩, HB.out⟩

set_option maxRecDepth 100000 in
set_option maxHeartbeats 4000000 in
theorem rowed_no (M g ports : Nat) (K : Nat → SV) (O : Nat → Nat → Bool) (p : Int) (hp : ¬ (0 ≤ p ∧ p < (ports : Int))) (w : World) (h : RB w M g ports K O) :
    Calls Try.prog 22 #[.pointer (some ⟨M, 0, none⟩), .int .i64 p] w fun e w' => e = .returned (.slice none 0 0) ∧ w = w' := by
  have c21 := h.owed
  have lM := h.k.lt
  have main : ∀ Q : Prop, (decide (0 ≤ p) = false → ¬ 0 ≤ p → Q) → (0 ≤ p → ¬ p < (ports : Int) → decide (p < (ports : Int)) = false → Q) → Q := fun Q q1 q2 => by
    by_cases e : 0 ≤ p
    · exact q2 e (by omega) (decide_eq_false (by omega))
    · exact q1 (decide_eq_false e) e
  clear h hp
  refine main _ ?_ ?_ <;> clear main
  all_goals
    intros
    go_enter Try.func22, Try.ntmps22
    go_wp2_with (fail)
    go_loopw [5, 6] (fun s v wr => ∃ m : Nat, 1 ≤ m ∧ m ≤ 7 ∧ v = .int .i64 m ∧ s = .slice none 0 0 ∧ w = wr) (fun _ v _ => 7 - (intOf v).toNat)
    case atStart => exact ⟨1, by omega, by omega, rfl, rfl, rfl⟩
    case round =>
      obtain ⟨m, hm1, hm7, rfl, rfl, rfl⟩ := hrel
      by_cases hm6 : m ≤ 6
      · have hm6' : (m : Int) ≤ 6 := by omega
        go_wp2_with (fail)
        go_roundw
        case rel => exact ⟨m + 1, by omega, by omega, by go_num, by first | rfl | trivial, by first | rfl | trivial⟩
        case measure => simp [intOf]; omega
      · have hm6' : ¬ (m : Int) ≤ 6 := by omega
        go_wp2_with (fail)
        go_ret
        exact ⟨rfl, rfl⟩
end Go.Proofs.Ytgfjgenkpfdofaa
