/-
  The document's Sum, FrameOf: what they answer.
-/
import Derived.Test.YtnafklmigndgeaaMakeWalk
namespace Go.Proofs.Ytnafklmigndgeaa
open Go.RowKit Plain

set_option maxHeartbeats 1000000 in
theorem rsum_any (s : ByteArray) (w : World) (hs : s.size ≤ maxLen) :
    Calls Try.prog 14 #[.string s] w fun e w' => e = .returned (.int .i64 (Plain.sum s.data.toList : Nat)) ∧ w = w' := by
  unfold maxLen at hs
  go_enter Try.func14, Try.ntmps14
  go_wp2
  go_loop [3, 4] (fun x i => ∃ k : Nat, k ≤ s.size ∧ i = .int .i64 k ∧ x = .int .i64 (reg (s.data.toList.take k) : Nat)) (fun _ i => s.size - (intOf i).toNat)
  case atStart => exact ⟨0, Nat.zero_le _, rfl, rfl⟩
  case round =>
    obtain ⟨k, hk, rfl, rfl⟩ := hrel
    by_cases hlt : k < s.size
    · have hts := take_snoc s k hlt
      have HS : Hid (reg (s.data.toList.take (k + 1)) = turns 8 (reg (s.data.toList.take k) ^^^ s[k].toNat)) := by rw [hts, reg_snoc]; rfl
      have HX : bits .xor .i64 (reg (s.data.toList.take k) : Nat) (wrap64 (s[k].toNat : Nat)) = ((reg (s.data.toList.take k) ^^^ s[k].toNat : Nat) : Int) := by
        have hb := s[k].toNat_lt
        rw [IntWalk.wrap64_in _ ⟨by omega, by omega⟩]
        exact i64_xor_nat _ _ (reg_lt _) (u8_lt _)
      have HB : reg (s.data.toList.take k) ^^^ s[k].toNat < 65536 := xor_lt _ _ (reg_lt _) (u8_lt _)
      clear hts
      generalize reg (s.data.toList.take k) ^^^ s[k].toNat = X at HX HB HS
      go_wp2
      go_loop [3, 5] (fun x i => ∃ j : Nat, j ≤ 8 ∧ i = .int .i64 j ∧ x = .int .i64 (turns j X : Nat)) (fun _ i => 8 - (intOf i).toNat)
      case atStart => exact ⟨0, Nat.zero_le _, rfl, rfl⟩
      case round =>
        obtain ⟨j, hj, rfl, rfl⟩ := hrel
        by_cases hj8 : j < 8
        · have hl := turns_lt j X HB
          have hT : turns (j + 1) X = turn (turns j X) := turns_succ j X
          have ho := turn_odd (turns j X) hl
          have he := turn_even (turns j X)
          generalize turns j X = Y at *
          go_wp2
          all_goals
            go_round
            case rel => exact ⟨j + 1, by omega, by go_num, by rw [hT]; first | rw [ho (by simp_all)] | rw [he (by simp_all)]⟩
            case measure => simp [intOf]; omega
        · have e8 : j = 8 := by omega
          subst e8
          go_wp2
          go_round
          case rel => exact ⟨k + 1, by omega, by go_num, by rw [HS.out]⟩
          case measure => simp [intOf]; omega
    · go_wp2
      go_ret
      have e : k = s.size := by omega
      exact ⟨ret_int (by rw [List.take_of_length_le (by simp; omega)]; exact i64_xor_nat _ 65535 (reg_lt _) (by decide)), rfl⟩

set_option maxRecDepth 100000 in
set_option maxHeartbeats 2000000 in
theorem rframe_yes (s : ByteArray) (w : World) (hs : s.size ≤ 60) :
    Calls Try.prog 11 #[.string s] w fun e w' => e = .returned (.tuple #[.string ⟨(frameL s.data.toList).toArray⟩, .int .i64 0]) ∧ Below w.heap.size w w' := by
  obtain ⟨i0, hi, hz0, hz1, hz2⟩ := info_parts info5
  have hle : ¬ (60 : Int) < (s.size : Int) := by omega
  have hsl := Plain.sum_lt s.data.toList
  obtain ⟨L, hL⟩ : ∃ L, L = withSum s.data.toList := ⟨_, rfl⟩
  have hLl : L.length = s.size + 2 := by rw [hL, withSum_length]; rfl
  have hR : Row (w.alloc (.cells #[.int .u8 ((sum s.data.toList : Nat) % 256 : Int), .int .u8 ((sum s.data.toList : Nat) / 256 : Int)] 5)) 1 (.slice (some ⟨w.heap.size, 0, none⟩) 2 2) 2 (cells8 [sumLo s.data.toList, sumHi s.data.toList]) := by
    refine Row.made w 1 5 _ (0, 0) 2 2 _ rfl rfl (Nat.le_refl _) (by decide) (.inl rfl) ?_
    intro j u hu
    rw [← sumLo_nat, ← sumHi_nat]
    simpa [cells8] using hu
  have hcv := hR.back (P := Try.prog) 62 9 5 Try.underlying62 Try.underlying5 Try.underlying9
  obtain ⟨T, hT⟩ : ∃ T : ByteArray, T = s ++ ⟨[sumLo s.data.toList, sumHi s.data.toList].toArray⟩ := ⟨_, rfl⟩
  have hTL : T.data.toList = L := by rw [hT, hL]; simp [withSum]
  have hTs : T.size = s.size + 2 := by rw [← hLl, ← hTL]; simp
  have hadd : ∀ W : World, (Op.stringOp .add s ⟨[sumLo s.data.toList, sumHi s.data.toList].toArray⟩).run Try.prog W = .ok (.string T) W := by
    intro W
    rw [hT]
    refine run_string_add_sum W _ _ ?_
    show s.size + [sumLo s.data.toList, sumHi s.data.toList].toArray.size ≤ _
    simp; omega
  clear hR hT
  go_enter Try.func11, Try.ntmps11
  go_wp2_with (fail)
  refine (rsum_any _ _ ?hx).mono ?_
  case hx => unfold maxLen; omega
  rintro e w' ⟨rfl, rfl⟩
  go_wp2_with (fail)
  have hE0 : Row ((w.alloc (.cells #[.int .u8 ((sum s.data.toList : Nat) % 256 : Int), .int .u8 ((sum s.data.toList : Nat) / 256 : Int)] 5)).alloc (.cells #[.int .u8 126] 5)) 1 (.slice (some ⟨w.heap.size + 1, 0, none⟩) 1 1) 1 (cells8 [126]) := by
    have h := Row.made (w.alloc (.cells #[.int .u8 ((sum s.data.toList : Nat) % 256 : Int), .int .u8 ((sum s.data.toList : Nat) / 256 : Int)] 5)) 1 5 #[.int .u8 126] (0, 0) 1 1 (cells8 [126]) rfl rfl (Nat.le_refl _) (by decide) (.inl rfl) (by simp [cells8])
    have h1 : (w.alloc (.cells #[.int .u8 ((sum s.data.toList : Nat) % 256 : Int), .int .u8 ((sum s.data.toList : Nat) / 256 : Int)] 5)).heap.size = w.heap.size + 1 := by simp
    rw [h1] at h
    exact h
  have hb0 : Below w.heap.size w ((w.alloc (.cells #[.int .u8 ((sum s.data.toList : Nat) % 256 : Int), .int .u8 ((sum s.data.toList : Nat) / 256 : Int)] 5)).alloc (.cells #[.int .u8 126] 5)) := ((Below.refl _ _).alloc (Nat.le_refl _) _).alloc (by simp) _
  clear hcv hadd
  go_loopw [6, 7] (fun v i wr => ∃ (k g cp : Nat) (E : List UInt8), E = 126 :: escL (L.take k) ∧ k ≤ L.length ∧ i = .int .i64 k ∧ v = .slice (some ⟨g, 0, none⟩) E.length cp ∧ Row wr 1 v E.length (cells8 E) ∧
      w.heap.size ≤ g ∧ Below w.heap.size w wr)
    (fun _ i _ => L.length - (intOf i).toNat)
  case atStart => exact ⟨0, w.heap.size + 1, 1, [126], rfl, Nat.zero_le _, rfl, rfl, hE0, by omega, hb0⟩
  case round =>
    obtain ⟨k, g, cp, E, hEq, hk, rfl, rfl, hE, hgw, hbel⟩ := hrel
    have hEl : E.length ≤ 1 + 2 * 62 := by
      have h1 := escL_le (L.take k)
      have h2 : (L.take k).length ≤ 62 := by simp; omega
      rw [hEq]; simp only [List.length_cons]; omega
    have HE : Hid (E = 126 :: escL (L.take k)) := hEq
    clear hEq hE0 hb0
    have m1 : E.length + 1 ≤ maxLen := by unfold maxLen; omega
    have m2 : E.length + 1 + 1 ≤ maxLen := by unfold maxLen; omega
    have b1 : (E.length + 1) * 1 ≤ 140737488355328 := by omega
    have b2 : (E.length + 1 + 1) * 1 ≤ 140737488355328 := by omega
    by_cases hlt : k < L.length
    · have hkT : k < T.size := by omega
      have HN0 : E ++ escB T[k] = 126 :: escL (L.take (k + 1)) := by
        have e1 : L[k] = T[k] := by
          have : T.data.toList[k]'(by simp; exact hkT) = T[k] := by simp; rfl
          rw [← this]; simp [hTL]
        have : L.take (k + 1) = L.take k ++ [L[k]] := List.take_succ_eq_append_getElem hlt
        rw [HE.out, this, escL_snoc, e1]; rfl
      have hx := xor32 T[k]
      have HC0 := isEsc_iff T[k]
      generalize hcc : T[k] = c at HN0 hx HC0
      have HN : Hid _ := HN0
      have HC : Hid _ := HC0
      clear HN0 HC0
      have hT2 : ∀ (he : isEsc c = true) (g' cap' : Nat) (w2 : World), Row w2 1 (.slice (some ⟨g', 0, none⟩) (E.length + 1 + 1) cap') (E.length + 1 + 1) (cells8 E ++ [.int .u8 125] ++ [.int .u8 ((c ^^^ 32).toNat : Int)]) →
          (Value.slice (some ⟨g', 0, none⟩) (E.length + 1 + 1) cap' = .slice (some ⟨g', 0, none⟩) (E ++ escB c).length cap') ∧ Row w2 1 (.slice (some ⟨g', 0, none⟩) (E.length + 1 + 1) cap') (E ++ escB c).length (cells8 (E ++ escB c)) := by
        intro he g' cap' w2 hr
        have e1 : escB c = [125, c ^^^ 32] := by simp [escB, he]
        rw [e1, cells8_append, List.length_append]
        refine ⟨rfl, ?_⟩
        rw [List.append_assoc] at hr
        exact hr
      have hO2 : ∀ (he : ¬ isEsc c = true) (g' cap' : Nat) (w2 : World), Row w2 1 (.slice (some ⟨g', 0, none⟩) (E.length + 1) cap') (E.length + 1) (cells8 E ++ [.int .u8 (c.toNat : Int)]) →
          (Value.slice (some ⟨g', 0, none⟩) (E.length + 1) cap' = .slice (some ⟨g', 0, none⟩) (E ++ escB c).length cap') ∧ Row w2 1 (.slice (some ⟨g', 0, none⟩) (E.length + 1) cap') (E ++ escB c).length (cells8 (E ++ escB c)) := by
        intro he g' cap' w2 hr
        have e1 : escB c = [c] := by simp [escB, he]
        rw [e1, cells8_append, List.length_append]
        exact ⟨rfl, hr⟩
      by_cases h1 : ((c.toNat : Int) == 126) = true
      · have he : isEsc c = true := HC.out.mpr (.inl (by simpa using h1))
        go_wp2_with (at_builtin; go_must (refine wpList_append_row _ rfl (.tmp 44) (.tmp 45) 62 rfl 5 i0 (.int .u8 0) 1 1 Try.underlying62 hi hz0 hz1 hz2 rfl (by decide) _ E.length (cells8 E) rfl (hE.alloc _) _ 1 1 [.int .u8 125] rfl rfl (by decide) (cells_one _ _ _) (one_int _ _) m1 b1 ?_))
        intro g2 cap2 w2 hr2 hgr2 hown2
        have R := row_step1 hgr2 hown2 hgw hbel
        clear hgr2 hown2 hE hbel
        go_wp2_with (at_builtin; go_must (refine wpList_append_row _ rfl (.tmp 49) (.tmp 51) 62 rfl 5 i0 (.int .u8 0) 1 1 Try.underlying62 hi hz0 hz1 hz2 rfl (by decide) (.slice (some ⟨g2, 0, none⟩) (E.length + 1) cap2) (E.length + 1) (cells8 E ++ [.int .u8 125]) rfl (hr2.alloc _) _ 1 1 [.int .u8 ((c ^^^ 32).toNat : Int)] rfl rfl (by decide) (cells_one _ _ _) (one_int _ _) m2 b2 ?_))
        intro g3 cap3 w3 hr3 hgr3 hown3
        have R3 := row_step1 hgr3 hown3 R.1 R.2
        have hr4 := hT2 he g3 cap3 w3 (by simpa using hr3)
        clear hgr3 hown3 hr2 R hr3
        go_wp2_with (fail)
        go_roundw
        case rel => exact ⟨k + 1, g3, cap3, _, HN.out, by omega, by go_num, hr4.1, hr4.2, R3.1, R3.2⟩
        case measure => simp [intOf]; omega
      · have h1' : ((c.toNat : Int) == 126) = false := by simpa using h1
        by_cases h2 : ((c.toNat : Int) == 125) = true
        · have he : isEsc c = true := HC.out.mpr (.inr (.inl (by simpa using h2)))
          go_wp2_with (at_builtin; go_must (refine wpList_append_row _ rfl (.tmp 44) (.tmp 45) 62 rfl 5 i0 (.int .u8 0) 1 1 Try.underlying62 hi hz0 hz1 hz2 rfl (by decide) _ E.length (cells8 E) rfl (hE.alloc _) _ 1 1 [.int .u8 125] rfl rfl (by decide) (cells_one _ _ _) (one_int _ _) m1 b1 ?_))
          intro g2 cap2 w2 hr2 hgr2 hown2
          have R := row_step1 hgr2 hown2 hgw hbel
          clear hgr2 hown2 hE hbel
          go_wp2_with (at_builtin; go_must (refine wpList_append_row _ rfl (.tmp 49) (.tmp 51) 62 rfl 5 i0 (.int .u8 0) 1 1 Try.underlying62 hi hz0 hz1 hz2 rfl (by decide) (.slice (some ⟨g2, 0, none⟩) (E.length + 1) cap2) (E.length + 1) (cells8 E ++ [.int .u8 125]) rfl (hr2.alloc _) _ 1 1 [.int .u8 ((c ^^^ 32).toNat : Int)] rfl rfl (by decide) (cells_one _ _ _) (one_int _ _) m2 b2 ?_))
          intro g3 cap3 w3 hr3 hgr3 hown3
          have R3 := row_step1 hgr3 hown3 R.1 R.2
          have hr4 := hT2 he g3 cap3 w3 (by simpa using hr3)
          clear hgr3 hown3 hr2 R hr3
          go_wp2_with (fail)
          go_roundw
          case rel => exact ⟨k + 1, g3, cap3, _, HN.out, by omega, by go_num, hr4.1, hr4.2, R3.1, R3.2⟩
          case measure => simp [intOf]; omega
        · have h2' : ((c.toNat : Int) == 125) = false := by simpa using h2
          by_cases h3 : (c.toNat : Int) < 32
          · have he : isEsc c = true := HC.out.mpr (.inr (.inr h3))
            go_wp2_with (at_builtin; go_must (refine wpList_append_row _ rfl (.tmp 44) (.tmp 45) 62 rfl 5 i0 (.int .u8 0) 1 1 Try.underlying62 hi hz0 hz1 hz2 rfl (by decide) _ E.length (cells8 E) rfl (hE.alloc _) _ 1 1 [.int .u8 125] rfl rfl (by decide) (cells_one _ _ _) (one_int _ _) m1 b1 ?_))
            intro g2 cap2 w2 hr2 hgr2 hown2
            have R := row_step1 hgr2 hown2 hgw hbel
            clear hgr2 hown2 hE hbel
            go_wp2_with (at_builtin; go_must (refine wpList_append_row _ rfl (.tmp 49) (.tmp 51) 62 rfl 5 i0 (.int .u8 0) 1 1 Try.underlying62 hi hz0 hz1 hz2 rfl (by decide) (.slice (some ⟨g2, 0, none⟩) (E.length + 1) cap2) (E.length + 1) (cells8 E ++ [.int .u8 125]) rfl (hr2.alloc _) _ 1 1 [.int .u8 ((c ^^^ 32).toNat : Int)] rfl rfl (by decide) (cells_one _ _ _) (one_int _ _) m2 b2 ?_))
            intro g3 cap3 w3 hr3 hgr3 hown3
            have R3 := row_step1 hgr3 hown3 R.1 R.2
            have hr4 := hT2 he g3 cap3 w3 (by simpa using hr3)
            clear hgr3 hown3 hr2 R hr3
            go_wp2_with (fail)
            go_roundw
            case rel => exact ⟨k + 1, g3, cap3, _, HN.out, by omega, by go_num, hr4.1, hr4.2, R3.1, R3.2⟩
            case measure => simp [intOf]; omega
          · have he : ¬ isEsc c = true := by
              rw [HC.out]
              simp at h1' h2'
              omega
            go_wp2_with (at_builtin; go_must (refine wpList_append_row _ rfl (.tmp 49) (.tmp 51) 62 rfl 5 i0 (.int .u8 0) 1 1 Try.underlying62 hi hz0 hz1 hz2 rfl (by decide) _ E.length (cells8 E) rfl (hE.alloc _) _ 1 1 [.int .u8 (c.toNat : Int)] rfl rfl (by decide) (cells_one _ _ _) (one_int _ _) m1 b1 ?_))
            intro g3 cap3 w3 hr3 hgr3 hown3
            have R3 := row_step1 hgr3 hown3 hgw hbel
            have hr4 := hO2 he g3 cap3 w3 hr3
            clear hgr3 hown3 hE hbel hr3
            go_wp2_with (fail)
            go_roundw
            case rel => exact ⟨k + 1, g3, cap3, _, HN.out, by omega, by go_num, hr4.1, hr4.2, R3.1, R3.2⟩
            case measure => simp [intOf]; omega
    · go_wp2_with (at_builtin; go_must (refine wpList_append_row _ rfl (.tmp 53) (.tmp 54) 62 rfl 5 i0 (.int .u8 0) 1 1 Try.underlying62 hi hz0 hz1 hz2 rfl (by decide) _ E.length (cells8 E) rfl (hE.alloc _) _ 1 1 [.int .u8 126] rfl rfl (by decide) (cells_one _ _ _) (one_int _ _) m1 b1 ?_))
      intro g2 cap2 w2 hr2 hgr2 hown2
      have R := row_step1 hgr2 hown2 hgw hbel
      have hkl : k = L.length := by omega
      have hF : frameL s.data.toList = E ++ [126] := by
        rw [HE.out, hkl, List.take_of_length_le (Nat.le_refl _), hL]; rfl
      have hback : (convert 62 9 (.slice (some ⟨g2, 0, none⟩) (E.length + 1) cap2)).run Try.prog w2 = .ok (.string ⟨(E ++ [126]).toArray⟩) w2 := by
        refine Row.back (n := E.length + 1) ?_ 62 9 5 Try.underlying62 Try.underlying5 Try.underlying9
        rw [cells8_append]
        exact hr2
      clear hr2 hgr2 hown2 hE hbel
      have HF : Hid _ := hF
      clear hF hkl
      go_wp2_with (fail)
      go_ret2
      exact ⟨by rw [HF.out]; rfl, R.2⟩

set_option maxRecDepth 100000 in
theorem rframe_no (s : ByteArray) (w : World) (hs : 60 < s.size) (hm : s.size ≤ maxLen) :
    Calls Try.prog 11 #[.string s] w fun e w' => e = .returned (.tuple #[.string ByteArray.empty, .int .i64 2]) ∧ w = w' := by
  unfold maxLen at hm
  have hle : (60 : Int) < (s.size : Int) := by omega
  go_enter Try.func11, Try.ntmps11
  go_wp2
  go_ret2
  exact ⟨rfl, rfl⟩
end Go.Proofs.Ytnafklmigndgeaa
