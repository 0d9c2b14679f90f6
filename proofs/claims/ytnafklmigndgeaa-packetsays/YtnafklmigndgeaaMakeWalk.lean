/-
  The program's Make of a text of at most 60 bytes comes to its frame; of a longer one to the error 2.
-/
import Derived.Test.YtnafklmigndgeaaSumWalk
import Derived.Test.YtnafklmigndgeaaEsc
import Derived.Test.YtnafklmigndgeaaRowlib
namespace Go.Proofs.Ytnafklmigndgeaa
open Go.RowKit Plain

theorem info5 : (Try.prog.info? 5).map (fun i => (i.zero, i.size, i.bytes)) = some (some (.int .u8 0), 1, 1) := by kernel_rfl

set_option maxRecDepth 100000 in
set_option maxHeartbeats 2000000 in
theorem make_yes (s : ByteArray) (w : World) (hs : s.size ≤ 60) :
    Calls Try.prog 10 #[.string s] w fun e w' => e = .returned (.tuple #[.string ⟨(frameL s.data.toList).toArray⟩, .nilIface]) ∧ Below w.heap.size w w' := by
  obtain ⟨i0, hi, hz0, hz1, hz2⟩ := info_parts info5
  have hle : ¬ (60 : Int) < (s.size : Int) := by omega
  have hsl := Plain.sum_lt s.data.toList
  obtain ⟨cap, C, fr, hconv, hrow⟩ := run_bytes_row (P := Try.prog) (w.alloc (.cells #[.int .u8 126] 5)) 9 62 5 s Try.underlying9 Try.underlying62 Try.underlying5 (by unfold maxLen; omega)
  have hsz : (w.alloc (.cells #[.int .u8 126] 5)).heap.size = w.heap.size + 1 := by simp
  rw [hsz] at hrow
  obtain ⟨L, hL⟩ : ∃ L, L = withSum s.data.toList := ⟨_, rfl⟩
  have hLl : L.length = s.size + 2 := by rw [hL, withSum_length]; rfl
  go_enter Try.func10, Try.ntmps10
  go_wp2_with (first
    | (go_at_call 13; refine (sum_any _ _ ?hx).mono ?_; (case hx => unfold maxLen; omega); rintro e w' ⟨rfl, rfl⟩)
    | (at_builtin; go_must (refine wpList_append_row _ rfl (.tmp 16) (.tmp 22) 62 rfl 5 i0 (.int .u8 0) 1 1 Try.underlying62 hi hz0 hz1 hz2 rfl (by decide) (.slice (some ⟨w.heap.size + 1, 0, none⟩) s.size cap) s.size (cells8 s.data.toList) rfl ?r1 _ 2 2 (cells8 [sumLo s.data.toList, sumHi s.data.toList]) rfl rfl (by decide) ?c1 ?c2 ?c3 ?c4 ?_)))
  case r1 => exact (hrow.alloc _).drew
  case c1 =>
    intro j u hu
    rw [add_plain, World.cell?_drew]
    have h2 := World.cell?_alloc_mark ((w.alloc (Obj.cells #[Value.int IntKind.u8 126] 5)).alloc (Obj.cells C 5 fr)) #[Value.int IntKind.u8 (↑(sum s.data.toList) % 256), Value.int IntKind.u8 (↑(sum s.data.toList) / 256)] 5 (0, 0) j
    have h3 : ((w.alloc (Obj.cells #[Value.int IntKind.u8 126] 5)).alloc (Obj.cells C 5 fr)).heap.size = w.heap.size + 1 + 1 := by simp
    rw [h3] at h2
    rw [h2, ← sumLo_nat, ← sumHi_nat]
    simpa [cells8] using hu
  case c2 => intro u hu; simp [cells8] at hu; rcases hu with rfl | rfl <;> rfl
  case c3 => unfold maxLen; omega
  case c4 => omega
  intro g1 cap1 w1 hrow1 hg1 hown1
  have hb0 : Below w.heap.size w w1 := by
    refine Below.grown ?_ hg1 ?_ ?_
    · exact ((((Below.refl _ _).alloc (Nat.le_refl _) _).alloc (by simp) _).alloc (by simp; omega) _).drew
    · simp; omega
    · intro k hk
      simp [Value.ownBlock] at hk
      omega
  have hgl : w.heap.size < g1 := by
    rcases hown1 with h | h
    · simp [Value.ownBlock] at h; omega
    · omega
  have hE0 : Row w1 1 (.slice (some ⟨w.heap.size, 0, none⟩) 1 1) 1 (cells8 [126]) := by
    refine Row.kept (row := some (w.heap.size + 1)) ?q1 hg1 ?q2
    case q1 => exact (((Row.made w 1 5 #[.int .u8 126] (0, 0) 1 1 (cells8 [126]) rfl rfl (Nat.le_refl _) (by decide) (.inl rfl) (by simp [cells8])).alloc _).alloc _).drew
    case q2 =>
      intro k hk
      have hk' : w.heap.size = k := by simpa [Value.ownBlock] using hk
      intro e
      have e' : w.heap.size + 1 = k := by simpa using e
      omega
  have hS : Row w1 1 (.slice (some ⟨g1, 0, none⟩) (s.size + 2) cap1) (s.size + 2) (cells8 L) := by
    rw [hL, withSum, cells8_append]; exact hrow1
  clear hrow1 hg1 hown1 hrow hconv
  go_wp2
  go_loopw [5, 25] (fun v i wr => ∃ (k g cp : Nat) (E : List UInt8), E = 126 :: escL (L.take k) ∧ k ≤ L.length ∧ i = .int .i64 k ∧ v = .slice (some ⟨g, 0, none⟩) E.length cp ∧ Row wr 1 v E.length (cells8 E) ∧
      Row wr 1 (.slice (some ⟨g1, 0, none⟩) (s.size + 2) cap1) (s.size + 2) (cells8 L) ∧ w.heap.size ≤ g ∧ g ≠ g1 ∧ Below w.heap.size w wr)
    (fun _ i _ => L.length - (intOf i).toNat)
  case atStart => exact ⟨0, w.heap.size, 1, [126], rfl, Nat.zero_le _, rfl, rfl, hE0, hS, Nat.le_refl _, by omega, hb0⟩
  case round =>
    obtain ⟨k, g, cp, E, hEq, hk, rfl, rfl, hE, hSr, hgw, hgne, hbel⟩ := hrel
    have hEl : E.length ≤ 1 + 2 * 62 := by
      have h1 := escL_le (L.take k)
      have h2 : (L.take k).length ≤ 62 := by simp; omega
      rw [hEq]; simp only [List.length_cons]; omega
    have HE : Hid (E = 126 :: escL (L.take k)) := hEq
    clear hEq
    clear hE0 hS hb0
    have m1 : E.length + 1 ≤ maxLen := by unfold maxLen; omega
    have m2 : E.length + 2 ≤ maxLen := by unfold maxLen; omega
    have b1 : (E.length + 1) * 1 ≤ 140737488355328 := by omega
    have b2 : (E.length + 2) * 1 ≤ 140737488355328 := by omega
    by_cases hlt : k < L.length
    · have hcell := hSr.cell k _ (cells8_get L k hlt)
      have hx := xor32 L[k]
      have HN : Hid (126 :: escL (L.take (k + 1)) = E ++ escB L[k]) := by
        have : L.take (k + 1) = L.take k ++ [L[k]] := List.take_succ_eq_append_getElem hlt
        rw [HE.out, this, escL_snoc]; rfl
      have HC : Hid (isEsc L[k] = true ↔ _) := isEsc_iff L[k]
      obtain ⟨c, hc⟩ : ∃ c, c = L[k] := ⟨_, rfl⟩
      rw [← hc] at hcell hx HN HC
      clear hc
      have hT : ∀ (he : isEsc c = true) (g' cap' : Nat) (w2 : World), Row w2 1 (.slice (some ⟨g', 0, none⟩) (E.length + 2) cap') (E.length + 2) (cells8 E ++ [.int .u8 125, .int .u8 ((c ^^^ 32).toNat : Int)]) →
          Row w2 1 (.slice (some ⟨g', 0, none⟩) (126 :: escL (L.take (k + 1))).length cap') (126 :: escL (L.take (k + 1))).length (cells8 (126 :: escL (L.take (k + 1)))) ∧ (126 :: escL (L.take (k + 1))).length = E.length + 2 := by
        intro he g' cap' w2 hr
        rw [HN.out]
        have e1 : escB c = [125, c ^^^ 32] := by simp [escB, he]
        rw [e1]
        refine ⟨?_, by simp⟩
        rw [cells8_append, List.length_append]
        exact hr
      have hO : ∀ (he : ¬ isEsc c = true) (g' cap' : Nat) (w2 : World), Row w2 1 (.slice (some ⟨g', 0, none⟩) (E.length + 1) cap') (E.length + 1) (cells8 E ++ [.int .u8 (c.toNat : Int)]) →
          Row w2 1 (.slice (some ⟨g', 0, none⟩) (126 :: escL (L.take (k + 1))).length cap') (126 :: escL (L.take (k + 1))).length (cells8 (126 :: escL (L.take (k + 1)))) ∧ (126 :: escL (L.take (k + 1))).length = E.length + 1 := by
        intro he g' cap' w2 hr
        rw [HN.out]
        have e1 : escB c = [c] := by simp [escB, he]
        rw [e1]
        refine ⟨?_, by simp⟩
        rw [cells8_append, List.length_append]
        exact hr
      by_cases h1 : ((c.toNat : Int) == 126) = true
      · have he : isEsc c = true := HC.out.mpr (.inl (by simpa using h1))
        go_wp2_with (at_builtin; go_must (refine wpList_append_row _ rfl (.tmp 39) (.tmp 42) 62 rfl 5 i0 (.int .u8 0) 1 1 Try.underlying62 hi hz0 hz1 hz2 rfl (by decide) _ E.length (cells8 E) rfl (hE.alloc _) _ 2 2 [.int .u8 125, .int .u8 ((c ^^^ 32).toNat : Int)] rfl rfl (by decide) (cells_two _ _ _ _) (one_ints _ _ _ _) m2 b2 ?_))
        intro g2 cap2 w2 hr2 hgr2 hown2
        obtain ⟨hr3, hl3⟩ := hT he g2 cap2 w2 hr2
        have R := row_step hgr2 hown2 hSr hgw hgne hbel
        have HL : Hid _ := hl3
        clear hl3 hgr2 hown2 hr2 hE hSr hbel hcell hx
        go_wp2
        go_roundw
        case rel => exact ⟨k + 1, g2, cap2, _, rfl, by omega, by go_num, by rw [HL.out], by rw [← HL.out]; exact hr3, R.1, R.2.1, R.2.2.1, R.2.2.2⟩
        case measure => simp [intOf]; omega
      · have h1' : ((c.toNat : Int) == 126) = false := by simpa using h1
        by_cases h2 : ((c.toNat : Int) == 125) = true
        · have he : isEsc c = true := HC.out.mpr (.inr (.inl (by simpa using h2)))
          go_wp2_with (at_builtin; go_must (refine wpList_append_row _ rfl (.tmp 39) (.tmp 42) 62 rfl 5 i0 (.int .u8 0) 1 1 Try.underlying62 hi hz0 hz1 hz2 rfl (by decide) _ E.length (cells8 E) rfl (hE.alloc _) _ 2 2 [.int .u8 125, .int .u8 ((c ^^^ 32).toNat : Int)] rfl rfl (by decide) (cells_two _ _ _ _) (one_ints _ _ _ _) m2 b2 ?_))
          intro g2 cap2 w2 hr2 hgr2 hown2
          obtain ⟨hr3, hl3⟩ := hT he g2 cap2 w2 hr2
          have R := row_step hgr2 hown2 hSr hgw hgne hbel
          have HL : Hid _ := hl3
          clear hl3 hgr2 hown2 hr2 hE hSr hbel hcell hx
          go_wp2
          go_roundw
          case rel => exact ⟨k + 1, g2, cap2, _, rfl, by omega, by go_num, by rw [HL.out], by rw [← HL.out]; exact hr3, R.1, R.2.1, R.2.2.1, R.2.2.2⟩
          case measure => simp [intOf]; omega
        · have h2' : ((c.toNat : Int) == 125) = false := by simpa using h2
          by_cases h3 : (c.toNat : Int) < 32
          · have he : isEsc c = true := HC.out.mpr (.inr (.inr h3))
            go_wp2_with (at_builtin; go_must (refine wpList_append_row _ rfl (.tmp 39) (.tmp 42) 62 rfl 5 i0 (.int .u8 0) 1 1 Try.underlying62 hi hz0 hz1 hz2 rfl (by decide) _ E.length (cells8 E) rfl (hE.alloc _) _ 2 2 [.int .u8 125, .int .u8 ((c ^^^ 32).toNat : Int)] rfl rfl (by decide) (cells_two _ _ _ _) (one_ints _ _ _ _) m2 b2 ?_))
            intro g2 cap2 w2 hr2 hgr2 hown2
            obtain ⟨hr3, hl3⟩ := hT he g2 cap2 w2 hr2
            have R := row_step hgr2 hown2 hSr hgw hgne hbel
            have HL : Hid _ := hl3
            clear hl3 hgr2 hown2 hr2 hE hSr hbel hcell hx
            go_wp2
            go_roundw
            case rel => exact ⟨k + 1, g2, cap2, _, rfl, by omega, by go_num, by rw [HL.out], by rw [← HL.out]; exact hr3, R.1, R.2.1, R.2.2.1, R.2.2.2⟩
            case measure => simp [intOf]; omega
          · have he : ¬ isEsc c = true := by
              rw [HC.out]
              simp at h1' h2'
              omega
            go_wp2_with (at_builtin; go_must (refine wpList_append_row _ rfl (.tmp 44) (.tmp 46) 62 rfl 5 i0 (.int .u8 0) 1 1 Try.underlying62 hi hz0 hz1 hz2 rfl (by decide) _ E.length (cells8 E) rfl (hE.alloc _) _ 1 1 [.int .u8 (c.toNat : Int)] rfl rfl (by decide) (cells_one _ _ _) (one_int _ _) m1 b1 ?_))
            intro g2 cap2 w2 hr2 hgr2 hown2
            obtain ⟨hr3, hl3⟩ := hO he g2 cap2 w2 hr2
            have R := row_step hgr2 hown2 hSr hgw hgne hbel
            have HL : Hid _ := hl3
            clear hl3 hgr2 hown2 hr2 hE hSr hbel hcell hx
            go_wp2
            go_roundw
            case rel => exact ⟨k + 1, g2, cap2, _, rfl, by omega, by go_num, by rw [HL.out], by rw [← HL.out]; exact hr3, R.1, R.2.1, R.2.2.1, R.2.2.2⟩
            case measure => simp [intOf]; omega
    · go_wp2_with (at_builtin; go_must (refine wpList_append_row _ rfl (.tmp 49) (.tmp 50) 62 rfl 5 i0 (.int .u8 0) 1 1 Try.underlying62 hi hz0 hz1 hz2 rfl (by decide) _ E.length (cells8 E) rfl (hE.alloc _) _ 1 1 [.int .u8 126] rfl rfl (by decide) (cells_one _ _ _) (one_int _ _) m1 b1 ?_))
      intro g2 cap2 w2 hr2 hgr2 hown2
      have R := row_step hgr2 hown2 hSr hgw hgne hbel
      have hkl : k = L.length := by omega
      have hF : frameL s.data.toList = E ++ [126] := by
        rw [HE.out, hkl, List.take_of_length_le (Nat.le_refl _), hL]; rfl
      have hback : (convert 62 9 (.slice (some ⟨g2, 0, none⟩) (E.length + 1) cap2)).run Try.prog w2 = .ok (.string ⟨(E ++ [126]).toArray⟩) w2 := by
        refine Row.back (n := E.length + 1) ?_ 62 9 5 Try.underlying62 Try.underlying5 Try.underlying9
        rw [cells8_append]
        exact hr2
      clear hr2 hgr2 hown2 hE hSr hbel
      have HF : Hid _ := hF
      clear hF hkl
      go_wp2
      go_ret2
      exact ⟨by rw [HF.out]; rfl, R.2.2.2⟩

set_option maxRecDepth 100000 in
theorem make_no (s : ByteArray) (w : World) (hs : 60 < s.size) (hm : s.size ≤ maxLen) :
    Calls Try.prog 10 #[.string s] w fun e w' => e = .returned (.tuple #[.string ByteArray.empty, .iface 64 (.int .i64 2)]) ∧ w = w' := by
  unfold maxLen at hm
  have hle : (60 : Int) < (s.size : Int) := by omega
  go_enter Try.func10, Try.ntmps10
  go_wp2
  go_ret2
  exact ⟨rfl, rfl⟩
end Go.Proofs.Ytnafklmigndgeaa
