/-
  The document's Reading: what it answers.
-/
import Derived.Test.YtnafklmigndgeaaCarriedWalk
import Derived.Test.YtnafklmigndgeaaAllWalk
namespace Go.Proofs.Ytnafklmigndgeaa
open Go.RowKit Plain

abbrev BState := List (List UInt8) × List Nat × List UInt8
/-- One byte: what is told, what is wrong, what came since the last flag. -/
def stepB (a : BState) (c : UInt8) : BState :=
  if c = 126 then
    if a.2.2 = [] then a
    else if (carriedR a.2.2).2 = 0 then (a.1 ++ [(carriedR a.2.2).1], a.2.1, []) else (a.1, a.2.1 ++ [(carriedR a.2.2).2], [])
  else (a.1, a.2.1, a.2.2 ++ [c])
def readR (r l : List UInt8) : BState := l.foldl stepB ([], [], r)
def numsV (l : List Nat) : List Value := l.map fun (n : Nat) => Value.int .i64 (n : Int)

theorem readR_snoc (r l : List UInt8) (c : UInt8) : readR r (l ++ [c]) = stepB (readR r l) c := by simp [readR]
theorem stepB_le (a : BState) (c : UInt8) : (stepB a c).1.length + (stepB a c).2.1.length ≤ a.1.length + a.2.1.length + 1 := by
  unfold stepB
  split
  · split
    · omega
    · split
      · simp; omega
      · simp; omega
  · simp only; omega
theorem foldlB_le : ∀ (l : List UInt8) (a : BState), (l.foldl stepB a).1.length + (l.foldl stepB a).2.1.length ≤ a.1.length + a.2.1.length + l.length
  | [], a => by simp
  | c :: l, a => by
    have h1 := foldlB_le l (stepB a c)
    have h2 := stepB_le a c
    simp only [List.foldl_cons, List.length_cons]
    omega
theorem readR_le (r l : List UInt8) : (readR r l).1.length + (readR r l).2.1.length ≤ l.length := by
  have := foldlB_le l ([], [], r)
  unfold readR
  simp only [List.length_nil] at this
  omega
theorem info3 : (Try.prog.info? 3).map (fun i => (i.zero, i.size, i.bytes)) = some (some (.int .i64 0), 1, 8) := by kernel_rfl
theorem eq126 (c : UInt8) : c = 126 ↔ ((c.toNat : Int) == 126) = true := by
  rw [← UInt8.toNat_inj, beq_iff_eq]; show c.toNat = 126 ↔ _; omega
theorem extract_mid (s : ByteArray) (a b : Nat) : (s.extract a b).data.toList = (s.data.toList.take b).drop a := by
  rw [ByteArray.data_extract]
  simp [List.drop_take]

theorem two_step {w w1 w2 : World} {v u : Value} {o : Obj} {g2 n cap2 m sz : Nat} {xs : List Value} (hnew : ∀ k, v.ownBlock = some k → w.heap.size ≤ k) (hne : ∀ k, u.ownBlock = some k → v.ownBlock ≠ some k) (hu : Row w1 sz u m xs) (hbel : Below w.heap.size w w1)
    (hgr : (w1.alloc o).grownBy w2 v.ownBlock) (hown : v.ownBlock = some g2 ∨ w1.heap.size + 1 ≤ g2) :
    (∀ k, Value.ownBlock (.slice (some ⟨g2, 0, none⟩) n cap2) = some k → w.heap.size ≤ k) ∧ (∀ k, u.ownBlock = some k → Value.ownBlock (.slice (some ⟨g2, 0, none⟩) n cap2) ≠ some k) ∧
      (∀ k, Value.ownBlock (.slice (some ⟨g2, 0, none⟩) n cap2) = some k → u.ownBlock ≠ some k) ∧ Row w2 sz u m xs ∧ Below w.heap.size w w2 := by
  have h1 := car_step (n := n) (cap2 := cap2) hnew hbel hgr hown
  have hd : ∀ k, u.ownBlock = some k → g2 ≠ k := by
    intro k hk e
    subst e
    rcases hown with h | h
    · exact hne g2 hk h
    · have := hu.lt g2 hk; omega
  refine ⟨h1.1, fun k hk e => ?_, fun k hk e => ?_, (hu.alloc o).kept hgr (fun k hk e => hne k hk e), h1.2⟩
  · have : g2 = k := by simpa [Value.ownBlock] using e
    exact hd k hk this
  · have : g2 = k := by simpa [Value.ownBlock] using hk
    exact hd k e this

set_option maxRecDepth 100000 in
set_option maxHeartbeats 4000000 in
theorem reading_any (s : ByteArray) (w : World) (hs : s.size ≤ 100000) :
    Calls Try.prog 16 #[.string s] w fun e w' => ∃ vo vb : Value, e = .returned (.tuple #[vo, vb, .string ⟨(readR [] s.data.toList).2.2.toArray⟩]) ∧ Row w' 1 vo (readR [] s.data.toList).1.length (strs (readR [] s.data.toList).1) ∧
      Row w' 1 vb (readR [] s.data.toList).2.1.length (numsV (readR [] s.data.toList).2.1) ∧ (∀ k, vo.ownBlock = some k → w.heap.size ≤ k) ∧ (∀ k, vb.ownBlock = some k → w.heap.size ≤ k) ∧ Below w.heap.size w w' := by
  obtain ⟨i9, hi9, hz90, hz91, hz92⟩ := info_parts info9
  obtain ⟨i3, hi3, hz30, hz31, hz32⟩ := info_parts info3
  go_enter Try.func16, Try.ntmps16
  go_wp2_with (fail)
  go_loopw [5, 6, 7, 8] (fun vo vb f i wr => ∃ (k fr : Nat) (A : BState), A = readR [] (s.data.toList.take k) ∧ k ≤ s.size ∧ fr ≤ k ∧ i = .int .i64 k ∧ f = .int .i64 fr ∧ A.2.2 = (s.data.toList.take k).drop fr ∧
      Row wr 1 vo A.1.length (strs A.1) ∧ Row wr 1 vb A.2.1.length (numsV A.2.1) ∧ (∀ k, vo.ownBlock = some k → w.heap.size ≤ k) ∧ (∀ k, vb.ownBlock = some k → w.heap.size ≤ k) ∧ (∀ k, vo.ownBlock = some k → vb.ownBlock ≠ some k) ∧ (∀ k, vb.ownBlock = some k → vo.ownBlock ≠ some k) ∧ Below w.heap.size w wr)
    (fun _ _ _ i _ => s.size - (intOf i).toNat)
  case atStart => exact ⟨0, 0, _, rfl, Nat.zero_le _, Nat.zero_le _, rfl, rfl, rfl, Row.nil _ _, Row.nil _ _, fun k hk => by simp [Value.ownBlock] at hk, fun k hk => by simp [Value.ownBlock] at hk, fun k hk => by simp [Value.ownBlock] at hk, fun k hk => by simp [Value.ownBlock] at hk, Below.refl _ _⟩
  case round =>
    obtain ⟨k, fr, A, hA, hk, hfr, rfl, rfl, hcur, hro, hrb, hno, hnb, hd1, hd2, hbel⟩ := hrel
    have HL : Hid (A.1.length + A.2.1.length ≤ k) := by
      have := readR_le [] (s.data.toList.take k)
      rw [← hA] at this
      have h2 : (s.data.toList.take k).length ≤ k := List.length_take_le _ _
      exact (by omega : A.1.length + A.2.1.length ≤ k)
    have m1 : A.1.length + 1 ≤ maxLen := by have := HL.out; unfold maxLen; omega
    have m2 : A.2.1.length + 1 ≤ maxLen := by have := HL.out; unfold maxLen; omega
    have b1 : (A.1.length + 1) * 16 ≤ 140737488355328 := by have := HL.out; omega
    have b2 : (A.2.1.length + 1) * 8 ≤ 140737488355328 := by have := HL.out; omega
    have HA : Hid (A = readR [] (s.data.toList.take k)) := hA
    have HCU : Hid (A.2.2 = (s.data.toList.take k).drop fr) := hcur
    clear hA hcur
    by_cases hlt : k < s.size
    · have HT : Hid (readR [] (s.data.toList.take (k + 1)) = stepB A s[k]) := by
        have e1 : s.data.toList.take (k + 1) = s.data.toList.take k ++ [s[k]] := take_snoc s k hlt
        show readR [] _ = _
        rw [e1, readR_snoc, HA.out]
      have HTK : Hid (s.data.toList.take (k + 1) = s.data.toList.take k ++ [s[k]]) := take_snoc s k hlt
      by_cases hc : s[k] = 126
      · have hn : ((s[k].toNat : Int) != 126) = false := by rw [bne, (eq126 _).mp hc]; rfl
        by_cases hfk : fr = k
        · subst hfk
          have HS : Hid (stepB A s[fr] = A) := by
            show stepB A s[fr] = A
            have : A.2.2 = [] := by rw [HCU.out]; exact List.drop_eq_nil_of_le (List.length_take_le _ _)
            simp [stepB, hc, this]
          have HNIL : Hid (A.2.2 = []) := by
            show A.2.2 = []
            rw [HCU.out]; exact List.drop_eq_nil_of_le (List.length_take_le _ _)
          clear hc
          go_wp2_with (fail)
          go_roundw
          case rel => exact ⟨fr + 1, fr + 1, A, by rw [HT.out, HS.out], by omega, Nat.le_refl _, by go_num, by go_num, by rw [HNIL.out]; exact (List.drop_eq_nil_of_le (List.length_take_le _ _)).symm, hro, hrb, hno, hnb, hd1, hd2, hbel⟩
          case measure => simp [intOf]; omega
        · have hfl : fr < k := by omega
          obtain ⟨t, f, hq⟩ : ∃ t f, carriedR A.2.2 = (t, f) := ⟨_, _, rfl⟩
          have hcall : Calls Try.prog 29 #[.string (s.extract fr k)] wr fun e w' => e = .returned (.tuple #[.string ⟨t.toArray⟩, .int .i64 (f : Int)]) ∧ Below wr.heap.size wr w' := by
            have h1 := carried_any (s.extract fr k) wr (by rw [ByteArray.size_extract]; omega)
            rw [extract_mid, ← HCU.out, hq] at h1
            exact h1
          have HNE : Hid (A.2.2 ≠ []) := by
            show A.2.2 ≠ []
            rw [HCU.out]
            intro e
            have := congrArg List.length e
            have h0 : s.data.toList.length = s.size := by simp
            rw [List.length_drop, List.length_take] at this
            simp at this
            omega
          have HDR : Hid ([] = (s.data.toList.take (k + 1)).drop (k + 1)) := (List.drop_eq_nil_of_le (List.length_take_le _ _)).symm
          by_cases hf : f = 0
          · subst hf
            have HS : Hid (stepB A s[k] = (A.1 ++ [t], A.2.1, [])) := by
              show stepB A s[k] = _
              simp [stepB, hc, HNE.out, hq]
            clear hc hq hfk
            go_wp2_with (fail)
            refine hcall.mono ?_
            rintro e w1 ⟨rfl, hb1⟩
            have hro1 := hro.below hb1
            have hrb1 := hrb.below hb1
            have hw1 : Below w.heap.size w w1 := hbel.trans (hb1.mono hbel.size)
            clear hro hrb hbel hb1 hcall
            go_wp2_with (at_builtin; go_must (refine wpList_append_row _ rfl (.tmp 34) (.tmp 36) 22 rfl 9 i9 (.string ByteArray.empty) 1 16 Try.underlying22 hi9 hz90 hz91 hz92 rfl (by decide) u5 A.1.length (strs A.1) rfl (hro1.alloc _) _ 1 1 [.string ⟨t.toArray⟩] rfl rfl (by decide) (cells_one _ _ _) (one_string _) m1 b1 ?_))
            intro g2 cap2 w2 hr2 hgr2 hown2
            have R := two_step (n := A.1.length + 1) (cap2 := cap2) hno hd2 hrb1 hw1 hgr2 hown2
            have hr3 : Row w2 1 (.slice (some ⟨g2, 0, none⟩) (A.1.length + 1) cap2) (A.1 ++ [t]).length (strs (A.1 ++ [t])) := by
              simpa [strs] using hr2
            clear hr2 hgr2 hown2 hro1 hrb1 hw1 hno hd1 hd2
            go_wp2_with (fail)
            go_roundw
            case rel => exact ⟨k + 1, k + 1, (A.1 ++ [t], A.2.1, []), by rw [HT.out, HS.out], by omega, Nat.le_refl _, by go_num, by go_num, HDR.out, hr3, R.2.2.2.1, R.1, hnb, R.2.2.1, R.2.1, R.2.2.2.2⟩
            case measure => simp [intOf]; omega
          · have HS : Hid (stepB A s[k] = (A.1, A.2.1 ++ [f], [])) := by
              show stepB A s[k] = _
              simp [stepB, hc, HNE.out, hq, hf]
            have hf0 : ((f : Int) == 0) = false := by rw [beq_eq_false_iff_ne]; omega
            clear hc hq hfk
            go_wp2_with (fail)
            refine hcall.mono ?_
            rintro e w1 ⟨rfl, hb1⟩
            have hro1 := hro.below hb1
            have hrb1 := hrb.below hb1
            have hw1 : Below w.heap.size w w1 := hbel.trans (hb1.mono hbel.size)
            clear hro hrb hbel hb1 hcall
            go_wp2_with (at_builtin; go_must (refine wpList_append_row _ rfl (.tmp 38) (.tmp 40) 38 rfl 3 i3 (.int .i64 0) 1 8 Try.underlying38 hi3 hz30 hz31 hz32 rfl (by decide) u6 A.2.1.length (numsV A.2.1) rfl (hrb1.alloc _) _ 1 1 [.int .i64 (f : Int)] rfl rfl (by decide) (cells_one _ _ _) (one_int _ _) m2 b2 ?_))
            intro g2 cap2 w2 hr2 hgr2 hown2
            have R := two_step (n := A.2.1.length + 1) (cap2 := cap2) hnb hd1 hro1 hw1 hgr2 hown2
            have hr3 : Row w2 1 (.slice (some ⟨g2, 0, none⟩) (A.2.1.length + 1) cap2) (A.2.1 ++ [f]).length (numsV (A.2.1 ++ [f])) := by
              simpa [numsV] using hr2
            clear hr2 hgr2 hown2 hro1 hrb1 hw1 hnb hd1 hd2
            go_wp2_with (fail)
            go_roundw
            case rel => exact ⟨k + 1, k + 1, (A.1, A.2.1 ++ [f], []), by rw [HT.out, HS.out], by omega, Nat.le_refl _, by go_num, by go_num, HDR.out, R.2.2.2.1, hr3, hno, R.1, R.2.1, R.2.2.1, R.2.2.2.2⟩
            case measure => simp [intOf]; omega
      · have hn : ((s[k].toNat : Int) != 126) = true := by
          rw [bne]; cases hq : ((s[k].toNat : Int) == 126)
          · rfl
          · exact absurd ((eq126 _).mpr hq) hc
        have HS : Hid (stepB A s[k] = (A.1, A.2.1, A.2.2 ++ [s[k]])) := by
          show stepB A s[k] = _
          simp [stepB, hc]
        clear hc
        go_wp2_with (fail)
        go_roundw
        case rel =>
          refine ⟨k + 1, fr, (A.1, A.2.1, A.2.2 ++ [s[k]]), by rw [HT.out, HS.out], by omega, by omega, by go_num, rfl, ?_, hro, hrb, hno, hnb, hd1, hd2, hbel⟩
          show A.2.2 ++ [s[k]] = _
          rw [HTK.out, HCU.out, List.drop_append_of_le_length]
          simp; omega
        case measure => simp [intOf]; omega
    · have HE : Hid (readR [] s.data.toList = A) := by
        show readR [] s.data.toList = A
        rw [HA.out, List.take_of_length_le]
        show s.size ≤ k
        omega
      have HX : Hid (s.extract fr s.size = ⟨A.2.2.toArray⟩) := by
        show s.extract fr s.size = ⟨A.2.2.toArray⟩
        apply ByteArray.ext
        apply Array.toList_inj.mp
        rw [extract_mid, HCU.out, List.take_of_length_le (by simp), List.take_of_length_le (show s.data.toList.length ≤ k by show s.size ≤ k; omega)]
      have hfs : fr ≤ s.size := by omega
      go_wp2_with (fail)
      go_quiet (fail)
      go_wp2_with (fail)
      rw [HE.out, ← HX.out]
      go_ret3
      exact ⟨u5, u6, rfl, hro, hrb, hno, hnb, car_drewN hbel _⟩
end Go.Proofs.Ytnafklmigndgeaa
