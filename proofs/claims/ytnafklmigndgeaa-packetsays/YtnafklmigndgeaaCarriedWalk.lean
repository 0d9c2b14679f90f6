/-
  The document's Carried: what it answers.
-/
import Derived.Test.YtnafklmigndgeaaRefWalk
import Derived.Test.YtnafklmigndgeaaToldWalk
namespace Go.Proofs.Ytnafklmigndgeaa
open Go.RowKit Plain

/-- The bytes that stand between two flags, unescaped behind b; none: they can't be read. -/
def carB : List UInt8 → List UInt8 → Option (List UInt8)
  | [], b => some b
  | [c], b => if c < 32 then none else if c = 125 then none else if 62 ≤ b.length then none else some (b ++ [c])
  | c :: x :: r, b => if c < 32 then none else if c = 125 then (if x = 125 ∨ x < 32 then none else if 62 ≤ b.length then none else carB r (b ++ [x ^^^ 32])) else if 62 ≤ b.length then none else carB (x :: r) (b ++ [c])
/-- What they carry, and the error's number. -/
def endR (b : List UInt8) : List UInt8 × Nat :=
  if b.length < 2 then ([], 4)
  else if (Plain.sum (b.take (b.length - 2)) : Int) = ((b.getD (b.length - 2) 0).toNat : Int) + 256 * ((b.getD (b.length - 1) 0).toNat : Int) then (b.take (b.length - 2), 0)
  else ([], 5)
def carriedR (l : List UInt8) : List UInt8 × Nat := match carB l [] with
  | none => ([], 4)
  | some b => endR b

theorem carB_low (c : UInt8) (r b : List UInt8) (h : c < 32) : carB (c :: r) b = none := by
  cases r <;> simp [carB, h]
theorem carB_full (c : UInt8) (r b : List UInt8) (h : ¬ c < 32) (h1 : c ≠ 125) (h2 : 62 ≤ b.length) : carB (c :: r) b = none := by
  cases r <;> simp [carB, h, h1, h2]
theorem carB_plain (c : UInt8) (r b : List UInt8) (h : ¬ c < 32) (h1 : c ≠ 125) (h2 : ¬ 62 ≤ b.length) : carB (c :: r) b = carB r (b ++ [c]) := by
  cases r <;> simp [carB, h, h1, h2]
theorem carB_end (b : List UInt8) : carB [125] b = none := by simp [carB]
theorem carB_esc_bad (x : UInt8) (r b : List UInt8) (h : x = 125 ∨ x < 32) : carB (125 :: x :: r) b = none := by
  simp [carB, h]
theorem carB_esc_full (x : UInt8) (r b : List UInt8) (h2 : 62 ≤ b.length) : carB (125 :: x :: r) b = none := by
  simp [carB, h2]
theorem carB_esc (x : UInt8) (r b : List UInt8) (h : ¬ (x = 125 ∨ x < 32)) (h2 : ¬ 62 ≤ b.length) : carB (125 :: x :: r) b = carB r (b ++ [x ^^^ 32]) := by
  rw [carB, if_neg (by decide), if_pos rfl, if_neg h, if_neg h2]
theorem drop_cons (s : ByteArray) (k : Nat) (h : k < s.size) : s.data.toList.drop k = s[k] :: s.data.toList.drop (k + 1) := by
  rw [List.drop_eq_getElem_cons (by simpa using h)]; rfl
theorem lt32 (c : UInt8) : c < 32 ↔ (c.toNat : Int) < 32 := by rw [UInt8.lt_iff_toNat_lt]; show c.toNat < 32 ↔ _; omega
theorem eq125 (c : UInt8) : c = 125 ↔ ((c.toNat : Int) == 125) = true := by
  rw [← UInt8.toNat_inj, beq_iff_eq]; show c.toNat = 125 ↔ _; omega

theorem car_drewN {w a : World} {B : Nat} (h : Below B w a) (n : Nat) : Below B w (a.drewN n) := ⟨h.os, h.tape, h.output, h.size, h.block⟩
theorem rsum_q (s : ByteArray) (w : World) (hs : s.size ≤ maxLen) :
    Calls Try.prog 14 #[.string s] w fun e w' => e = .returned (.int .i64 (Plain.sum s.data.toList : Nat)) ∧ w' = w := (rsum_any s w hs).mono fun _ _ ⟨a, b⟩ => ⟨a, b.symm⟩
theorem endR_bad (l : List UInt8) (h2 : ¬ l.length < 2)
    (hq : (wrap64 (wrap64 ((l[l.length - 2]'(by omega)).toNat : Int) + wrap64 (256 * wrap64 ((l[l.length - 1]'(by omega)).toNat : Int))) != ((Plain.sum (l.take (l.length - 2)) : Nat) : Int)) = true) : endR l = ([], 5) := by
  rw [wrapsum] at hq
  have hq' : ¬ ((l[l.length - 2]'(by omega)).toNat : Int) + 256 * ((l[l.length - 1]'(by omega)).toNat : Int) = ((Plain.sum (l.take (l.length - 2)) : Nat) : Int) := by simpa using hq
  have e1 : l.getD (l.length - 2) 0 = l[l.length - 2]'(by omega) := by simp [show l.length - 2 < l.length by omega]
  have e2 : l.getD (l.length - 1) 0 = l[l.length - 1]'(by omega) := by simp [show l.length - 1 < l.length by omega]
  unfold endR
  rw [if_neg h2, e1, e2, if_neg (fun e => hq' e.symm)]
theorem endR_good (l : List UInt8) (h2 : ¬ l.length < 2)
    (hq : (wrap64 (wrap64 ((l[l.length - 2]'(by omega)).toNat : Int) + wrap64 (256 * wrap64 ((l[l.length - 1]'(by omega)).toNat : Int))) != ((Plain.sum (l.take (l.length - 2)) : Nat) : Int)) = false) : endR l = (l.take (l.length - 2), 0) := by
  rw [wrapsum] at hq
  have hq' : ((l[l.length - 2]'(by omega)).toNat : Int) + 256 * ((l[l.length - 1]'(by omega)).toNat : Int) = ((Plain.sum (l.take (l.length - 2)) : Nat) : Int) := by simpa using hq
  have e1 : l.getD (l.length - 2) 0 = l[l.length - 2]'(by omega) := by simp [show l.length - 2 < l.length by omega]
  have e2 : l.getD (l.length - 1) 0 = l[l.length - 1]'(by omega) := by simp [show l.length - 1 < l.length by omega]
  unfold endR
  rw [if_neg h2, e1, e2, if_pos hq'.symm]
theorem car_step {w w1 w2 : World} {v : Value} {o : Obj} {g2 n cap2 : Nat} (hnew : ∀ k, v.ownBlock = some k → w.heap.size ≤ k) (hbel : Below w.heap.size w w1)
    (hgr : (w1.alloc o).grownBy w2 v.ownBlock) (hown : v.ownBlock = some g2 ∨ w1.heap.size + 1 ≤ g2) :
    (∀ k, Value.ownBlock (.slice (some ⟨g2, 0, none⟩) n cap2) = some k → w.heap.size ≤ k) ∧ Below w.heap.size w w2 := by
  have hz := hbel.size
  have hs : (w1.alloc o).heap.size = w1.heap.size + 1 := by simp
  refine ⟨fun k hk => ?_, (hbel.alloc hz o).grown hgr (by omega) (fun k hk => hnew k hk)⟩
  have : g2 = k := by simpa [Value.ownBlock] using hk
  rcases hown with h | h
  · have := hnew g2 h; omega
  · omega

set_option maxRecDepth 100000 in
set_option maxHeartbeats 4000000 in
theorem carried_any (s : ByteArray) (w : World) (hs : s.size ≤ 100000) :
    Calls Try.prog 29 #[.string s] w fun e w' => e = .returned (.tuple #[.string ⟨(carriedR s.data.toList).1.toArray⟩, .int .i64 ((carriedR s.data.toList).2 : Int)]) ∧ Below w.heap.size w w' := by
  obtain ⟨i0, hi, hz0, hz1, hz2⟩ := info_parts info5
  go_enter Try.func29, Try.ntmps29
  go_wp2_with (fail)
  go_loopw [4, 5] (fun v i wr => ∃ (k : Nat) (B : List UInt8), k ≤ s.size ∧ i = .int .i64 k ∧ B.length ≤ 62 ∧ carB s.data.toList [] = carB (s.data.toList.drop k) B ∧ Row wr 1 v B.length (cells8 B) ∧ (∀ k, v.ownBlock = some k → w.heap.size ≤ k) ∧ Below w.heap.size w wr)
    (fun _ i _ => s.size - (intOf i).toNat)
  case atStart => exact ⟨0, [], Nat.zero_le _, rfl, by simp, rfl, Row.nil _ _, fun k hk => by simp [Value.ownBlock] at hk, Below.refl _ _⟩
  case round =>
    obtain ⟨k, B, hk, rfl, hB, hC, hrow, hnew, hbel⟩ := hrel
    have HC : Hid (carB s.data.toList [] = carB (s.data.toList.drop k) B) := hC
    clear hC
    have m1 : B.length + 1 ≤ maxLen := by unfold maxLen; omega
    have b1 : (B.length + 1) * 1 ≤ 140737488355328 := by omega
    by_cases hlt : k < s.size
    · have HD : Hid _ := drop_cons s k hlt
      obtain ⟨c, hcc⟩ : ∃ c, c = s[k] := ⟨_, rfl⟩
      by_cases h1 : (s[k].toNat : Int) < 32
      · have hcar : carriedR s.data.toList = ([], 4) := by
          unfold carriedR
          rw [HC.out, HD.out, carB_low _ _ _ ((lt32 _).mpr h1)]
        have HR : Hid _ := hcar
        clear hcar
        go_wp2_with (fail)
        rw [HR.out]
        go_ret2
        exact ⟨rfl, hbel⟩
      · by_cases h2 : ((s[k].toNat : Int) == 125) = true
        · by_cases hlt2 : k + 1 < s.size
          · have HD2 : Hid _ := drop_cons s (k + 1) hlt2
            have heq : (((k : Int) + 1) == (s.size : Int)) = false := by rw [beq_eq_false_iff_ne]; omega
            by_cases h3 : ((s[k + 1].toNat : Int) == 125) = true ∨ (s[k + 1].toNat : Int) < 32
            · have hcar : carriedR s.data.toList = ([], 4) := by
                unfold carriedR
                rw [HC.out, HD.out, HD2.out, (eq125 _).mpr h2, carB_esc_bad]
                rcases h3 with h3 | h3
                · exact .inl ((eq125 _).mpr h3)
                · exact .inr ((lt32 _).mpr h3)
              have HR : Hid _ := hcar
              clear hcar
              rcases h3 with h3 | h3
              · go_wp2_with (fail)
                rw [HR.out]
                go_ret2
                exact ⟨rfl, hbel⟩
              · cases h4 : ((s[k + 1].toNat : Int) == 125)
                · go_wp2_with (fail)
                  rw [HR.out]
                  go_ret2
                  exact ⟨rfl, hbel⟩
                · go_wp2_with (fail)
                  rw [HR.out]
                  go_ret2
                  exact ⟨rfl, hbel⟩
            · have h3' : ((s[k + 1].toNat : Int) == 125) = false := by
                cases h4 : ((s[k + 1].toNat : Int) == 125)
                · rfl
                · exact absurd (.inl h4) h3
              have h3'' : ¬ (s[k + 1].toNat : Int) < 32 := fun h => h3 (.inr h)
              have hx := xor32 s[k + 1]
              have hno : ¬ (s[k + 1] = 125 ∨ s[k + 1] < 32) := by rw [eq125, lt32]; exact h3
              have HNO : Hid _ := hno
              have HX : Hid _ := (eq125 _).mpr h2
              clear h3 hno
              go_wp2_with (at_builtin; go_must (refine wpList_append_row _ rfl (.tmp 44) (.tmp 46) 62 rfl 5 i0 (.int .u8 0) 1 1 Try.underlying62 hi hz0 hz1 hz2 rfl (by decide) u4 B.length (cells8 B) rfl (hrow.alloc _) _ 1 1 [.int .u8 ((s[k + 1] ^^^ 32).toNat : Int)] rfl rfl (by decide) (cells_one _ _ _) (one_int _ _) m1 b1 ?_))
              intro g2 cap2 w2 hr2 hgr2 hown2
              have R := car_step (n := B.length + 1) (cap2 := cap2) hnew hbel hgr2 hown2
              by_cases h62 : B.length = 62
              · have hcar : carriedR s.data.toList = ([], 4) := by
                  unfold carriedR
                  rw [HC.out, HD.out, HD2.out, HX.out, carB_esc_full _ _ _ (by omega)]
                have h62' : (62 : Int) < (B.length : Int) + 1 := by omega
                have HR : Hid _ := hcar
                clear hcar hgr2 hown2 hr2
                go_wp2_with (fail)
                rw [HR.out]
                go_ret2
                exact ⟨rfl, R.2⟩
              · have h62' : ¬ (62 : Int) < (B.length : Int) + 1 := by omega
                have HN : Hid (carB s.data.toList [] = carB (s.data.toList.drop (k + 1 + 1)) (B ++ [(s[k + 1] ^^^ 32)])) := by
                  show carB s.data.toList [] = _
                  rw [HC.out, HD.out, HD2.out, HX.out, carB_esc _ _ _ HNO.out (by omega)]
                have hr3 : Row w2 1 (.slice (some ⟨g2, 0, none⟩) (B.length + 1) cap2) (B ++ [(s[k + 1] ^^^ 32)]).length (cells8 (B ++ [(s[k + 1] ^^^ 32)])) := by
                  rw [cells8_append, List.length_append]
                  simpa [cells8] using hr2
                clear hgr2 hown2 hr2 hrow hbel
                go_wp2_with (fail)
                go_roundw
                case rel => exact ⟨k + 1 + 1, B ++ [(s[k + 1] ^^^ 32)], by omega, by go_num, by simp; omega, HN.out, hr3, R.1, R.2⟩
                case measure => simp [intOf]; omega
          · have heq : (((k : Int) + 1) == (s.size : Int)) = true := by rw [beq_iff_eq]; omega
            have hcar : carriedR s.data.toList = ([], 4) := by
              unfold carriedR
              have e1 : s.data.toList.drop (k + 1) = [] := List.drop_eq_nil_of_le (by show s.size ≤ k + 1; omega)
              rw [HC.out, HD.out, e1, (eq125 _).mpr h2, carB_end]
            have HR : Hid _ := hcar
            clear hcar
            go_wp2_with (fail)
            rw [HR.out]
            go_ret2
            exact ⟨rfl, hbel⟩
        · have h2' : ((s[k].toNat : Int) == 125) = false := by simpa using h2
          have HNL : Hid (¬ s[k] < 32) := fun h => h1 ((lt32 _).mp h)
          have HNE : Hid (s[k] ≠ 125) := fun h => h2 ((eq125 _).mp h)
          clear h2
          go_wp2_with (at_builtin; go_must (refine wpList_append_row _ rfl (.tmp 44) (.tmp 46) 62 rfl 5 i0 (.int .u8 0) 1 1 Try.underlying62 hi hz0 hz1 hz2 rfl (by decide) u4 B.length (cells8 B) rfl (hrow.alloc _) _ 1 1 [.int .u8 (s[k].toNat : Int)] rfl rfl (by decide) (cells_one _ _ _) (one_int _ _) m1 b1 ?_))
          intro g2 cap2 w2 hr2 hgr2 hown2
          have R := car_step (n := B.length + 1) (cap2 := cap2) hnew hbel hgr2 hown2
          by_cases h62 : B.length = 62
          · have hcar : carriedR s.data.toList = ([], 4) := by
              unfold carriedR
              rw [HC.out, HD.out, carB_full _ _ _ HNL.out HNE.out (by omega)]
            have h62' : (62 : Int) < (B.length : Int) + 1 := by omega
            have HR : Hid _ := hcar
            clear hcar hgr2 hown2 hr2
            go_wp2_with (fail)
            rw [HR.out]
            go_ret2
            exact ⟨rfl, R.2⟩
          · have h62' : ¬ (62 : Int) < (B.length : Int) + 1 := by omega
            have HN : Hid (carB s.data.toList [] = carB (s.data.toList.drop (k + 1)) (B ++ [s[k]])) := by
              show carB s.data.toList [] = _
              rw [HC.out, HD.out, carB_plain _ _ _ HNL.out HNE.out (by omega)]
            have hr3 : Row w2 1 (.slice (some ⟨g2, 0, none⟩) (B.length + 1) cap2) (B ++ [s[k]]).length (cells8 (B ++ [s[k]])) := by
              rw [cells8_append, List.length_append]
              simpa [cells8] using hr2
            clear hgr2 hown2 hr2 hrow hbel
            go_wp2_with (fail)
            go_roundw
            case rel => exact ⟨k + 1, B ++ [s[k]], by omega, by go_num, by simp; omega, HN.out, hr3, R.1, R.2⟩
            case measure => simp [intOf]; omega
    · have hcar : carriedR s.data.toList = endR B := by
        unfold carriedR
        have e1 : s.data.toList.drop k = [] := List.drop_eq_nil_of_le (by show s.size ≤ k; omega)
        rw [HC.out, e1, carB]
      have HR : Hid _ := hcar
      clear hcar HC
      have hrow2 := hrow.2
      clear hrow
      rcases hrow2 with ⟨hv, hn⟩ | ⟨g, cp, hv, hg1, hnc, hcm, hcell, hsp⟩
      · have hend : endR B = ([], 4) := by simp [endR, hn]
        have HE : Hid _ := hend
        subst hv
        clear hend hn
        go_wp2_with (fail)
        rw [HR.out, HE.out]
        go_ret2
        exact ⟨rfl, hbel⟩
      · subst hv
        clear hsp hnew
        by_cases h2 : B.length < 2
        · have hend : endR B = ([], 4) := by simp [endR, h2]
          have HE : Hid _ := hend
          clear hend hcell
          go_wp2_with (fail)
          rw [HR.out, HE.out]
          go_ret2
          exact ⟨rfl, hbel⟩
        · have hA := hcell (B.length - 2) _ (cells8_get B (B.length - 2) (by omega))
          have hBb := hcell (B.length - 1) _ (cells8_get B (B.length - 1) (by omega))
          have hcv : (convert 62 9 (.slice (some ⟨g, 0, none⟩) (B.length - 2) cp)).run Try.prog wr = .ok (.string ⟨(B.take (B.length - 2)).toArray⟩) wr := by
            have hl2 : (B.take (B.length - 2)).length = B.length - 2 := by simp
            have := run_convert_bytes_back (P := Try.prog) wr 62 9 5 ⟨g, 0, none⟩ cp (B.take (B.length - 2)) Try.underlying62 Try.underlying5 Try.underlying9 (fun j hj => by
              rw [add_plain, hcell j _ (cells8_get B j (by omega))]
              simp)
            rw [hl2] at this
            exact this
          have tA : (((B.length : Int) - 2).toNat) = B.length - 2 := by omega
          have tB : (((B.length : Int) - 2 + 1).toNat) = B.length - 1 := by omega
          have hS : (ByteArray.mk (B.take (B.length - 2)).toArray).size ≤ maxLen := by
            show (B.take (B.length - 2)).toArray.size ≤ maxLen
            unfold maxLen; simp; omega
          clear hcell
          go_wp2_with (fail)
          go_quiet ((go_at_call 14; exact Calls.quiet_of_same (rsum_q _ _ hS)))
          go_wp2_with (fail)
          · have hq := endR_bad B h2 (by assumption)
            rw [HR.out, hq]
            go_ret2
            exact ⟨rfl, car_drewN hbel _⟩
          · have hq := endR_good B h2 (by assumption)
            rw [HR.out, hq]
            go_ret2
            exact ⟨rfl, car_drewN hbel _⟩
end Go.Proofs.Ytnafklmigndgeaa
