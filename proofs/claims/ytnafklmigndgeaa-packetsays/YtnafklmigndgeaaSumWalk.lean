/-
  The program's Sum, and the document's, of a text each come to the sum of its bytes.
-/
import Derived.Test.YtnafklmigndgeaaRows
import Derived.Test.YtnafklmigndgeaaPlain
import Derived.WalkKit
import Derived.WalkSpells
import Derived.WalkLawsBesides
import Derived.Handy
namespace Go.Proofs.Ytnafklmigndgeaa
open Go.RowKit Plain

theorem ret_int {k : IntKind} {a b : Int} (h : a = b) : Ending.returned (.int k a) = .returned (.int k b) := by rw [h]
theorem take_snoc (s : ByteArray) (k : Nat) (h : k < s.size) : s.data.toList.take (k + 1) = s.data.toList.take k ++ [s[k]] := by
  rw [List.take_succ_eq_append_getElem (by simpa using h)]; rfl
theorem turn_odd (x : Nat) (h : x < 65536) (h1 : (x : Int) % 2 = 1) : bits .xor .i64 ((x : Int) / 2) 33800 = (turn x : Int) := by
  have e := i64_xor_nat (x / 2) 33800 (by omega) (by omega)
  have : x % 2 = 1 := by omega
  simp only [turn, this, if_true]
  rw [← e]; simp
theorem turn_even (x : Nat) (h1 : ¬ (x : Int) % 2 = 1) : (x : Int) / 2 = (turn x : Int) := by
  have : ¬ x % 2 = 1 := by omega
  simp [turn, this]

set_option maxHeartbeats 1000000 in
theorem sum_any (s : ByteArray) (w : World) (hs : s.size ≤ maxLen) :
    Calls Try.prog 13 #[.string s] w fun e w' => e = .returned (.int .i64 (Plain.sum s.data.toList : Nat)) ∧ w = w' := by
  unfold maxLen at hs
  go_enter Try.func13, Try.ntmps13
  go_wp2
  go_loop [3, 8] (fun x i => ∃ k : Nat, k ≤ s.size ∧ i = .int .i64 k ∧ x = .int .i64 (reg (s.data.toList.take k) : Nat)) (fun _ i => s.size - (intOf i).toNat)
  case atStart => exact ⟨0, Nat.zero_le _, rfl, rfl⟩
  case round =>
    obtain ⟨k, hk, rfl, rfl⟩ := hrel
    by_cases hlt : k < s.size
    · have hts := take_snoc s k hlt
      have HS : Hid (reg (s.data.toList.take (k + 1)) = turns 8 (reg (s.data.toList.take k) ^^^ s[k].toNat)) := by rw [hts, reg_snoc]; rfl
      have HX : bits .xor .i64 (reg (s.data.toList.take k) : Nat) (wrap64 (s[k].toNat : Nat)) = ((reg (s.data.toList.take k) ^^^ s[k].toNat : Nat) : Int) := by
        have hb := s[k].toNat_lt
        rw [IntWalk.wrap64_in _ ⟨by omega, by omega⟩]
        exact i64_xor_nat _ _ (reg_lt _) (u8_lt _)
      have HB : reg (s.data.toList.take k) ^^^ s[k].toNat < 65536 := xor_lt _ _ (reg_lt _) (u8_lt _)
      clear hts
      generalize reg (s.data.toList.take k) ^^^ s[k].toNat = X at HX HB HS
      go_wp2
      go_loop [3, 17] (fun x i => ∃ j : Nat, j ≤ 8 ∧ i = .int .i64 j ∧ x = .int .i64 (turns j X : Nat)) (fun _ i => 8 - (intOf i).toNat)
      case atStart => exact ⟨0, Nat.zero_le _, rfl, rfl⟩
      case round =>
        obtain ⟨j, hj, rfl, rfl⟩ := hrel
        by_cases hj8 : j < 8
        · have hl := turns_lt j X HB
          have hT : turns (j + 1) X = turn (turns j X) := turns_succ j X
          have ho := turn_odd (turns j X) hl
          have he := turn_even (turns j X)
          generalize turns j X = Y at *
          go_wp2
          all_goals
            go_round
            case rel => exact ⟨j + 1, by omega, by go_num, by rw [hT]; first | rw [ho (by simp_all)] | rw [he (by simp_all)]⟩
            case measure => simp [intOf]; omega
        · have e8 : j = 8 := by omega
          subst e8
          go_wp2
          go_round
          case rel => exact ⟨k + 1, by omega, by go_num, by rw [HS.out]⟩
          case measure => simp [intOf]; omega
    · go_wp2
      go_ret
      have e : k = s.size := by omega
      exact ⟨ret_int (by rw [List.take_of_length_le (by simp; omega)]; exact i64_xor_nat _ 65535 (reg_lt _) (by decide)), rfl⟩
end Go.Proofs.Ytnafklmigndgeaa
