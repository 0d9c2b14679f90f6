/-
  'TopFrame' returns true at every text and cut, and changes nothing that was there.
-/
import Derived.Test.YtnafklmigndgeaaTopBase
namespace Go.Proofs.Ytnafklmigndgeaa
open Go.RowKit Plain
namespace topFrame
theorem extract_take (l : List UInt8) (k : Nat) : ((⟨l.toArray⟩ : ByteArray).extract 0 k).data.toList = l.take k := by
  simp
theorem extract_drop (l : List UInt8) (k : Nat) : ((⟨l.toArray⟩ : ByteArray).extract k (⟨l.toArray⟩ : ByteArray).size).data.toList = l.drop k := by
  rw [ByteArray.data_extract]
  simp
  show List.take (l.toArray.size - k) _ = _
  rw [List.size_toArray]
  exact List.take_of_length_le (by simp)

set_option maxRecDepth 100000 in
set_option maxHeartbeats 2000000 in
theorem walk_long (s : ByteArray) (cut : Int) (w : World) (hs : s.size ≤ maxLen) (h : 100 < s.size) :
    Calls Try.prog 5 #[.string s, .int .i64 cut] w fun e w' => e = .returned (.bool true) ∧ Below w.heap.size w w' := by
  unfold maxLen at hs
  have h1 : (100 : Int) < (s.size : Int) := by omega
  go_enter Try.func5, Try.ntmps5
  go_wp2_with (go_at_call 10; refine (make_x _).mono ?_; rintro e w' ⟨F, rfl, hF1, hF2, hb⟩)
  go_ret
  exact ⟨rfl, by assumption⟩

set_option maxRecDepth 100000 in
set_option maxHeartbeats 2000000 in
theorem walk_many (s : ByteArray) (cut : Int) (w : World) (hs : s.size ≤ 100) (h : 60 < s.size) :
    Calls Try.prog 5 #[.string s, .int .i64 cut] w fun e w' => e = .returned (.bool true) ∧ Below w.heap.size w w' := by
  have h1 : ¬ (100 : Int) < (s.size : Int) := by omega
  have h2 : (60 : Int) < (s.size : Int) := by omega
  go_enter Try.func5, Try.ntmps5
  go_wp2_with (fail)
  refine (make_x _).mono ?_
  rintro e w1 ⟨F, rfl, hF1, hF2, hb⟩
  go_wp2_with (fail)
  refine (make_no s _ (by omega) (by unfold maxLen; omega)).mono ?_
  rintro e w2 ⟨rfl, rfl⟩
  go_wp2_with (fail)
  refine (number_err _ _).mono ?_
  rintro e w3 ⟨rfl, rfl⟩
  go_wp2_with (fail)
  go_ret
  exact ⟨rfl, hb⟩

set_option maxRecDepth 100000 in
set_option maxHeartbeats 4000000 in
theorem walk_in (s : ByteArray) (cut : Int) (m : Nat) (w : World) (hs : s.size ≤ 60) (hm : bits .and .i64 cut 1023 = (m : Int)) (hm2 : m ≤ 1023) :
    Calls Try.prog 5 #[.string s, .int .i64 cut] w fun e w' => e = .returned (.bool true) ∧ Below w.heap.size w w' := by
  have h1 : ¬ (100 : Int) < (s.size : Int) := by omega
  have hz := zero35.1
  have hsl : s.data.toList.length ≤ 60 := by simpa using hs
  have hle := frameL_le s.data.toList hsl
  have hge := frameL_ge s.data.toList
  have hin := frameL_in s.data.toList
  obtain ⟨F, hF⟩ : ∃ F : ByteArray, F = ⟨(frameL s.data.toList).toArray⟩ := ⟨_, rfl⟩
  have hFl : F.size = (frameL s.data.toList).length := by rw [hF]; show (frameL s.data.toList).toArray.size = _; rw [List.size_toArray]
  have hFi : ∀ (i : Nat) (h : i < F.size), 1 ≤ i → i + 1 < F.size → ((F[i].toNat : Int) == 126) = false ∧ ¬ (F[i].toNat : Int) < 32 := by
    intro i h hi1 hi2
    subst hF
    have := hin i hi1 (by omega)
    have e1 : (ByteArray.mk (frameL s.data.toList).toArray)[i] = (frameL s.data.toList)[i]'(by omega) := by
      show (frameL s.data.toList).toArray[i]'_ = _
      simp
    rw [e1]
    generalize (frameL s.data.toList)[i]'(by omega) = c at this
    refine ⟨?_, ?_⟩
    · rw [beq_eq_false_iff_ne]
      intro e
      apply this.1
      rw [← UInt8.toNat_inj]
      show c.toNat = 126
      omega
    · intro e
      apply this.2
      rw [UInt8.lt_iff_toNat_lt]
      show c.toNat < 32
      omega
  have hmk : ∀ W : World, Calls Try.prog 10 #[.string s] W fun e w' => e = .returned (.tuple #[.string F, .nilIface]) ∧ Below W.heap.size W w' := fun W => by rw [hF]; exact make_yes s W hs
  have HF : Hid (F = ⟨(frameL s.data.toList).toArray⟩) := hF
  rw [← hFl] at hle hge
  have HFi : Hid _ := hFi
  clear hF hFl hin hFi
  obtain ⟨i0, hi, hz0, hz1, hz2⟩ := info_parts info9
  go_enter Try.func5, Try.ntmps5
  go_wp2_with (fail)
  refine (make_x _).mono ?_
  rintro e w1 ⟨F0, rfl, hF1, hF2, hb1⟩
  go_wp2_with (fail)
  refine (hmk _).mono ?_
  rintro e w2 ⟨rfl, hb2⟩
  go_wp2_with (fail)

  go_loop [7] (fun i => ∃ k : Nat, 1 ≤ k ∧ k + 1 ≤ F.size ∧ i = .int .i64 k) (fun i => F.size - (intOf i).toNat)
  case atStart => exact ⟨1, by omega, by omega, rfl⟩
  case round =>
    obtain ⟨k, hk1, hk2, rfl⟩ := hrel
    by_cases hlt : k + 1 < F.size
    · obtain ⟨q1, q2⟩ := HFi.out k (by omega) hk1 hlt
      have hkb : k < F.size := by omega
      go_wp2_with (fail)
      go_round
      case rel => exact ⟨k + 1, by omega, by omega, by go_num⟩
      case measure => simp [intOf]; omega
    · obtain ⟨c, hc, hcF⟩ : ∃ c : Nat, (m : Int) % ((F.size : Int) + 1) = (c : Int) ∧ c ≤ F.size := by
        refine ⟨m % (F.size + 1), by rw [Int.natCast_emod, Int.natCast_add]; rfl, ?_⟩
        have := Nat.mod_lt m (show 0 < F.size + 1 by omega)
        omega
      obtain ⟨st, hp⟩ := pieces s.data.toList hsl c
      have hw2 := below_chain hb1 hb2
      have e1 : (F.extract 0 c).data.toList = (frameL s.data.toList).take c := by rw [HF.out]; exact extract_take _ _
      have e2 : (F.extract c F.size).data.toList = (frameL s.data.toList).drop c := by rw [HF.out]; exact extract_drop _ _
      have s1 : (F.extract 0 c).size ≤ 100000 := by rw [ByteArray.size_extract]; omega
      have s2 : (F.extract c F.size).size ≤ 100000 := by rw [ByteArray.size_extract]; omega
      have HS : Hid ((ByteArray.mk s.data.toList.toArray) = s) := by
        show (ByteArray.mk s.data.toList.toArray) = s
        simp
      rw [← e1, ← e2] at hp
      clear e1 e2 hge
      rcases hp with ⟨p1, p2⟩ | ⟨p1, p2⟩
      · have c1 := fun W b h => all_nil b ([], false, false) st (F.extract 0 c) W h s1 p1
        have c2 := fun W b h => all_one b st ([], false, false) s.data.toList (F.extract c F.size) W h s2 p2
        rw [HS.out] at c2
        clear p1 p2 s1 s2
        go_wp2_with (fail)
        refine (c1 _ _ (rd_new w2)).mono ?_
        rintro e w3 ⟨rfl, hR3, hg3⟩
        go_wp2_with (fail)
        refine (c2 _ _ hR3).mono ?_
        rintro e w4 ⟨g, cp, rfl, hrow4, hg, _, hg4⟩
        go_wp2_with (first
          | (at_builtin; refine wpList_append_none _ rfl _ (.tmp 85) 22 rfl 9 i0 1 Try.underlying22 hi (.slice none 0 0) 0 [] rfl (Row.nil _ _) rfl ?_)
          | (at_builtin; refine wpList_append_row _ rfl (.tmp 86) (.tmp 87) 22 rfl 9 i0 (.string ByteArray.empty) 1 16 Try.underlying22 hi hz0 hz1 hz2 rfl (by decide) (.slice none 0 0) 0 [] rfl (Row.nil _ _) ⟨g, 0, none⟩ 1 cp [.string s] rfl rfl (by decide) ?hn (one_string _) (by decide) (by decide) ?_))
        case hn => intro j u hj; rw [add_plain]; exact hrow4.cell j u hj
        intro g5 cp5 w5 hr5 hgr5 hown5
        have hw3 : Below w.heap.size w w3 := below_grown (hw2.alloc hw2.size _) hg3 hw2.size
        have hw4 : Below w.heap.size w w4 := below_grown hw3 hg4 hw2.size
        have hw5 : Below w.heap.size w w5 := below_grown0 hw4 hgr5
        clear hgr5 hown5 hg3 hg4 hR3 hrow4
        go_wp2_with (fail)
        refine (same_one s _ _ _ (hr5.alloc _).reads (one_made w5 s)).mono ?_
        rintro e w6 ⟨rfl, n6, rfl⟩
        go_wp2_with (fail)
        go_ret
        exact ⟨rfl, below_drewN (hw5.alloc hw5.size _) n6⟩
      · have c1 := fun W b h => all_one b ([], false, false) st s.data.toList (F.extract 0 c) W h s1 p1
        have c2 := fun W b h => all_nil b st ([], false, false) (F.extract c F.size) W h s2 p2
        rw [HS.out] at c1
        clear p1 p2 s1 s2
        go_wp2_with (fail)
        refine (c1 _ _ (rd_new w2)).mono ?_
        rintro e w3 ⟨g, cp, rfl, hrow3, hg, hR3, hg3⟩
        go_wp2_with (fail)
        refine (c2 _ _ hR3).mono ?_
        rintro e w4 ⟨rfl, _, hg4⟩
        have hsz : (w2.alloc (Obj.cells Z35 35)).heap.size = w2.heap.size + 1 := by simp
        have hrow4 := hrow3.kept_rd hg4 (by omega)
        go_wp2_with (first
          | (at_builtin; refine wpList_append_none _ rfl (.tmp 86) (.tmp 87) 22 rfl 9 i0 1 Try.underlying22 hi _ 1 [.string s] rfl (by assumption) rfl ?_)
          | (at_builtin; refine wpList_append_row _ rfl _ (.tmp 85) 22 rfl 9 i0 (.string ByteArray.empty) 1 16 Try.underlying22 hi hz0 hz1 hz2 rfl (by decide) (.slice none 0 0) 0 [] rfl (Row.nil _ _) ⟨g, 0, none⟩ 1 cp [.string s] rfl rfl (by decide) ?hn (one_string _) (by decide) (by decide) ?_))
        case hn => intro j u hj; rw [add_plain]; exact hrow4.cell j u hj
        intro g5 cp5 w5 hr5 hgr5 hown5
        have hr5 : Row w5 1 (.slice (some ⟨g5, 0, none⟩) 1 cp5) 1 [.string s] := hr5
        have hw3 : Below w.heap.size w w3 := below_grown (hw2.alloc hw2.size _) hg3 hw2.size
        have hw4 : Below w.heap.size w w4 := below_grown hw3 hg4 hw2.size
        have hw5 : Below w.heap.size w w5 := below_grown0 hw4 hgr5
        clear hgr5 hown5 hg3 hg4 hR3 hrow4 hrow3
        go_wp2_with (at_builtin; refine wpList_append_none _ rfl (.tmp 86) (.tmp 87) 22 rfl 9 i0 1 Try.underlying22 hi (.slice (some ⟨g5, 0, none⟩) 1 cp5) 1 [.string s] rfl hr5 rfl ?_)
        go_wp2_with (fail)
        refine (same_one s _ _ _ (hr5.alloc _).reads (one_made w5 s)).mono ?_
        rintro e w6 ⟨rfl, n6, rfl⟩
        go_wp2_with (fail)
        go_ret
        exact ⟨rfl, below_drewN (hw5.alloc hw5.size _) n6⟩

theorem walk (s : ByteArray) (cut : Int) (hs : s.size ≤ maxLen) (w : World) :
    Calls Try.prog 5 #[.string s, .int .i64 cut] w fun e w' => e = .returned (.bool true) ∧ Below w.heap.size w w' := by
  obtain ⟨m, hm2, hm⟩ := and_mask cut
  by_cases h1 : 100 < s.size
  · exact walk_long s cut w hs h1
  · by_cases h2 : 60 < s.size
    · exact walk_many s cut w (by omega) h2
    · exact walk_in s cut m w (by omega) hm hm2
end topFrame
end Go.Proofs.Ytnafklmigndgeaa
