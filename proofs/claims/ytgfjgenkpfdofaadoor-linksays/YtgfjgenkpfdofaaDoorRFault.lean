/-
  The document's PacketFault: what it answers.
-/
import Derived.Test.YtgfjgenkpfdofaaDoorOptWalk
namespace Go.Proofs.YtgfjgenkpfdofaaDoor
open Go.RowKit

theorem isB_iff (x : Int) : isB x = true ↔ 0 ≤ x ∧ x ≤ 255 := by simp [isB]
theorem isB_false (x : Int) (h : x < 0 ∨ 255 < x) : isB x = false := by
  cases hq : isB x
  · rfl
  · have := (isB_iff x).mp hq; omega
theorem isB_true (x : Int) (h : ¬ x < 0) (h2 : ¬ 255 < x) : isB x = true := (isB_iff x).mpr ⟨by omega, by omega⟩

/-- The packet's own cells, in a later world. -/
theorem box_cells {w w1 : World} {x y z : Value} (hb : Below (w.alloc (.cells #[x, y, z] 36)).heap.size (w.alloc (.cells #[x, y, z] 36)) w1) :
    w1.cell? ⟨w.heap.size, 0, none⟩ = some x ∧ w1.cell? ⟨w.heap.size, 1, none⟩ = some y ∧ w1.cell? ⟨w.heap.size, 2, none⟩ = some z ∧ w.heap.size < w1.heap.size := by
  have hz : w.heap.size < (w.alloc (.cells #[x, y, z] 36)).heap.size := by simp
  have hA := fun j => World.cell?_alloc_mark w #[x, y, z] 36 (0, 0) j
  exact ⟨(hb.cell (p := ⟨w.heap.size, 0, none⟩) hz).trans (hA 0), (hb.cell (p := ⟨w.heap.size, 1, none⟩) hz).trans (hA 1), (hb.cell (p := ⟨w.heap.size, 2, none⟩) hz).trans (hA 2), Nat.lt_of_lt_of_le hz hb.size⟩

set_option maxRecDepth 100000 in
set_option maxHeartbeats 4000000 in
theorem pfault_loop (code id : Int) (a : Option Addr) (n cap : Nat) (os : List Opt) (w : World) (hn : n ≤ 8) (ho : OptR w a n os) (h1 : ¬ code < 1) (h2 : ¬ 6 < code) (h3 : ¬ id < 0) (h4 : ¬ 255 < id) (h5 : 4 < code → n = 0) (HE : Hid (packF code id os = optF [] os)) :
    Calls Tryd.prog 27 #[.agg #[.int .i64 code, .int .i64 id, .slice a n cap]] w fun e w' => e = .returned (.int .i64 (packF code id os : Int)) ∧ Below w.heap.size w w' := by
  have hw1 : Below w.heap.size w (w.alloc (.cells #[.int .i64 code, .int .i64 id, .slice a n cap] 36)) := (Below.refl _ _).alloc (Nat.le_refl _) _
  have h6 : ¬ (8 : Int) < (n : Int) := by omega
  have hstart : ∀ Q : Prop, ((4 < code → ¬ (0 : Int) < (n : Int)) → Q) → Q := fun Q h => h (fun h4 => by have := h5 h4; omega)
  clear hstart
  by_cases h7 : 4 < code
  · have h8 : n = 0 := h5 h7
    subst h8
    have hos : os = [] := List.eq_nil_of_length_eq_zero ho.1
    have HZ : Hid (packF code id os = 0) := by show packF code id os = 0; rw [HE.out, hos]; rfl
    clear hos
    go_enter Tryd.func27, Tryd.ntmps27
    go_wp2_with (fail)
    refine wp_loop_rounds 1 ?_
    rw [rounds_succ]
    go_wp2_with (fail)
    rw [HZ.out]
    go_ret
    exact ⟨rfl, hw1⟩
  · clear h5
    go_enter Tryd.func27, Tryd.ntmps27
    go_wp2_with (fail)
    go_loopw [3] (fun i wr => ∃ k : Nat, k ≤ n ∧ i = .int .i64 k ∧ optF [] os = optF (os.take k) (os.drop k) ∧ Below (w.alloc (.cells #[.int .i64 code, .int .i64 id, .slice a n cap] 36)).heap.size (w.alloc (.cells #[.int .i64 code, .int .i64 id, .slice a n cap] 36)) wr) (fun i _ => n - (intOf i).toNat)
    case atStart => exact ⟨0, Nat.zero_le _, rfl, rfl, Below.refl _ _⟩
    case round =>
      obtain ⟨k, hk, rfl, hF0, hbel⟩ := hrel
      obtain ⟨W1, rfl⟩ : ∃ W1, W1 = wr := ⟨_, rfl⟩
      have hF : Hid _ := hF0
      clear hF0
      obtain ⟨_, _, q2, q3⟩ := box_cells hbel
      have hwr := below_chain hw1 hbel
      by_cases hlt : k < n
      · have hor := ho.below hwr
        rcases hor.2 with h0 | ⟨b, off, rfl, hc⟩
        · omega
        have hlo : k < os.length := by rw [ho.1]; exact hlt
        obtain ⟨c1, c2⟩ := hc k hlo
        have HT : Hid (os.take (k + 1) = os.take k ++ [os[k]]) := List.take_succ_eq_append_getElem hlo
        have HD : Hid (os.drop k = os[k] :: os.drop (k + 1)) := List.drop_eq_getElem_cons hlo
        generalize os[k] = o at c1 c2 HT HD
        have hlt' : (k : Int) < (n : Int) := by omega
        have hw2 : Below w.heap.size w (W1.alloc (.cells #[.int .i64 o.1, .int .i64 o.2] 69)) := hwr.alloc hwr.size _
        have one : (isB o.1 && isB o.2) = false → Hid (packF code id os = 1) := fun h => by
          show packF code id os = 1
          rw [HE.out, hF.out, HD.out, optF, if_pos h]
        by_cases a1 : o.1 < 0
        · have HZ := one (by simp [isB_false o.1 (.inl a1)])
          clear one hc hor
          go_wp2_with (fail)
          rw [HZ.out]
          go_ret
          exact ⟨rfl, hw2⟩
        · by_cases a2 : 255 < o.1
          · have HZ := one (by simp [isB_false o.1 (.inr a2)])
            clear one hc hor
            go_wp2_with (fail)
            rw [HZ.out]
            go_ret
            exact ⟨rfl, hw2⟩
          · by_cases a3 : o.2 < 0
            · have HZ := one (by simp [isB_false o.2 (.inl a3)])
              clear one hc hor
              go_wp2_with (fail)
              rw [HZ.out]
              go_ret
              exact ⟨rfl, hw2⟩
            · by_cases a4 : 255 < o.2
              · have HZ := one (by simp [isB_false o.2 (.inr a4)])
                clear one hc hor
                go_wp2_with (fail)
                rw [HZ.out]
                go_ret
                exact ⟨rfl, hw2⟩
              · have HB : Hid (¬ (isB o.1 && isB o.2) = false) := by
                  show ¬ _
                  rw [isB_true o.1 a1 a2, isB_true o.2 a3 a4]
                  simp
                clear one
                have hoo : OptR (W1.alloc (.cells #[.int .i64 o.1, .int .i64 o.2] 69)) (some ⟨b, off, none⟩) n os := ho.below hw2
                obtain ⟨W, hW⟩ : ∃ W, W = W1.alloc (.cells #[.int .i64 o.1, .int .i64 o.2] 69) := ⟨_, rfl⟩
                have d0 : W.cell? ⟨W1.heap.size, 0, none⟩ = some (.int .i64 o.1) := by rw [hW]; exact World.cell?_alloc_mark W1 #[.int .i64 o.1, .int .i64 o.2] 69 (0, 0) 0
                have hbW : Below W1.heap.size W1 W := by rw [hW]; exact (Below.refl _ _).alloc (Nat.le_refl _) _
                have d2 : W.cell? ⟨w.heap.size, 2, none⟩ = some (.slice (some ⟨b, off, none⟩) n cap) := (hbW.cell (p := ⟨w.heap.size, 2, none⟩) q3).trans q2
                have hbW2 := below_chain hbel hbW
                rw [← hW] at hoo hw2
                have HW : Hid (W = W1.alloc (.cells #[.int .i64 o.1, .int .i64 o.2] 69)) := hW
                clear hc hor hW
                go_wp2_with (fail)
                rw [← HW.out]
                go_loopw [5] (fun i wq => ∃ j m : Nat, j ≤ k ∧ i = .int .i64 j ∧ (os.take j).any (fun x => x.1 == o.1) = false ∧ wq = W.drewN m) (fun i _ => k - (intOf i).toNat)
                case atStart => exact ⟨0, 0, Nat.zero_le _, rfl, rfl, rfl⟩
                case round =>
                  obtain ⟨j, m, hj, rfl, hany0, rfl⟩ := hrel
                  have hany : Hid _ := hany0
                  clear hany0
                  by_cases hjl : j < k
                  · rcases hoo.2 with h0 | ⟨b', off', he, hcc⟩
                    · omega
                    simp only [Option.some.injEq, Addr.mk.injEq] at he
                    obtain ⟨rfl, rfl, _⟩ := he
                    have hjo : j < os.length := by omega
                    obtain ⟨f1, f2⟩ := hcc j hjo
                    have HTJ : Hid (os.take (j + 1) = os.take j ++ [os[j]]) := List.take_succ_eq_append_getElem hjo
                    have HMJ : Hid (os[j] ∈ os.take k) := by
                      show os[j] ∈ os.take k
                      exact List.mem_take_iff_getElem.mpr ⟨j, by omega, rfl⟩
                    generalize os[j] = x at f1 f2 HTJ HMJ
                    clear hcc
                    have g1 : (j : Int) < (k : Int) := by omega
                    have g2 : (0 : Int) ≤ (j : Int) := by omega
                    have g3 : (j : Int) < (n : Int) := by omega
                    cases hq : (x.1 == o.1)
                    · go_wp2_with (fail)
                      go_quiet (fail)
                      go_wp2_with (fail)
                      go_roundw
                      case rel => exact ⟨j + 1, _, by omega, by go_num, by rw [HTJ.out, List.any_append, hany.out]; simp [hq], rfl⟩
                      case measure => simp [intOf]; omega
                    · have HZ : Hid (packF code id os = 3) := by
                        show packF code id os = 3
                        have h1 : (os.take k).any (fun y => y.1 == o.1) = true := List.any_eq_true.mpr ⟨x, HMJ.out, hq⟩
                        rw [HE.out, hF.out, HD.out, optF, if_neg HB.out, if_pos h1]
                      go_wp2_with (fail)
                      go_quiet (fail)
                      go_wp2_with (fail)
                      rw [HZ.out]
                      go_ret
                      exact ⟨rfl, below_drewN (below_drewN hw2 _) _⟩
                  · have hjk : j = k := by omega
                    have HN : Hid (optF [] os = optF (os.take (k + 1)) (os.drop (k + 1))) := by
                      show optF [] os = _
                      have h1 := hany.out
                      rw [hjk] at h1
                      rw [hF.out, HD.out, optF, if_neg HB.out, if_neg (by rw [h1]; simp), HT.out]
                    clear hjk
                    have hbD := below_drewN hbW2 m
                    go_wp2_with (fail)
                    go_roundw
                    case rel => exact ⟨k + 1, by omega, by go_num, HN.out, hbD⟩
                    case measure => simp [intOf]; omega
      · have HZ : Hid (packF code id os = 0) := by
          show packF code id os = 0
          have hdd : os.drop k = [] := List.drop_eq_nil_of_le (by rw [ho.1]; omega)
          rw [HE.out, hF.out, hdd, optF]
        go_wp2_with (fail)
        rw [HZ.out]
        go_ret
        exact ⟨rfl, hwr⟩

set_option maxRecDepth 100000 in
set_option maxHeartbeats 2000000 in
theorem pfault_any (code id : Int) (a : Option Addr) (n cap : Nat) (os : List Opt) (w : World) (hn : n ≤ maxLen) (ho : OptR w a n os) :
    Calls Tryd.prog 27 #[.agg #[.int .i64 code, .int .i64 id, .slice a n cap]] w fun e w' => e = .returned (.int .i64 (packF code id os : Int)) ∧ Below w.heap.size w w' := by
  have hl := ho.1
  have hw1 : Below w.heap.size w (w.alloc (.cells #[.int .i64 code, .int .i64 id, .slice a n cap] 36)) := (Below.refl _ _).alloc (Nat.le_refl _) _
  unfold maxLen at hn
  by_cases h1 : code < 1
  · have HZ : Hid (packF code id os = 1) := by show packF code id os = 1; simp [packF, h1]
    go_enter Tryd.func27, Tryd.ntmps27
    go_wp2_with (fail)
    rw [HZ.out]
    go_ret
    exact ⟨rfl, hw1⟩
  · by_cases h2 : 6 < code
    · have HZ : Hid (packF code id os = 1) := by show packF code id os = 1; simp [packF, h2]
      go_enter Tryd.func27, Tryd.ntmps27
      go_wp2_with (fail)
      rw [HZ.out]
      go_ret
      exact ⟨rfl, hw1⟩
    · by_cases h3 : id < 0
      · have HZ : Hid (packF code id os = 1) := by show packF code id os = 1; simp [packF, isB_false id (.inl h3)]
        go_enter Tryd.func27, Tryd.ntmps27
        go_wp2_with (fail)
        rw [HZ.out]
        go_ret
        exact ⟨rfl, hw1⟩
      · by_cases h4 : 255 < id
        · have HZ : Hid (packF code id os = 1) := by show packF code id os = 1; simp [packF, isB_false id (.inr h4)]
          go_enter Tryd.func27, Tryd.ntmps27
          go_wp2_with (fail)
          rw [HZ.out]
          go_ret
          exact ⟨rfl, hw1⟩
        · have hb := isB_true id h3 h4
          by_cases h5 : (8 : Int) < (n : Int)
          · have HZ : Hid (packF code id os = 2) := by
              show packF code id os = 2
              rw [packF, if_neg (by simp [hb]; omega), if_pos (by omega)]
            go_enter Tryd.func27, Tryd.ntmps27
            go_wp2_with (fail)
            rw [HZ.out]
            go_ret
            exact ⟨rfl, hw1⟩
          · by_cases h6 : 4 < code ∧ (0 : Int) < (n : Int)
            · obtain ⟨h7, h8⟩ := h6
              have HZ : Hid (packF code id os = 3) := by
                show packF code id os = 3
                rw [packF, if_neg (by simp [hb]; omega), if_neg (by omega), if_pos (by omega)]
              go_enter Tryd.func27, Tryd.ntmps27
              go_wp2_with (fail)
              rw [HZ.out]
              go_ret
              exact ⟨rfl, hw1⟩
            · refine pfault_loop code id a n cap os w (by omega) ho h1 h2 h3 h4 (by omega) ?_
              show packF code id os = optF [] os
              rw [packF, if_neg (by simp [hb]; omega), if_neg (by omega), if_neg (by omega)]
end Go.Proofs.YtgfjgenkpfdofaaDoor
