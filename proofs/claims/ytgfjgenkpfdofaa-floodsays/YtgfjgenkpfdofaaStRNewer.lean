/-
  The document's Newer, of two that may be.
-/
import Derived.Test.YtgfjgenkpfdofaaStSame
namespace Go.Proofs.Ytgfjgenkpfdofaa
open Go.RowKit St

theorem cmpE_key (a b : Ed) (ha : 1 ≤ a.2 ∧ a.2 ≤ 20) (hb : 1 ≤ b.2 ∧ b.2 ≤ 20) : cmpE a b = cmpI (100 * a.1 + a.2) (100 * b.1 + b.2) := by
  obtain ⟨a1, a2⟩ := a
  obtain ⟨b1, b2⟩ := b
  simp only at ha hb
  simp only [cmpE, cmpI]
  repeat' split
  all_goals omega

set_option maxRecDepth 100000 in
set_option maxHeartbeats 4000000 in
theorem rnewer_any (o1 s1 o2 s2 : Int) (a b : Option Addr) (n m ca cb : Nat) (es fs : List Opt) (w : World) (ha : OptR w a n es) (hb : OptR w b m fs) (hn : n ≤ 1000000)
    (he : ∀ e ∈ es, (1 ≤ e.1 ∧ e.1 ≤ 6) ∧ (1 ≤ e.2 ∧ e.2 ≤ 20)) (hf : ∀ e ∈ fs, (1 ≤ e.1 ∧ e.1 ≤ 6) ∧ (1 ≤ e.2 ∧ e.2 ≤ 20)) :
    Calls Try.prog 31 #[.agg #[.int .i64 o1, .int .i64 s1, .slice a n ca], .agg #[.int .i64 o2, .int .i64 s2, .slice b m cb]] w fun e w' => e = .returned (.int .i64 (newS s1 es s2 fs)) ∧ Below w.heap.size w w' := by
  have hla := ha.1
  have hlb := hb.1
  have hw0 : Below w.heap.size w ((w.alloc (.cells #[.int .i64 o1, .int .i64 s1, .slice a n ca] 35)).alloc (.cells #[.int .i64 o2, .int .i64 s2, .slice b m cb] 35)) := (below_alloc _ _).alloc (by simp) _
  cases q1 : (s1 != s2)
  · have hv : newS s1 es s2 fs = newE es fs := by
      have e1 : s1 = s2 := by simpa using q1
      rw [newS, if_neg (by simp [cmpI_zero.2 e1])]
    rw [hv]
    clear hv
    go_enter Try.func31, Try.ntmps31
    go_wp2_with (fail)
    obtain ⟨W0, hW0⟩ : ∃ W0, (w.alloc (.cells #[.int .i64 o1, .int .i64 s1, .slice a n ca] 35)).alloc (.cells #[.int .i64 o2, .int .i64 s2, .slice b m cb] 35) = W0 := ⟨_, rfl⟩
    obtain ⟨⟨x2, xl⟩, ⟨y2, yl⟩⟩ := box_pair (w1 := W0) (by rw [← hW0]; exact Below.refl _ _)
    rw [hW0] at hw0 ⊢
    clear hW0
    go_loopw [5] (fun i wr => ∃ k j : Nat, k ≤ n ∧ k ≤ m ∧ i = .int .i64 k ∧ newE es fs = newE (es.drop k) (fs.drop k) ∧ wr = W0.drewN j) (fun i _ => n - (intOf i).toNat)
    case atStart => exact ⟨0, 0, Nat.zero_le _, Nat.zero_le _, rfl, rfl, rfl⟩
    case round =>
      obtain ⟨k, j, hk, hkm, rfl, hF0, rfl⟩ := hrel
      have HF : Hid _ := hF0
      clear hF0
      by_cases hlt : k < n
      · have hlt' : (k : Int) < (n : Int) := by omega
        by_cases hlm : k < m
        · have hlm' : (k : Int) < (m : Int) := by omega
          rcases (ha.below hw0).2 with h0 | ⟨b1, f1, rfl, hA⟩
          · omega
          rcases (hb.below hw0).2 with h0 | ⟨b2, f2, rfl, hB⟩
          · omega
          obtain ⟨c1, c2⟩ := hA k (by omega)
          obtain ⟨c3, c4⟩ := hB k (by omega)
          have H1 : Hid (es.drop k = es[k]'(by omega) :: es.drop (k + 1)) := List.drop_eq_getElem_cons (by omega)
          have H2 : Hid (fs.drop k = fs[k]'(by omega) :: fs.drop (k + 1)) := List.drop_eq_getElem_cons (by omega)
          have h1 := he (es[k]'(by omega)) (List.getElem_mem _)
          have h2 := hf (fs[k]'(by omega)) (List.getElem_mem _)
          clear hA hB
          generalize es[k]'(by omega) = o at c1 c2 H1 h1
          generalize fs[k]'(by omega) = q at c3 c4 H2 h2
          obtain ⟨⟨o1a, o1b⟩, ⟨o2a, o2b⟩⟩ := h1
          obtain ⟨⟨q1a, q1b⟩, ⟨q2a, q2b⟩⟩ := h2
          have HS : Hid (newE es fs = if cmpI (100 * o.1 + o.2) (100 * q.1 + q.2) ≠ 0 then cmpI (100 * o.1 + o.2) (100 * q.1 + q.2) else newE (es.drop (k + 1)) (fs.drop (k + 1))) := by
            show _ = _
            rw [HF.out, H1.out, H2.out, newE, cmpE_key o q ⟨o2a, o2b⟩ ⟨q2a, q2b⟩]
          by_cases r1 : 100 * q.1 + q.2 < 100 * o.1 + o.2
          · have HZ : Hid (newE es fs = 1) := by
              show _ = _
              have : cmpI (100 * o.1 + o.2) (100 * q.1 + q.2) = 1 := by rw [cmpI, if_neg (by omega), if_pos r1]
              rw [HS.out, this]
              simp
            go_wp2_with (fail)
            go_quiet (fail)
            go_wp2_with (fail)
            go_quiet (fail)
            go_wp2_with (fail)
            rw [HZ.out]
            go_ret
            exact ⟨rfl, below_drewN hw0 _⟩
          · by_cases r2 : 100 * o.1 + o.2 < 100 * q.1 + q.2
            · have HZ : Hid (newE es fs = -1) := by
                show _ = _
                have : cmpI (100 * o.1 + o.2) (100 * q.1 + q.2) = -1 := by rw [cmpI, if_pos r2]
                rw [HS.out, this]
                simp
              go_wp2_with (fail)
              go_quiet (fail)
              go_wp2_with (fail)
              go_quiet (fail)
              go_wp2_with (fail)
              rw [HZ.out]
              go_ret
              exact ⟨rfl, below_drewN hw0 _⟩
            · have HZ : Hid (newE es fs = newE (es.drop (k + 1)) (fs.drop (k + 1))) := by
                show _ = _
                have : cmpI (100 * o.1 + o.2) (100 * q.1 + q.2) = 0 := by rw [cmpI, if_neg r2, if_neg r1]
                rw [HS.out, this]
                simp
              go_wp2_with (fail)
              go_quiet (fail)
              go_wp2_with (fail)
              go_quiet (fail)
              go_wp2_with (fail)
              go_roundw
              case rel => exact ⟨k + 1, _, by omega, by omega, by go_num, HZ.out, rfl⟩
              case measure => simp [intOf]; omega
        · have hlm' : ¬ (k : Int) < (m : Int) := by omega
          have hnm : (m : Int) < (n : Int) := by omega
          have HS : Hid (newE es fs = 1) := by
            show _ = _
            rw [HF.out, List.drop_eq_getElem_cons (show k < es.length by omega), List.drop_eq_nil_of_le (show fs.length ≤ k by omega), newE]
          go_wp2_with (fail)
          rw [HS.out]
          go_ret
          exact ⟨rfl, below_drewN hw0 _⟩
      · have hge : ¬ (k : Int) < (n : Int) := by omega
        have hnm : ¬ (m : Int) < (n : Int) := by omega
        by_cases hnm2 : (n : Int) < (m : Int)
        · have HS : Hid (newE es fs = -1) := by
            show _ = _
            rw [HF.out, List.drop_eq_nil_of_le (show es.length ≤ k by omega), List.drop_eq_getElem_cons (show k < fs.length by omega), newE]
          go_wp2_with (fail)
          rw [HS.out]
          go_ret
          exact ⟨rfl, below_drewN hw0 _⟩
        · have HS : Hid (newE es fs = 0) := by
            show _ = _
            rw [HF.out, List.drop_eq_nil_of_le (show es.length ≤ k by omega), List.drop_eq_nil_of_le (show fs.length ≤ k by omega), newE]
          go_wp2_with (fail)
          rw [HS.out]
          go_ret
          exact ⟨rfl, below_drewN hw0 _⟩
  · have hne : ¬ s1 = s2 := by simpa using q1
    by_cases r1 : s2 < s1
    · have hv : newS s1 es s2 fs = 1 := by
        have : cmpI s1 s2 = 1 := by rw [cmpI, if_neg (by omega), if_pos r1]
        rw [newS, this]
        simp
      rw [hv]
      clear hv hne
      go_enter Try.func31, Try.ntmps31
      go_wp2_with (fail)
      go_ret
      exact ⟨rfl, hw0⟩
    · have hv : newS s1 es s2 fs = -1 := by
        have : cmpI s1 s2 = -1 := by rw [cmpI, if_pos (by omega)]
        rw [newS, this]
        simp
      rw [hv]
      clear hv hne
      go_enter Try.func31, Try.ntmps31
      go_wp2_with (fail)
      go_ret
      exact ⟨rfl, hw0⟩
end Go.Proofs.Ytgfjgenkpfdofaa
