/-
  SameOptions of two lists.
-/
import Derived.Test.YtgfjgenkpfdofaaDoorBase
namespace Go.Proofs.YtgfjgenkpfdofaaDoor
open Go.RowKit

set_option maxRecDepth 100000 in
set_option maxHeartbeats 2000000 in
theorem sameOptions_any (a b : Option Addr) (ca cb n m : Nat) (os qs : List Opt) (w : World) (ha : OptR w a n os) (hb : OptR w b m qs) (hn : n ≤ 1000000) (hm : m ≤ 1000000) :
    Calls Tryd.prog 29 #[.slice a n ca, .slice b m cb] w fun e w' => e = .returned (.bool (decide (os = qs))) ∧ ∃ k, w' = w.drewN k := by
  have hl := ha.1
  have hl2 := hb.1
  by_cases hnm : n = m
  · subst hnm
    have heq : ((n : Int) != (n : Int)) = false := by simp
    go_enter Tryd.func29, Tryd.ntmps29
    go_wp2_with (fail)
    go_loopw [5] (fun i wr => ∃ k m : Nat, k ≤ n ∧ i = .int .i64 k ∧ os.take k = qs.take k ∧ wr = w.drewN m) (fun i _ => n - (intOf i).toNat)
    case atStart => exact ⟨0, 0, Nat.zero_le _, rfl, rfl, rfl⟩
    case round =>
      obtain ⟨k, m, hk, rfl, hT, rfl⟩ := hrel
      have HT : Hid _ := hT
      clear hT
      by_cases hlt : k < n
      · rcases ha.2 with hA | ⟨b1, o1, rfl, hA⟩
        · omega
        rcases hb.2 with hB | ⟨b2, o2, rfl, hB⟩
        · omega
        obtain ⟨c1, c2⟩ := hA k (by omega)
        obtain ⟨c3, c4⟩ := hB k (by omega)
        have H1 : Hid (os.take (k + 1) = os.take k ++ [os[k]'(by omega)]) := List.take_succ_eq_append_getElem (by omega)
        have H2 : Hid (qs.take (k + 1) = qs.take k ++ [qs[k]'(by omega)]) := List.take_succ_eq_append_getElem (by omega)
        have H3 : Hid (os = qs → os[k]'(by omega) = qs[k]'(by omega)) := fun h => by subst h; rfl
        clear hA hB
        generalize os[k]'(by omega) = o at c1 c2 H1 H3
        generalize qs[k]'(by omega) = q at c3 c4 H2 H3
        have hlt' : (k : Int) < (n : Int) := by omega
        cases q1 : (o.1 == q.1)
        · have hne : Hid (decide (os = qs) = false) := by
            show _ = _
            rw [decide_eq_false_iff_not]
            intro h
            have := H3.out h
            rw [this] at q1
            simp at q1
          go_wp2_with (fail)
          go_quiet (fail)
          go_wp2_with (fail)
          rw [hne.out]
          go_ret
          exact ⟨rfl, _, drewN_drewN _ _ _⟩
        · cases q2 : (o.2 == q.2)
          · have hne : Hid (decide (os = qs) = false) := by
              show _ = _
              rw [decide_eq_false_iff_not]
              intro h
              have := H3.out h
              rw [this] at q2
              simp at q2
            go_wp2_with (fail)
            go_quiet (fail)
            go_wp2_with (fail)
            rw [hne.out]
            go_ret
            exact ⟨rfl, _, drewN_drewN _ _ _⟩
          · have HE : Hid (os.take (k + 1) = qs.take (k + 1)) := by
              show _ = _
              rw [H1.out, H2.out, HT.out]
              simp at q1 q2
              congr 2
              exact Prod.ext q1 q2
            go_wp2_with (fail)
            go_quiet (fail)
            go_wp2_with (fail)
            go_roundw
            case rel => exact ⟨k + 1, _, by omega, by go_num, HE.out, rfl⟩
            case measure => simp [intOf]; omega
      · have hfin : decide (os = qs) = true := by
          have h1 : os.take k = os := List.take_of_length_le (by omega)
          have h2 : qs.take k = qs := List.take_of_length_le (by omega)
          have := HT.out
          rw [h1, h2] at this
          simp [this]
        go_wp2_with (fail)
        rw [hfin]
        go_ret
        exact ⟨rfl, m, rfl⟩
  · have heq : ((n : Int) != (m : Int)) = true := by simp; omega
    have hne : decide (os = qs) = false := by
      rw [decide_eq_false_iff_not]
      intro h
      subst h
      omega
    rw [hne]
    go_enter Tryd.func29, Tryd.ntmps29
    go_wp2_with (fail)
    go_ret
    exact ⟨rfl, 0, rfl⟩
end Go.Proofs.YtgfjgenkpfdofaaDoor
