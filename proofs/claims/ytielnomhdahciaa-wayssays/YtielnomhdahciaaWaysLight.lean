/-
  What stands ahead of the laws over ways: LightStates, a way of one edge, SameHops.
-/
import Derived.Test.YtielnomhdahciaaWaysPure2
namespace Go.Proofs.Ytielnomhdahciaa
open Go.RowKit St

set_option maxRecDepth 100000 in
set_option maxHeartbeats 4000000 in
theorem lightStates_any (a : Option Addr) (n cap : Nat) (S : Nat → SV) (E : Nat → List Opt) (w : World) (h : StsR w a n S E) :
    Calls Try.prog 36 #[.slice a n cap] w fun e w' => (∃ b : Bool, e = .returned (.bool b) ∧ (b = true → n ≤ 6 ∧ ∀ j, j < n → stF (S j).own (S j).seq (E j) = 0)) ∧ Below w.heap.size w w' := by
  by_cases h0 : 6 < (n : Int)
  · go_enter Try.func36, Try.ntmps36
    go_wp2_with (fail)
    go_ret
    exact ⟨⟨false, rfl, fun h => by cases h⟩, Below.refl _ _⟩
  have hn6 : n ≤ 6 := by omega
  go_enter Try.func36, Try.ntmps36
  go_wp2_with (fail)
  go_loopw [3] (fun i wr => ∃ k : Nat, k ≤ n ∧ i = .int .i64 k ∧ (∀ j, j < k → stF (S j).own (S j).seq (E j) = 0) ∧ Below w.heap.size w wr) (fun i _ => n - (intOf i).toNat)
  case atStart => exact ⟨0, Nat.zero_le _, rfl, fun j hj => by omega, Below.refl _ _⟩
  case round =>
    obtain ⟨k, hk, rfl, hA, hbel⟩ := hrel
    have HA : Hid _ := hA
    clear hA
    by_cases hlt : k < n
    · have hlt' : (k : Int) < (n : Int) := by omega
      obtain ⟨sb, off, rfl, hcs⟩ : ∃ sb off, a = some ⟨sb, off, none⟩ ∧ ∀ j, j < n → w.cell? ⟨sb, off + j * 3, none⟩ = some (.int .i64 (S j).own) ∧ w.cell? ⟨sb, off + j * 3 + 1, none⟩ = some (.int .i64 (S j).seq) ∧ w.cell? ⟨sb, off + j * 3 + 2, none⟩ = some (.slice (S j).a (S j).n (S j).cap) := by
        rcases h.row with h1 | h1
        · omega
        · exact h1
      have HC : Hid (∀ W, Below w.heap.size w W → ∀ j, j < n → W.cell? ⟨sb, off + j * 3, none⟩ = some (.int .i64 (S j).own) ∧ W.cell? ⟨sb, off + j * 3 + 1, none⟩ = some (.int .i64 (S j).seq) ∧ W.cell? ⟨sb, off + j * 3 + 2, none⟩ = some (.slice (S j).a (S j).n (S j).cap)) := by
        intro W hW j hj
        obtain ⟨c0, c1, c2⟩ := hcs j hj
        have l := World.block_lt_of_cell? w _ c0
        exact ⟨(hW.cell (p := ⟨sb, off + j * 3, none⟩) l).trans c0, (hW.cell (p := ⟨sb, off + j * 3 + 1, none⟩) l).trans c1, (hW.cell (p := ⟨sb, off + j * 3 + 2, none⟩) l).trans c2⟩
      obtain ⟨c0, c1, c2⟩ := HC.out wr hbel k hlt
      have ho := h.opt k hlt
      have hf := fault_any (S k).own (S k).seq (S k).a (S k).n (S k).cap (E k) wr ho.2.2 (ho.1.below hbel)
      have HSS : Hid (stF (S k).own (S k).seq (E k) = stF (S k).own (S k).seq (E k)) := rfl
      clear hcs ho
      by_cases hz : stF (S k).own (S k).seq (E k) = 0
      · rw [hz] at hf
        have HZ : Hid _ := hz
        clear hz HSS
        go_wp2_with (fail)
        refine hf.mono ?_
        rintro e w1 ⟨rfl, k1⟩
        have Hb1 : Hid _ := below_chain hbel k1
        clear hf k1 hbel c0 c1 c2
        go_wp2_with (fail)
        obtain ⟨W1, rfl⟩ : ∃ W1, W1 = w1 := ⟨_, rfl⟩
        go_loopw [4] (fun i wr => ∃ q : Nat, q ≤ k ∧ i = .int .i64 q ∧ Below w.heap.size w wr) (fun i _ => k - (intOf i).toNat)
        case atStart => exact ⟨0, Nat.zero_le _, rfl, Hb1.out⟩
        case round =>
          clear Hb1
          obtain ⟨q, hq, rfl, hbel⟩ := hrel
          by_cases hqk : q < k
          · have hqk' : (q : Int) < (k : Int) := by omega
            have hqn : (q : Int) < (n : Int) := by omega
            have c0 := (HC.out wr hbel k hlt).1
            have d0 := (HC.out wr hbel q (by omega)).1
            generalize (S k).own = ko at c0
            generalize (S q).own = qo at d0
            have HB : Hid _ := hbel
            clear hbel
            by_cases he : qo = ko
            · have he' : (qo == ko) = true := by simpa using he
              clear he
              go_wp2_with (fail)
              go_quiet (fail)
              go_wp2_with (fail)
              go_ret
              exact ⟨⟨false, rfl, fun h => by cases h⟩, below_drewN HB.out _⟩
            · have he' : (qo == ko) = false := by simpa using he
              clear he
              go_wp2_with (fail)
              go_quiet (fail)
              go_wp2_with (fail)
              go_roundw
              case rel => exact ⟨q + 1, by omega, by go_num, below_drewN HB.out _⟩
              case measure => simp [intOf]; omega
          · have hqk' : ¬ (q : Int) < (k : Int) := by omega
            have HB : Hid _ := hbel
            clear hbel
            go_wp2_with (fail)
            go_roundw
            case rel =>
              refine ⟨k + 1, by omega, by go_num, fun j hj => ?_, HB.out⟩
              by_cases hjk : j = k
              · subst hjk
                exact HZ.out
              · exact HA.out j (by omega)
            case measure => simp [intOf]; omega
      · have hz' : (0 : Int) < ((stF (S k).own (S k).seq (E k) : Nat) : Int) := by omega
        generalize ((stF (S k).own (S k).seq (E k) : Nat) : Int) = z at hz' hf
        go_wp2_with (fail)
        refine hf.mono ?_
        rintro e w1 ⟨rfl, k1⟩
        have Hb1 : Hid _ := below_chain hbel k1
        clear hf k1 hbel c0 c1 c2
        go_wp2_with (fail)
        go_ret
        exact ⟨⟨false, rfl, fun h => by cases h⟩, Hb1.out⟩
    · have hge : ¬ (k : Int) < (n : Int) := by omega
      go_wp2_with (fail)
      go_ret
      first | exact ⟨⟨true, rfl, fun _ => ⟨hn6, fun j hj => HA.out j (by omega)⟩⟩, hbel⟩ | exact ⟨.inr ⟨rfl, hn6, fun j hj => HA.out j (by omega)⟩, hbel⟩ | exact ⟨.inr ⟨rfl, fun j hj => HA.out j (by omega)⟩, hbel⟩

set_option maxRecDepth 100000 in
set_option maxHeartbeats 4000000 in
theorem sameHops_yes (a b : Option Addr) (n ca cb : Nat) (L : List HP) (w : World) (hS : HsR w a n L) (hT : HsR w b n L) (hn : n ≤ 1000) :
    Calls Try.prog 39 #[.slice a n ca, .slice b n cb] w fun e w' => e = .returned (.bool true) ∧ Below w.heap.size w w' := by
  have hl := hS.len
  go_enter Try.func39, Try.ntmps39
  go_wp2_with (fail)
  go_loopw [5] (fun i wr => ∃ k : Nat, k ≤ n ∧ i = .int .i64 k ∧ Below w.heap.size w wr) (fun i _ => n - (intOf i).toNat)
  case atStart => exact ⟨0, Nat.zero_le _, rfl, Below.refl _ _⟩
  case round =>
    obtain ⟨k, hk, rfl, hbel⟩ := hrel
    by_cases hlt : k < n
    · have hlt' : (k : Int) < (n : Int) := by omega
      have r1 := (hS.below hbel).row
      have r2 := (hT.below hbel).row
      rcases r1 with h1 | ⟨b1, o1, rfl, hc1⟩
      · omega
      rcases r2 with h1 | ⟨b2, o2, rfl, hc2⟩
      · omega
      have hg : L[k]? = some (L[k]'(by omega)) := List.getElem?_eq_getElem (by omega)
      obtain ⟨c0, c1, c2⟩ := hc1 k _ hg
      obtain ⟨d0, d1, d2⟩ := hc2 k _ hg
      generalize L[k]'(by omega) = p at c0 c1 c2 d0 d1 d2 hg
      obtain ⟨pd, pf, px⟩ := p
      simp only at c0 c1 c2 d0 d1 d2
      clear hc1 hc2 hg
      have HB : Hid _ := hbel
      clear hbel
      go_wp2_with (fail)
      go_quiet (fail)
      go_wp2_with (fail)
      go_roundw
      case rel => exact ⟨k + 1, by omega, by go_num, below_drewN HB.out _⟩
      case measure => simp [intOf]; omega
    · have hge : ¬ (k : Int) < (n : Int) := by omega
      go_wp2_with (fail)
      go_ret
      exact ⟨rfl, hbel⟩
end Go.Proofs.Ytielnomhdahciaa
