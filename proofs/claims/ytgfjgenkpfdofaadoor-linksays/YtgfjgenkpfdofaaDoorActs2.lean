/-
  LightPacket, LightActs.
-/
import Derived.Test.YtgfjgenkpfdofaaDoorActsIn
namespace Go.Proofs.YtgfjgenkpfdofaaDoor
open Go.RowKit St

set_option maxRecDepth 100000 in
theorem lightPacket_any (c i : Int) (a : Option Addr) (n cap : Nat) (w : World) :
    Calls Tryd.prog 19 #[.agg #[.int .i64 c, .int .i64 i, .slice a n cap]] w fun e w' => e = .returned (.bool (decide ((n : Int) ≤ 12))) ∧ Below w.heap.size w w' := by
  go_enter Tryd.func19, Tryd.ntmps19
  go_wp2_with (fail)
  go_ret
  exact ⟨rfl, (Below.refl _ _).alloc (Nat.le_refl _) _⟩

set_option maxRecDepth 100000 in
set_option maxHeartbeats 4000000 in
theorem lightActs_all (a : Option Addr) (n cap : Nat) (V : Nat → AV) (E : Nat → List Opt) (most : Int) (w : World) (h : ActsR w a n V E) (hm : most ≤ 1000) :
    Calls Tryd.prog 5 #[.slice a n cap, .int .i64 most] w fun e w' => (∃ b : Bool, e = .returned (.bool b) ∧ (b = true → (n : Int) ≤ most ∧ ∀ j, j < n → (V j).x.n ≤ 9 ∧ (V j).pn ≤ 12 ∧ (V j).s.size ≤ 200)) ∧ Below w.heap.size w w' := by
  by_cases h0 : most < (n : Int)
  · go_enter Tryd.func5, Tryd.ntmps5
    go_wp2_with (fail)
    go_ret
    exact ⟨⟨false, rfl, fun h => by cases h⟩, Below.refl _ _⟩
  go_enter Tryd.func5, Tryd.ntmps5
  go_wp2_with (fail)
  go_loopw [5] (fun i wr => ∃ k : Nat, k ≤ n ∧ i = .int .i64 k ∧ (∀ j, j < k → (V j).x.n ≤ 9 ∧ (V j).pn ≤ 12 ∧ (V j).s.size ≤ 200) ∧ Below w.heap.size w wr) (fun i _ => n - (intOf i).toNat)
  case atStart => exact ⟨0, Nat.zero_le _, rfl, fun j hj => by omega, Below.refl _ _⟩
  case round =>
    obtain ⟨k, hk, rfl, hA, hbel⟩ := hrel
    have HA : Hid _ := hA
    clear hA
    by_cases hlt : k < n
    · have hlt' : (k : Int) < (n : Int) := by omega
      obtain ⟨_, _, hxn, hpn⟩ := h.opt k hlt
      rcases h.row with h1 | ⟨b, off, rfl, hcs⟩
      · omega
      have HAT : Hid (∀ W, Below w.heap.size w W → (V k).at_ W b (off + k * 12)) := fun W hW => (hcs k hlt).below hW
      obtain ⟨v, hv⟩ : ∃ v, V k = v := ⟨_, rfl⟩
      rw [hv] at HAT hxn hpn
      have HVk : Hid _ := hv
      obtain ⟨vk, va, vb, vc, vd, vs, vpc, vpi, vpo, vpn, vpcap, vx⟩ := v
      obtain ⟨xo, xq, xa, xn, xc⟩ := vx
      simp only at hxn hpn
      obtain ⟨c0, c1, c2, c3, c4, c5, c6, c7, c8, c9, c10, c11⟩ := HAT.out wr hbel
      simp only at c5 c6 c7 c8 c11
      have hlp := lightPacket_any vpc vpi vpo vpn vpcap wr
      unfold maxLen at hxn hpn
      have HB : Hid _ := hbel
      clear hcs hv hbel c0 c1 c2 c3 c4 c9 c10
      by_cases hs : 200 < (vs.size : Int)
      · go_wp2_with (fail)
        go_ret
        exact ⟨⟨false, rfl, fun h => by cases h⟩, HB.out⟩
      · by_cases hp : (vpn : Int) ≤ 12
        · rw [decide_eq_true hp] at hlp
          go_wp2_with (fail)
          refine hlp.mono ?_
          rintro e w1 ⟨rfl, k1⟩
          have hb1 := below_chain HB.out k1
          obtain ⟨_, _, _, _, _, _, _, _, _, _, _, d11⟩ := HAT.out w1 hb1
          simp only at d11
          have HB1 : Hid _ := hb1
          clear hlp k1 hb1 c5 c6 c7 c8 c11
          by_cases h9 : 9 < (xn : Int)
          · go_wp2_with (fail)
            go_ret
            exact ⟨⟨false, rfl, fun h => by cases h⟩, HB1.out⟩
          · go_wp2_with (fail)
            go_roundw
            case rel =>
              refine ⟨k + 1, by omega, by go_num, fun j hj => ?_, HB1.out⟩
              by_cases hjk : j = k
              · rw [hjk, HVk.out]
                show xn ≤ 9 ∧ vpn ≤ 12 ∧ vs.size ≤ 200
                omega
              · exact HA.out j (by omega)
            case measure => simp [intOf]; omega
        · rw [decide_eq_false hp] at hlp
          go_wp2_with (fail)
          refine hlp.mono ?_
          rintro e w1 ⟨rfl, k1⟩
          have HB1 : Hid _ := below_chain HB.out k1
          clear hlp k1
          go_wp2_with (fail)
          go_ret
          exact ⟨⟨false, rfl, fun h => by cases h⟩, HB1.out⟩
    · have hge : ¬ (k : Int) < (n : Int) := by omega
      go_wp2_with (fail)
      go_ret
      first | exact ⟨.inr ⟨rfl, fun j hj => HA.out j (by omega)⟩, hbel⟩ | exact ⟨⟨true, rfl, fun _ => ⟨by omega, fun j hj => HA.out j (by omega)⟩⟩, hbel⟩ | exact ⟨.inr ⟨rfl, by omega, fun j hj => HA.out j (by omega)⟩, hbel⟩
end Go.Proofs.YtgfjgenkpfdofaaDoor
