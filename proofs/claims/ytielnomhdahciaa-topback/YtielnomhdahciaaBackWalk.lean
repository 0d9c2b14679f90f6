/-
  'TopBack' returns true at all states and numbers, and changes nothing that was there.
-/
import Derived.Test.YtielnomhdahciaaWaysIn
namespace Go.Proofs.Ytielnomhdahciaa
open Go.RowKit St

namespace topBack

set_option maxRecDepth 100000 in
set_option maxHeartbeats 8000000 in
theorem walk (a : Option Addr) (n cap : Nat) (S : Nat → SV) (E : Nat → List Opt) (x y : Int) (w : World) (h : StsR w a n S E) :
    Calls Try.prog 9 #[.slice a n cap, .int .i64 x, .int .i64 y] w fun e w' => e = .returned (.bool true) ∧ Below w.heap.size w w' := by
  have h0 := nearby_any w
  go_enter Try.func9, Try.ntmps9
  go_wp2_with (fail)
  refine h0.mono ?_
  rintro e w1 ⟨rfl, b1⟩
  clear h0
  have hl := lightStates_any a n cap S E w1 (h.below b1)
  go_wp2_with (fail)
  refine hl.mono ?_
  rintro e w2 ⟨⟨t, rfl, hb⟩, b2⟩
  have hb2 := below_chain b1 b2
  clear hl b1 b2
  cases t
  · clear hb
    go_wp2_with (fail)
    go_ret
    exact ⟨rfl, hb2⟩
  obtain ⟨hn6, hok⟩ := hb rfl
  clear hb
  have HOK : Hid _ := hok
  clear hok
  by_cases h1 : x < 1
  · go_wp2_with (fail)
    go_ret
    exact ⟨rfl, hb2⟩
  by_cases h2 : 6 < x
  · go_wp2_with (fail)
    go_ret
    exact ⟨rfl, hb2⟩
  by_cases h3 : y < 1
  · go_wp2_with (fail)
    go_ret
    exact ⟨rfl, hb2⟩
  by_cases h4 : 6 < y
  · go_wp2_with (fail)
    go_ret
    exact ⟨rfl, hb2⟩
  obtain ⟨p, rfl⟩ : ∃ p : Nat, x = (p : Int) := ⟨x.toNat, by omega⟩
  obtain ⟨q, rfl⟩ : ∃ q : Nat, y = (q : Int) := ⟨y.toNat, by omega⟩
  have HED : Hid (∀ (u v : Nat) W, Below w.heap.size w W → Calls Try.prog 42 #[.slice a n cap, .int .i64 (u : Int), .int .i64 (v : Int)] W fun e w' => e = .returned (.int .i64 (bothG (tellF S E n) u v)) ∧ Below W.heap.size W w') :=
    fun u v W hW => edge_law a n cap S E u v W (h.below hW) (by omega) HOK.out
  have HHO : Hid (∀ (r : Nat) W, 1 ≤ r → r ≤ 6 → Below w.heap.size w W → Calls Try.prog 37 #[.slice a n cap, .int .i64 (r : Int)] W fun e w' => ∃ b c, e = .returned (.slice b (hopsL (bothG (tellF S E n)) r).length c) ∧ HsR w' b (hopsL (bothG (tellF S E n)) r).length (hopsL (bothG (tellF S E n)) r) ∧ Below W.heap.size W w') :=
    fun r W r1 r6 hW => hops_any a n cap S E r W (h.below hW) (by omega) HOK.out r1 r6
  have HC : Hid (∀ u v, 0 ≤ bothG (tellF S E n) u v) := fun u v => (bothG_range (tellF_range S E n HOK.out) u v).1
  have HD : Hid (∀ u, bothG (tellF S E n) u u = 0) := both_diag S E n HOK.out
  have HI : Hid (∀ u v, 0 < bothG (tellF S E n) u v → (1 ≤ u ∧ u ≤ 6) ∧ 1 ≤ v ∧ v ≤ 6) := both_in S E n HOK.out
  generalize bothG (tellF S E n) = C at HED HHO HC HD HI
  have HB2 : Hid _ := hb2
  clear hb2 HOK
  go_wp2_with (fail)
  go_loopw [8] (fun v wr => ∃ u : Nat, 1 ≤ u ∧ u ≤ 7 ∧ v = .int .i64 u ∧ (∀ i j : Nat, 1 ≤ i → i < u → 1 ≤ j → j ≤ 6 → C i j = C j i) ∧ Below w.heap.size w wr) (fun v _ => 7 - (intOf v).toNat)
  case atStart => exact ⟨1, by omega, by omega, rfl, fun i j _ _ _ _ => by omega, HB2.out⟩
  case round =>
    obtain ⟨u, hu1, hu7, rfl, hsym, hbel⟩ := hrel
    have HS : Hid _ := hsym
    have HB : Hid _ := hbel
    clear hsym hbel
    by_cases hu6 : u ≤ 6
    · have hu6' : (u : Int) ≤ 6 := by omega
      go_wp2_with (fail)
      go_loopw [9] (fun v wr => ∃ t : Nat, 1 ≤ t ∧ t ≤ 7 ∧ v = .int .i64 t ∧ (∀ j : Nat, 1 ≤ j → j < t → C u j = C j u) ∧ Below w.heap.size w wr) (fun v _ => 7 - (intOf v).toNat)
      case atStart => exact ⟨1, by omega, by omega, rfl, fun j _ _ => by omega, HB.out⟩
      case round =>
        clear HB
        obtain ⟨t, ht1, ht7, rfl, hs2, hbel⟩ := hrel
        have HS2 : Hid _ := hs2
        clear hs2
        by_cases ht6 : t ≤ 6
        · have ht6' : (t : Int) ≤ 6 := by omega
          have he1 := HED.out u t wr hbel
          have HB : Hid _ := hbel
          clear hbel
          go_wp2_with (fail)
          refine he1.mono ?_
          rintro e w3 ⟨rfl, k3⟩
          have hb3 := below_chain HB.out k3
          have he2 := HED.out t u w3 hb3
          have HB3 : Hid _ := hb3
          clear he1 k3 hb3
          go_wp2_with (fail)
          refine he2.mono ?_
          rintro e w4 ⟨rfl, k4⟩
          have HB4 : Hid _ := below_chain HB3.out k4
          clear he2 k4
          by_cases hee : C u t = C t u
          · have hne : (C u t != C t u) = false := by simp [hee]
            have HE : Hid _ := hee
            clear hee
            go_wp2_with (fail)
            go_roundw
            case rel =>
              refine ⟨t + 1, by omega, by omega, by go_num, fun j j1 j2 => ?_, HB4.out⟩
              by_cases hjt : j = t
              · subst hjt
                exact HE.out
              · exact HS2.out j j1 (by omega)
            case measure => simp [intOf]; omega
          · have hne : (C u t != C t u) = true := by simp [hee]
            go_wp2_with (fail)
            go_ret
            exact ⟨rfl, HB4.out⟩
        · have ht6' : ¬ (t : Int) ≤ 6 := by omega
          have HB : Hid _ := hbel
          clear hbel
          go_wp2_with (fail)
          go_roundw
          case rel =>
            refine ⟨u + 1, by omega, by omega, by go_num, fun i j i1 i2 j1 j2 => ?_, HB.out⟩
            by_cases hiu : i = u
            · subst hiu
              exact HS2.out j j1 (by omega)
            · exact HS.out i j i1 (by omega) j1 j2
          case measure => simp [intOf]; omega
    · have hu6' : ¬ (u : Int) ≤ 6 := by omega
      have hsym : ∀ i j, C i j = C j i := by
        intro i j
        have k1 := HC.out i j
        have k2 := HC.out j i
        by_cases p1 : 0 < C i j
        · have := HI.out i j p1
          exact HS.out i j (by omega) (by omega) (by omega) (by omega)
        · by_cases p2 : 0 < C j i
          · have := HI.out j i p2
            exact (HS.out j i (by omega) (by omega) (by omega) (by omega)).symm
          · omega
      have hfar := far_same HC.out HD.out hsym p q (by omega) (by omega)
      have t1 := to_hops HC.out (HD.out p) q (by omega)
      have t2 := to_hops HC.out (HD.out q) p (by omega)
      have hh1 := HHO.out p wr (by omega) (by omega) HB.out
      have hL1 : (hopsL C p).length ≤ 7 := lstF_length _ 7
      have hL2 : (hopsL C q).length ≤ 7 := lstF_length _ 7
      have HV : Hid ((toH (hopsL C p) q).isSome = (toH (hopsL C q) p).isSome ∧ ((toH (hopsL C p) q).getD HP.zero).far = ((toH (hopsL C q) p).getD HP.zero).far) := by
        rw [t1, t2]
        by_cases k : 0 < farF C p q
        · rw [if_pos k, if_pos (by omega)]
          exact ⟨rfl, hfar⟩
        · rw [if_neg k, if_neg (by omega)]
          exact ⟨rfl, rfl⟩
      clear hsym hfar t1 t2
      obtain ⟨L1, hLe1⟩ : ∃ L1, hopsL C p = L1 := ⟨_, rfl⟩
      obtain ⟨L2, hLe2⟩ : ∃ L2, hopsL C q = L2 := ⟨_, rfl⟩
      rw [hLe1] at hh1 HV hL1
      have hh2g := fun W hW => HHO.out q W (by omega) (by omega) hW
      rw [hLe2] at hh2g HV hL2
      have HH2 : Hid _ := hh2g
      clear hLe1 hLe2 hh2g
      go_wp2_with (fail)
      refine hh1.mono ?_
      rintro e w3 ⟨b3, c3, rfl, r3, k3⟩
      have HB3 : Hid _ := below_chain HB.out k3
      have ht1 := to_any b3 L1.length c3 L1 q w3 r3 (by omega)
      clear hh1 r3 k3
      go_wp2_with (fail)
      refine ht1.mono ?_
      rintro e w4 ⟨rfl, k4⟩
      have hb4 := below_chain HB3.out k4
      clear ht1 k4
      obtain ⟨P1, hP1⟩ : ∃ P1, (toH L1 q).getD HP.zero = P1 := ⟨_, rfl⟩
      obtain ⟨B1, hB1⟩ : ∃ B1, (toH L1 q).isSome = B1 := ⟨_, rfl⟩
      rw [hP1, hB1] at HV
      rw [hP1, hB1]
      obtain ⟨pd, pf, px⟩ := P1
      simp only at HV ⊢
      clear hP1 hB1
      have hba := hb4.alloc hb4.size (.cells #[.int .i64 pd, .int .i64 pf, .int .i64 px] 73)
      have hh2 := HH2.out _ hba
      have hY := Blk.new w4 #[.int .i64 pd, .int .i64 pf, .int .i64 px] 73
      have HBA : Hid _ := hba
      have HY : Hid _ := hY
      clear hb4 hba hY
      go_wp2_with (fail)
      refine hh2.mono ?_
      rintro e w5 ⟨b5, c5, rfl, r5, k5⟩
      have HB5 : Hid _ := below_chain HBA.out k5
      have HY5 : Hid _ := Blk.below HY.out k5
      have ht2 := to_any b5 L2.length c5 L2 p w5 r5 (by omega)
      clear hh2 r5 k5 HY
      go_wp2_with (fail)
      refine ht2.mono ?_
      rintro e w6 ⟨rfl, k6⟩
      have hb6 := below_chain HB5.out k6
      have hY6 := Blk.below HY5.out k6
      clear ht2 k6
      obtain ⟨P2, hP2⟩ : ∃ P2, (toH L2 p).getD HP.zero = P2 := ⟨_, rfl⟩
      obtain ⟨B2, hB2⟩ : ∃ B2, (toH L2 p).isSome = B2 := ⟨_, rfl⟩
      rw [hP2, hB2] at HV
      rw [hP2, hB2]
      obtain ⟨qd, qf, qx⟩ := P2
      simp only at HV ⊢
      clear hP2 hB2
      obtain ⟨e1, e2⟩ := HV.out
      subst e1 e2
      have hY7 := hY6.below (below_alloc w6 (.cells #[.int .i64 qd, .int .i64 pf, .int .i64 qx] 73))
      have y1 : (w6.alloc (.cells #[.int .i64 qd, .int .i64 pf, .int .i64 qx] 73)).cell? ⟨w4.heap.size, 1, none⟩ = some (.int .i64 pf) := hY7.cell 1
      have HBF : Hid _ := hb6.alloc hb6.size (.cells #[.int .i64 qd, .int .i64 pf, .int .i64 qx] 73)
      clear hY6 hY7 hb6 HV
      cases B1
      · go_wp2_with (fail)
        go_ret
        exact ⟨by first | rfl | simp, HBF.out⟩
      · go_wp2_with (fail)
        go_ret
        exact ⟨by first | rfl | simp, HBF.out⟩
end topBack
end Go.Proofs.Ytielnomhdahciaa
