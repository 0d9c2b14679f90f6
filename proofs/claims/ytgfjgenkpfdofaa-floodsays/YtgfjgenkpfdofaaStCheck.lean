/-
  What a state may be: the program's Check, the document's StateFault.
-/
import Derived.Test.YtgfjgenkpfdofaaBase
import Derived.Test.YtgfjgenkpfdofaaStPure
import Derived.Deep.DeepCutAuto
namespace Go.Proofs.Ytgfjgenkpfdofaa
open Go.RowKit St

theorem infoEdge : (Try.prog.info? 78).map (fun i => (i.zero, i.size, i.bytes)) = some (some (.agg #[.int .i64 0, .int .i64 0]), 2, 16) := by kernel_rfl
theorem zeroState (w : World) : (zeroValue 35).run Try.prog w = .ok (.agg #[.int .i64 0, .int .i64 0, .slice none 0 0]) w := by kernel_rfl
def isR (n : Int) : Bool := decide (1 ≤ n) && decide (n ≤ 6)

set_option maxRecDepth 100000 in
theorem isRouter_any (n : Int) (w : World) : Calls Try.prog 36 #[.int .i64 n] w fun e w' => e = .returned (.bool (isR n)) ∧ w = w' := by
  by_cases h0 : 1 ≤ n
  · by_cases h1 : n ≤ 6
    · have hb : isR n = true := by simp [isR, h0, h1]
      rw [hb]
      clear hb
      go_enter Try.func36, Try.ntmps36
      go_wp2
      go_ret
      exact ⟨by first | rfl | (simp; omega), rfl⟩
    · have hb : isR n = false := by simp [isR, h1]
      rw [hb]
      clear hb
      go_enter Try.func36, Try.ntmps36
      go_wp2
      go_ret
      exact ⟨by first | rfl | (simp; omega), rfl⟩
  · have hb : isR n = false := by simp [isR, h0]
    rw [hb]
    clear hb
    go_enter Try.func36, Try.ntmps36
    go_wp2
    go_ret
    exact ⟨by first | rfl | (simp; omega), rfl⟩

theorem isR_true (n : Int) (h0 : ¬ n < 1) (h1 : ¬ 6 < n) : isR n = true := by simp [isR]; omega
theorem isR_false (n : Int) (h : n < 1 ∨ 6 < n) : isR n = false := by simp [isR]; omega

set_option maxRecDepth 100000 in
set_option maxHeartbeats 4000000 in
theorem checkEdges_any (own : Int) (a : Option Addr) (n cap : Nat) (os : List Opt) (w : World) (hn : n ≤ 1000000) (ho : OptR w a n os) :
    Calls Try.prog 37 #[.int .i64 own, .slice a n cap] w fun e w' => e = .returned (errV (edgF own 0 os)) ∧ Below w.heap.size w w' := by
  have e0 : errV 0 = .nilIface := rfl
  have e1 : errV 1 = .iface 64 (.int .i64 1) := rfl
  have e3 : errV 3 = .iface 64 (.int .i64 3) := rfl
  have H0 : Hid _ := e0
  have H1 : Hid _ := e1
  have H3 : Hid _ := e3
  clear e0 e1 e3
  go_enter Try.func37, Try.ntmps37
  go_wp2_with (fail)
  go_loopw [5, 10] (fun ah i wr => ∃ (k : Nat) (h : Int), k ≤ n ∧ ah = .int .i64 h ∧ i = .int .i64 k ∧ edgF own 0 os = edgF own h (os.drop k) ∧ Below w.heap.size w wr) (fun _ i _ => n - (intOf i).toNat)
  case atStart => exact ⟨0, 0, Nat.zero_le _, rfl, rfl, rfl, Below.refl _ _⟩
  case round =>
    obtain ⟨k, h, hk, rfl, rfl, hF0, hbel⟩ := hrel
    have HF : Hid _ := hF0
    clear hF0
    by_cases hlt : k < n
    · have hor := ho.below hbel
      rcases hor.2 with h0 | ⟨b, off, rfl, hc⟩
      · omega
      have hlo : k < os.length := by rw [ho.1]; exact hlt
      obtain ⟨c1, c2⟩ := hc k hlo
      have HD : Hid (os.drop k = os[k] :: os.drop (k + 1)) := List.drop_eq_getElem_cons hlo
      generalize os[k] = o at c1 c2 HD
      clear hc hor
      have hlt' : (k : Int) < (n : Int) := by omega
      have hb1 := hbel.alloc hbel.size (.cells #[.int .i64 o.1, .int .i64 o.2] 78)
      have hr := isRouter_any o.1 (wr.alloc (.cells #[.int .i64 o.1, .int .i64 o.2] 78))
      have one : (o.1 < 1 ∨ 6 < o.1 ∨ o.2 < 1 ∨ 20 < o.2) → Hid (edgF own 0 os = 1) := fun hh => by
        show _ = _
        rw [HF.out, HD.out, edgF, if_pos hh]
      by_cases r1 : o.1 < 1 ∨ 6 < o.1
      · have HZ := one (by omega)
        rw [isR_false o.1 r1] at hr
        clear one
        go_wp2_with (fail)
        refine hr.mono ?_
        rintro e w1 ⟨rfl, rfl⟩
        go_wp2_with (fail)
        rw [HZ.out, H1.out]
        go_ret
        exact ⟨rfl, hb1⟩
      rw [isR_true o.1 (by omega) (by omega)] at hr
      by_cases r2 : o.2 < 1
      · have HZ := one (by omega)
        clear one
        go_wp2_with (fail)
        refine hr.mono ?_
        rintro e w1 ⟨rfl, rfl⟩
        go_wp2_with (fail)
        rw [HZ.out, H1.out]
        go_ret
        exact ⟨rfl, hb1⟩
      by_cases r3 : 20 < o.2
      · have HZ := one (by omega)
        clear one
        go_wp2_with (fail)
        refine hr.mono ?_
        rintro e w1 ⟨rfl, rfl⟩
        go_wp2_with (fail)
        rw [HZ.out, H1.out]
        go_ret
        exact ⟨rfl, hb1⟩
      have three : (o.1 = own ∨ o.1 ≤ h) → Hid (edgF own 0 os = 3) := fun hh => by
        show _ = _
        rw [HF.out, HD.out, edgF, if_neg (by omega), if_pos hh]
      clear one
      cases r4 : (o.1 == own)
      · by_cases r5 : o.1 ≤ h
        · have HZ := three (.inr r5)
          clear three
          go_wp2_with (fail)
          refine hr.mono ?_
          rintro e w1 ⟨rfl, rfl⟩
          go_wp2_with (fail)
          rw [HZ.out, H3.out]
          go_ret
          exact ⟨rfl, hb1⟩
        · have HN : Hid (edgF own 0 os = edgF own o.1 (os.drop (k + 1))) := by
            show _ = _
            have r4' : ¬ o.1 = own := by simpa using r4
            rw [HF.out, HD.out, edgF, if_neg (by omega), if_neg (by omega)]
          clear three
          go_wp2_with (fail)
          refine hr.mono ?_
          rintro e w1 ⟨rfl, rfl⟩
          go_wp2_with (fail)
          go_roundw
          case rel => exact ⟨k + 1, _, by omega, rfl, by go_num, HN.out, hb1⟩
          case measure => simp [intOf]; omega
      · have HZ := three (.inl (by simpa using r4))
        clear three
        go_wp2_with (fail)
        refine hr.mono ?_
        rintro e w1 ⟨rfl, rfl⟩
        go_wp2_with (fail)
        rw [HZ.out, H3.out]
        go_ret
        exact ⟨rfl, hb1⟩
    · have HZ : Hid (edgF own 0 os = 0) := by
        show _ = _
        rw [HF.out, List.drop_eq_nil_of_le (by rw [ho.1]; omega), edgF]
      go_wp2_with (fail)
      rw [HZ.out, H0.out]
      go_ret
      exact ⟨rfl, hbel⟩

set_option maxRecDepth 100000 in
set_option maxHeartbeats 4000000 in
theorem check_any (own seq : Int) (a : Option Addr) (n cap : Nat) (os : List Opt) (w : World) (hn : n ≤ 1000000) (ho : OptR w a n os) :
    Calls Try.prog 26 #[.agg #[.int .i64 own, .int .i64 seq, .slice a n cap]] w fun e w' => e = .returned (errV (stF own seq os)) ∧ Below w.heap.size w w' := by
  have hw1 := below_alloc w (.cells #[.int .i64 own, .int .i64 seq, .slice a n cap] 35)
  have H1 : Hid (errV 1 = .iface 64 (.int .i64 1)) := rfl
  have H2 : Hid (errV 2 = .iface 64 (.int .i64 2)) := rfl
  have hl := ho.1
  have hr := isRouter_any own (w.alloc (.cells #[.int .i64 own, .int .i64 seq, .slice a n cap] 35))
  have one : (own < 1 ∨ 6 < own ∨ seq < 1 ∨ 1000000 < seq) → Hid (stF own seq os = 1) := fun hh => by show _ = _; rw [stF, if_pos hh]
  by_cases r1 : own < 1 ∨ 6 < own
  · have HZ := one (by omega)
    rw [isR_false own r1] at hr
    clear one
    go_enter Try.func26, Try.ntmps26
    go_wp2_with (fail)
    refine hr.mono ?_
    rintro e w1 ⟨rfl, rfl⟩
    go_wp2_with (fail)
    rw [HZ.out, H1.out]
    go_ret
    exact ⟨rfl, hw1⟩
  rw [isR_true own (by omega) (by omega)] at hr
  by_cases r2 : seq < 1
  · have HZ := one (by omega)
    clear one
    go_enter Try.func26, Try.ntmps26
    go_wp2_with (fail)
    refine hr.mono ?_
    rintro e w1 ⟨rfl, rfl⟩
    go_wp2_with (fail)
    rw [HZ.out, H1.out]
    go_ret
    exact ⟨rfl, hw1⟩
  by_cases r3 : 1000000 < seq
  · have HZ := one (by omega)
    clear one
    go_enter Try.func26, Try.ntmps26
    go_wp2_with (fail)
    refine hr.mono ?_
    rintro e w1 ⟨rfl, rfl⟩
    go_wp2_with (fail)
    rw [HZ.out, H1.out]
    go_ret
    exact ⟨rfl, hw1⟩
  clear one
  by_cases r4 : (6 : Int) < (n : Int)
  · have HZ : Hid (stF own seq os = 2) := by show _ = _; rw [stF, if_neg (by omega), if_pos (by omega)]
    go_enter Try.func26, Try.ntmps26
    go_wp2_with (fail)
    refine hr.mono ?_
    rintro e w1 ⟨rfl, rfl⟩
    go_wp2_with (fail)
    rw [HZ.out, H2.out]
    go_ret
    exact ⟨rfl, hw1⟩
  · have HZ : Hid (stF own seq os = edgF own 0 os) := by show _ = _; rw [stF, if_neg (by omega), if_neg (by omega)]
    have hc := checkEdges_any own a n cap os _ hn (ho.below hw1)
    go_enter Try.func26, Try.ntmps26
    go_wp2_with (fail)
    refine hr.mono ?_
    rintro e w1 ⟨rfl, rfl⟩
    go_wp2_with (fail)
    refine hc.mono ?_
    rintro e w2 ⟨rfl, k2⟩
    go_wp2_with (fail)
    rw [HZ.out]
    go_ret
    exact ⟨rfl, below_chain hw1 k2⟩

/-- A box's cells, in a later world. -/
theorem box3 {w w1 : World} {x y z : Value} {t : TypeId} (hb : Below (w.alloc (.cells #[x, y, z] t)).heap.size (w.alloc (.cells #[x, y, z] t)) w1) :
    w1.cell? ⟨w.heap.size, 0, none⟩ = some x ∧ w1.cell? ⟨w.heap.size, 1, none⟩ = some y ∧ w1.cell? ⟨w.heap.size, 2, none⟩ = some z ∧ w.heap.size < w1.heap.size := by
  have hz : w.heap.size < (w.alloc (.cells #[x, y, z] t)).heap.size := by simp
  have hA := fun j => World.cell?_alloc_mark w #[x, y, z] t (0, 0) j
  exact ⟨(hb.cell (p := ⟨w.heap.size, 0, none⟩) hz).trans (hA 0), (hb.cell (p := ⟨w.heap.size, 1, none⟩) hz).trans (hA 1), (hb.cell (p := ⟨w.heap.size, 2, none⟩) hz).trans (hA 2), Nat.lt_of_lt_of_le hz hb.size⟩
/-- The edge ahead of the k-th (0: none). -/
def ahead (os : List Opt) (k : Nat) : Int := if k = 0 then 0 else (os.getD (k - 1) (0, 0)).1

set_option maxRecDepth 100000 in
set_option maxHeartbeats 4000000 in
theorem fault_loop (own seq : Int) (a : Option Addr) (n cap : Nat) (os : List Opt) (w : World) (hn : n ≤ 6) (ho : OptR w a n os) (h1 : ¬ own < 1) (h2 : ¬ 6 < own) (h3 : ¬ seq < 1) (h4 : ¬ 1000000 < seq) (HE : Hid (stF own seq os = edgF own 0 os)) :
    Calls Try.prog 28 #[.agg #[.int .i64 own, .int .i64 seq, .slice a n cap]] w fun e w' => e = .returned (.int .i64 (stF own seq os : Int)) ∧ Below w.heap.size w w' := by
  have hw1 := below_alloc w (.cells #[.int .i64 own, .int .i64 seq, .slice a n cap] 35)
  have h6 : ¬ (6 : Int) < (n : Int) := by omega
  go_enter Try.func28, Try.ntmps28
  go_wp2_with (fail)
  go_loopw [3] (fun i wr => ∃ k : Nat, k ≤ n ∧ i = .int .i64 k ∧ edgF own 0 os = edgF own (ahead os k) (os.drop k) ∧ Below (w.alloc (.cells #[.int .i64 own, .int .i64 seq, .slice a n cap] 35)).heap.size (w.alloc (.cells #[.int .i64 own, .int .i64 seq, .slice a n cap] 35)) wr) (fun i _ => n - (intOf i).toNat)
  case atStart => exact ⟨0, Nat.zero_le _, rfl, rfl, Below.refl _ _⟩
  case round =>
    obtain ⟨k, hk, rfl, hF0, hbel⟩ := hrel
    have HF : Hid _ := hF0
    clear hF0
    obtain ⟨q0, _, q2, q3⟩ := box3 hbel
    have hwr := below_chain hw1 hbel
    by_cases hlt : k < n
    · have hor := ho.below hwr
      rcases hor.2 with h0 | ⟨b, off, rfl, hc⟩
      · omega
      have hlo : k < os.length := by rw [ho.1]; exact hlt
      obtain ⟨c1, c2⟩ := hc k hlo
      have cA : 0 < k → wr.cell? ⟨b, off + (k - 1) * 2, none⟩ = some (.int .i64 (ahead os k)) := fun hp => by
        have h1 : k - 1 < os.length := by omega
        have := (hc (k - 1) h1).1
        rw [this, ahead, if_neg (by omega), List.getD_eq_getElem?_getD, List.getElem?_eq_getElem h1]
        rfl
      have HA : Hid (ahead os (k + 1) = os[k].1) := by
        show _ = _
        rw [ahead, if_neg (by omega), List.getD_eq_getElem?_getD, Nat.add_sub_cancel, List.getElem?_eq_getElem hlo]
        rfl
      have HD : Hid (os.drop k = os[k] :: os.drop (k + 1)) := List.drop_eq_getElem_cons hlo
      generalize os[k] = o at c1 c2 HD HA
      clear hc hor
      have hlt' : (k : Int) < (n : Int) := by omega
      have hb1 := hbel.alloc hbel.size (.cells #[.int .i64 o.1, .int .i64 o.2] 78)
      have hw2 := below_chain hw1 hb1
      have one : (o.1 < 1 ∨ 6 < o.1 ∨ o.2 < 1 ∨ 20 < o.2) → Hid (stF own seq os = 1) := fun hh => by
        show _ = _
        rw [HE.out, HF.out, HD.out, edgF, if_pos hh]
      by_cases r0 : o.1 < 1
      · have HZ := one (by omega)
        clear one
        go_wp2_with (fail)
        rw [HZ.out]
        go_ret
        exact ⟨rfl, hw2⟩
      by_cases r1 : 6 < o.1
      · have HZ := one (by omega)
        clear one
        go_wp2_with (fail)
        rw [HZ.out]
        go_ret
        exact ⟨rfl, hw2⟩
      by_cases r2 : o.2 < 1
      · have HZ := one (by omega)
        clear one
        go_wp2_with (fail)
        rw [HZ.out]
        go_ret
        exact ⟨rfl, hw2⟩
      by_cases r3 : 20 < o.2
      · have HZ := one (by omega)
        clear one
        go_wp2_with (fail)
        rw [HZ.out]
        go_ret
        exact ⟨rfl, hw2⟩
      clear one
      obtain ⟨W1, hW1⟩ : ∃ W1, wr.alloc (.cells #[.int .i64 o.1, .int .i64 o.2] 78) = W1 := ⟨_, rfl⟩
      have HW1 : Hid _ := hW1
      obtain ⟨Z, hZ⟩ : ∃ Z, wr.heap.size = Z := ⟨_, rfl⟩
      have HZ : Hid _ := hZ
      have kA := below_alloc wr (.cells #[.int .i64 o.1, .int .i64 o.2] 78)
      have d0 : W1.cell? ⟨Z, 0, none⟩ = some (.int .i64 o.1) := by rw [← hW1, ← hZ]; exact World.cell?_alloc_mark wr #[.int .i64 o.1, .int .i64 o.2] 78 (0, 0) 0
      rw [hW1] at kA hb1 hw2
      obtain ⟨p0, _, p2, p3⟩ := box3 hb1
      have hlb : b < wr.heap.size := World.block_lt_of_cell? wr _ c1
      have cB : 0 < k → W1.cell? ⟨b, off + (k - 1) * 2, none⟩ = some (.int .i64 (ahead os k)) := fun hp => (kA.cell (p := ⟨b, off + (k - 1) * 2, none⟩) hlb).trans (cA hp)
      clear hW1 hZ kA
      go_upto_region 11 with fail
      rw [HW1.out, HZ.out]
      clear c1 c2 q0 q2 q3 cA
      cases r4 : (o.1 == own)
      · have r4' : ¬ o.1 = own := by simpa using r4
        have HN : Hid (¬ o.1 = own) := r4'
        clear r4'
        by_cases hk0 : (0 : Int) < (k : Int)
        · have cC := cB (by omega)
          have hd1 : decide ((0 : Int) < (k : Int)) = true := by simp; omega
          have hd2 : decide (0 < k) = true := by simp; omega
          have hd3 : 0 < k := by omega
          have kk : (0 : Int) ≤ (k : Int) - 1 := by omega
          have kl : (k : Int) - 1 < (n : Int) := by omega
          have ke : ((k : Int) - 1).toNat = k - 1 := by omega
          generalize ahead os k = h at cC HF
          clear cB
          by_cases r5 : o.1 ≤ h
          · have HZZ : Hid (stF own seq os = 3) := by
              show _ = _
              rw [HE.out, HF.out, HD.out, edgF, if_neg (by omega), if_pos (.inr r5)]
            have r5' : decide (o.1 ≤ h) = true := by simp [r5]
            go_quiet (fail)
            go_wp2_with (fail)
            rw [HZZ.out]
            go_ret
            exact ⟨rfl, below_drewN hw2 _⟩
          · have HNN : Hid (edgF own 0 os = edgF own o.1 (os.drop (k + 1))) := by
              show _ = _
              have := HN.out
              rw [HF.out, HD.out, edgF, if_neg (by omega), if_neg (by omega)]
            have r5' : decide (o.1 ≤ h) = false := by simp; omega
            go_quiet (fail)
            go_wp2_with (fail)
            go_roundw
            case rel => exact ⟨k + 1, by omega, by go_num, by rw [HA.out]; exact HNN.out, below_drewN hb1 _⟩
            case measure => simp [intOf]; omega
        · have hk1 : k = 0 := by omega
          have HNN : Hid (edgF own 0 os = edgF own o.1 (os.drop (k + 1))) := by
            show _ = _
            have := HN.out
            have ha : ahead os k = 0 := by rw [hk1]; rfl
            rw [HF.out, HD.out, edgF, ha, if_neg (by omega), if_neg (by omega)]
          clear hk1 cB
          have hk0' : decide ((0 : Int) < (k : Int)) = false := by simp; omega
          have hd2 : decide (0 < k) = false := by simp; omega
          go_quiet (fail)
          go_wp2_with (fail)
          go_roundw
          case rel => exact ⟨k + 1, by omega, by go_num, by rw [HA.out]; exact HNN.out, below_drewN hb1 _⟩
          case measure => simp [intOf]; omega
      · have HZZ : Hid (stF own seq os = 3) := by
          show _ = _
          have r4' : o.1 = own := by simpa using r4
          rw [HE.out, HF.out, HD.out, edgF, if_neg (by omega), if_pos (.inl r4')]
        clear cB
        go_quiet (fail)
        go_wp2_with (fail)
        rw [HZZ.out]
        go_ret
        exact ⟨rfl, below_drewN hw2 _⟩
    · have HZ : Hid (stF own seq os = 0) := by
        show _ = _
        rw [HE.out, HF.out, List.drop_eq_nil_of_le (by rw [ho.1]; omega), edgF]
      go_wp2_with (fail)
      rw [HZ.out]
      go_ret
      exact ⟨rfl, hwr⟩

set_option maxRecDepth 100000 in
set_option maxHeartbeats 2000000 in
theorem fault_any (own seq : Int) (a : Option Addr) (n cap : Nat) (os : List Opt) (w : World) (hn : n ≤ maxLen) (ho : OptR w a n os) :
    Calls Try.prog 28 #[.agg #[.int .i64 own, .int .i64 seq, .slice a n cap]] w fun e w' => e = .returned (.int .i64 (stF own seq os : Int)) ∧ Below w.heap.size w w' := by
  have hl := ho.1
  have hw1 := below_alloc w (.cells #[.int .i64 own, .int .i64 seq, .slice a n cap] 35)
  unfold maxLen at hn
  have one : (own < 1 ∨ 6 < own ∨ seq < 1 ∨ 1000000 < seq) → Hid (stF own seq os = 1) := fun hh => by show _ = _; rw [stF, if_pos hh]
  by_cases h1 : own < 1
  · have HZ := one (by omega)
    go_enter Try.func28, Try.ntmps28
    go_wp2_with (fail)
    rw [HZ.out]
    go_ret
    exact ⟨rfl, hw1⟩
  by_cases h2 : 6 < own
  · have HZ := one (by omega)
    go_enter Try.func28, Try.ntmps28
    go_wp2_with (fail)
    rw [HZ.out]
    go_ret
    exact ⟨rfl, hw1⟩
  by_cases h3 : seq < 1
  · have HZ := one (by omega)
    go_enter Try.func28, Try.ntmps28
    go_wp2_with (fail)
    rw [HZ.out]
    go_ret
    exact ⟨rfl, hw1⟩
  by_cases h4 : 1000000 < seq
  · have HZ := one (by omega)
    go_enter Try.func28, Try.ntmps28
    go_wp2_with (fail)
    rw [HZ.out]
    go_ret
    exact ⟨rfl, hw1⟩
  by_cases h5 : (6 : Int) < (n : Int)
  · have HZ : Hid (stF own seq os = 2) := by show _ = _; rw [stF, if_neg (by omega), if_pos (by omega)]
    go_enter Try.func28, Try.ntmps28
    go_wp2_with (fail)
    rw [HZ.out]
    go_ret
    exact ⟨rfl, hw1⟩
  · refine fault_loop own seq a n cap os w (by omega) ho h1 h2 h3 h4 ?_
    show stF own seq os = edgF own 0 os
    rw [stF, if_neg (by omega), if_neg (by omega)]
end Go.Proofs.Ytgfjgenkpfdofaa
