/-
  'StateSays', by what is wrong with the first state.
-/
import Derived.Test.YtjchmcclmbmggabStSaysBase
namespace Go.Proofs.Ytjchmcclmbmggab
open Go.RowKit St
namespace stateSays

set_option maxRecDepth 100000 in
set_option maxHeartbeats 8000000 in
theorem walk_1 (o1 s1 : Int) (a : Option Addr) (n ca : Nat) (es : List Opt) (o2 s2 : Int) (b : Option Addr) (m cb : Nat) (fs : List Opt) (s : ByteArray) (w : World) (ha : OptR w a n es) (hna : NilOk a ca) (hn : n ≤ maxLen) (_hb : OptR w b m fs) (hm : m ≤ maxLen) (hs : s.size ≤ 60) (h9 : n ≤ 9) (h9m : m ≤ 9) (hk : stF o1 s1 es = 1) :
    Calls Try.prog 6 #[.agg #[.int .i64 o1, .int .i64 s1, .slice a n ca], .agg #[.int .i64 o2, .int .i64 s2, .slice b m cb], .string s] w fun e w' => e = .returned (.bool true) ∧ Below w.heap.size w w' := by
  have hz := zeroState
  have hw0 : Below w.heap.size w ((w.alloc (.cells #[.int .i64 o1, .int .i64 s1, .slice a n ca] 62)).alloc (.cells #[.int .i64 o2, .int .i64 s2, .slice b m cb] 62)) := (below_alloc _ _).alloc (by simp) _
  obtain ⟨W0, hW0⟩ : ∃ W0, (w.alloc (.cells #[.int .i64 o1, .int .i64 s1, .slice a n ca] 62)).alloc (.cells #[.int .i64 o2, .int .i64 s2, .slice b m cb] 62) = W0 := ⟨_, rfl⟩
  have boxes : ∀ w1 : World, Below W0.heap.size W0 w1 → (w1.cell? ⟨w.heap.size, 0, none⟩ = some (.int .i64 o1) ∧ w1.cell? ⟨w.heap.size, 1, none⟩ = some (.int .i64 s1) ∧ w1.cell? ⟨w.heap.size, 2, none⟩ = some (.slice a n ca) ∧ w.heap.size < w1.heap.size) ∧ (w1.cell? ⟨w.heap.size + 1, 0, none⟩ = some (.int .i64 o2) ∧ w1.cell? ⟨w.heap.size + 1, 1, none⟩ = some (.int .i64 s2) ∧ w1.cell? ⟨w.heap.size + 1, 2, none⟩ = some (.slice b m cb) ∧ w.heap.size + 1 < w1.heap.size) := by
    intro w1 hq
    rw [← hW0] at hq
    have h2 := box3 hq
    have e1 : (w.alloc (.cells #[.int .i64 o1, .int .i64 s1, .slice a n ca] 62)).heap.size = w.heap.size + 1 := by simp
    rw [e1] at h2
    exact ⟨box3 (w1 := w1) (below_chain (below_alloc _ _) hq), h2⟩
  rw [hW0] at hw0
  have HW : Hid _ := hW0
  have HB : Hid _ := boxes
  clear hW0 boxes
  have hd : decide (n ≤ 9) = true := by simp [h9]
  have hdm : decide (m ≤ 9) = true := by simp [h9m]
  have hN : n ≤ 1000000 := by omega
  have hL : es.length ≤ 1000000 := by rw [ha.1]; exact hN
  have h60 : ¬ (60 : Int) < (s.size : Int) := by omega
  obtain ⟨pc, pi, po, pf, t1, t2, t3⟩ := tail_calls s (by omega)
  have hfa : ∀ W, OptR W a n es → Calls Try.prog 29 #[.agg #[.int .i64 o1, .int .i64 s1, .slice a n ca]] W fun e w' => e = .returned (.int .i64 1) ∧ Below W.heap.size W w' := fun W h => by
    have := fault_any o1 s1 a n ca es W hn h
    rw [hk] at this
    exact this
  have hck : ∀ W, OptR W a n es → Calls Try.prog 31 #[.agg #[.int .i64 o1, .int .i64 s1, .slice a n ca]] W fun e w' => e = .returned (.iface 111 (.int .i64 1)) ∧ Below W.heap.size W w' := fun W h => by
    have := check_any o1 s1 a n ca es W (by omega) h
    rw [hk] at this
    exact this
  have hsm : ∀ W, Calls Try.prog 20 #[.iface 111 (.int .i64 1), .int .i64 1] W fun e w' => e = .returned (.bool true) ∧ W = w' := fun W => same_ok 1 W
  have hby : ∀ W, OptR W a n es → Calls Try.prog 30 #[.agg #[.int .i64 o1, .int .i64 s1, .slice a n ca]] W fun e w' => e = .returned (.tuple #[.string ByteArray.empty, .iface 111 (.int .i64 1)]) ∧ Below W.heap.size W w' := fun W h => by
    have := bytes_bad o1 s1 a n ca es W (by omega) h (by omega)
    rw [hk] at this
    exact this
  have Hfa : Hid _ := hfa
  have Hck : Hid _ := hck
  have Hsm : Hid _ := hsm
  have Hby : Hid _ := hby
  have Ht1 : Hid _ := t1
  have Ht2 : Hid _ := t2
  clear hfa hck hsm hby t1 t2 hk
  go_enter Try.func6, Try.ntmps6
  go_wp2_with (fail)
  rw [HW.out]
  refine (told_true _).mono ?_
  rintro e w1 ⟨rfl, k1⟩
  obtain ⟨⟨x0, x1, x2, xl⟩, ⟨y0, y1, y2, yl⟩⟩ := HB.out w1 k1
  go_wp2_with (fail)
  refine (light_any o1 s1 a n ca _ hn).mono ?_
  rintro e w2 ⟨rfl, k2⟩
  have k02 := below_chain k1 k2
  clear x0 x1 x2 xl y0 y1 y2 yl k1 k2
  obtain ⟨⟨x0, x1, x2, xl⟩, ⟨y0, y1, y2, yl⟩⟩ := HB.out w2 k02
  go_wp2_with (fail)
  refine (light_any o2 s2 b m cb _ hm).mono ?_
  rintro e w3 ⟨rfl, k3⟩
  have k03 := below_chain k02 k3
  clear x0 x1 x2 xl y0 y1 y2 yl k3 k02
  obtain ⟨⟨x0, x1, x2, xl⟩, ⟨y0, y1, y2, yl⟩⟩ := HB.out w3 k03
  go_wp2_with (fail)
  refine (Hfa.out _ (ha.below (below_chain hw0 k03))).mono ?_
  rintro e w4 ⟨rfl, k4⟩
  have k04 := below_chain k03 k4
  clear x0 x1 x2 xl y0 y1 y2 yl k4 k03
  obtain ⟨⟨x0, x1, x2, xl⟩, ⟨y0, y1, y2, yl⟩⟩ := HB.out w4 k04
  go_wp2_with (fail)
  refine (Hby.out _ (ha.below (below_chain hw0 k04))).mono ?_
  rintro e W5 ⟨rfl, k5⟩
  have k05 := below_chain k04 k5
  clear x0 x1 x2 xl y0 y1 y2 yl k5 k04
  obtain ⟨⟨x0, x1, x2, xl⟩, ⟨y0, y1, y2, yl⟩⟩ := HB.out W5 k05
  have k05D : Below W0.heap.size W0 W5.drew := ⟨k05.os, k05.tape, k05.output, k05.size, k05.block⟩
  have F0 := three (HB.out W5.drew k05D).1
  go_upto_region 6 with fail
  go_cut [75] (fun v wx => v = .bool false ∧ Below W0.heap.size W0 wx)
  case first =>
    refine wp_region_held_drew (S := fun x => x.cell? ⟨w.heap.size, 0, none⟩ = some (.int .i64 o1) ∧ x.cell? ⟨w.heap.size, 1, none⟩ = some (.int .i64 s1) ∧ x.cell? ⟨w.heap.size, 2, none⟩ = some (.slice a n ca)) (by kernel_rfl) F0 (fun hHeld => ?_)
    refine take_yes 0 (some 40) rfl rfl (by kernel_rfl) (by kernel_rfl) (by kernel_rfl) (fun _ _ _ h => h) (by rfl) (v := ?_) ?_ (by assumption) ?_
    rotate_left
    · intro wS hSw
      (try dsimp only at hSw)
      go_simp
      try with_reducible rfl
    simp only [Act.put, List.setIfInBounds_toArray, List.set_cons_zero, List.set_cons_succ]
    refine take_yes 2 (some 42) rfl rfl (by kernel_rfl) (by kernel_rfl) (by kernel_rfl) (fun _ _ _ h => h) (by rfl) (v := ?_) ?_ (by assumption) ?_
    rotate_left
    · intro wS hSw
      (try dsimp only at hSw)
      go_simp
      try with_reducible rfl
    simp only [Act.put, List.setIfInBounds_toArray, List.set_cons_zero, List.set_cons_succ]
    refine wpAnyH_ready (rs := [1]) (by kernel_rfl) (by simp) ?_
    refine AllReadyH.cons (o := _) rfl (fun K hK => ?_) AllReadyH.nil
    go_simp
    refine (Hck.out W5.drew (ha.below (below_chain hw0 k05D))).mono ?_
    rintro e w5 ⟨rfl, k5⟩
    have k15 := below_chain k05D k5
    have F5 := three (HB.out w5 k15).1
    (try go_wp2_with (fail))
    refine hK.out _ _ ?_ (fun hHeld => ?_)
    · exact F5
    clear hK K
    refine wpAnyH_ready (rs := [3]) (by kernel_rfl) (by simp) ?_
    refine AllReadyH.cons (o := _) rfl (fun K hK => ?_) AllReadyH.nil
    go_simp
    refine (Hsm.out _).mono ?_
    rintro e w9 ⟨rfl, rfl⟩
    (try go_wp2_with (fail))
    refine hK.out _ _ ?_ (fun hHeld => ?_)
    · exact F5
    clear hK K
    refine take_yes 4 (some 44) rfl rfl (by kernel_rfl) (by kernel_rfl) (by kernel_rfl) (fun _ _ _ h => h) (by rfl) (v := ?_) ?_ (by assumption) ?_
    rotate_left
    · intro wS hSw
      (try dsimp only at hSw)
      go_simp
      try with_reducible rfl
    simp only [Act.put, List.setIfInBounds_toArray, List.set_cons_zero, List.set_cons_succ]
    refine take_yes 5 (some 45) rfl rfl (by kernel_rfl) (by kernel_rfl) (by kernel_rfl) (fun _ _ _ h => h) (by rfl) (v := ?_) ?_ (by assumption) ?_
    rotate_left
    · intro wS hSw
      (try dsimp only at hSw)
      go_simp
      try with_reducible rfl
    simp only [Act.put, List.setIfInBounds_toArray, List.set_cons_zero, List.set_cons_succ]
    refine take_yes 6 (some 46) rfl rfl (by kernel_rfl) (by kernel_rfl) (by kernel_rfl) (fun _ _ _ h => h) (by rfl) (v := ?_) ?_ (by assumption) ?_
    rotate_left
    · intro wS hSw
      (try dsimp only at hSw)
      go_simp
      try with_reducible rfl
    simp only [Act.put, List.setIfInBounds_toArray, List.set_cons_zero, List.set_cons_succ]
    refine take_yes 7 (some 47) rfl rfl (by kernel_rfl) (by kernel_rfl) (by kernel_rfl) (fun _ _ _ h => h) (by rfl) (v := ?_) ?_ (by assumption) ?_
    rotate_left
    · intro wS hSw
      (try dsimp only at hSw)
      go_simp
      try with_reducible rfl
    simp only [Act.put, List.setIfInBounds_toArray, List.set_cons_zero, List.set_cons_succ]
    refine wpAnyH_ready (rs := [8]) (by kernel_rfl) (by simp) ?_
    refine AllReadyH.cons (o := _) rfl (fun K hK => ?_) AllReadyH.nil
    go_simp
    refine (Hsm.out _).mono ?_
    rintro e w9 ⟨rfl, rfl⟩
    (try go_wp2_with (fail))
    refine hK.out _ _ ?_ (fun hHeld => ?_)
    · exact F5
    clear hK K
    refine take_yes 9 (some 49) rfl rfl (by kernel_rfl) (by kernel_rfl) (by kernel_rfl) (fun _ _ _ h => h) (by rfl) (v := ?_) ?_ (by assumption) ?_
    rotate_left
    · intro wS hSw
      (try dsimp only at hSw)
      go_simp
      try with_reducible rfl
    simp only [Act.put, List.setIfInBounds_toArray, List.set_cons_zero, List.set_cons_succ]
    refine take_yes 10 (some 50) rfl rfl (by kernel_rfl) (by kernel_rfl) (by kernel_rfl) (fun _ _ _ h => h) (by rfl) (v := ?_) ?_ (by assumption) ?_
    rotate_left
    · intro wS hSw
      (try dsimp only at hSw)
      go_simp
      try with_reducible rfl
    simp only [Act.put, List.setIfInBounds_toArray, List.set_cons_zero, List.set_cons_succ]
    refine take_yes 11 (some 51) rfl rfl (by kernel_rfl) (by kernel_rfl) (by kernel_rfl) (fun _ _ _ h => h) (by rfl) (v := ?_) ?_ (by assumption) ?_
    rotate_left
    · intro wS hSw
      (try dsimp only at hSw)
      go_simp
      try with_reducible rfl
    simp only [Act.put, List.setIfInBounds_toArray, List.set_cons_zero, List.set_cons_succ]
    refine take_yes 12 (some 52) rfl rfl (by kernel_rfl) (by kernel_rfl) (by kernel_rfl) (fun _ _ _ h => h) (by rfl) (v := ?_) ?_ (by assumption) ?_
    rotate_left
    · intro wS hSw
      (try dsimp only at hSw)
      go_simp
      try with_reducible rfl
    simp only [Act.put, List.setIfInBounds_toArray, List.set_cons_zero, List.set_cons_succ]
    refine take_yes 13 (some 53) rfl rfl (by kernel_rfl) (by kernel_rfl) (by kernel_rfl) (fun _ _ _ h => h) (by rfl) (v := ?_) ?_ (by assumption) ?_
    rotate_left
    · intro wS hSw
      (try dsimp only at hSw)
      go_simp
      try with_reducible rfl
    simp only [Act.put, List.setIfInBounds_toArray, List.set_cons_zero, List.set_cons_succ]
    refine take_yes 14 (some 54) rfl rfl (by kernel_rfl) (by kernel_rfl) (by kernel_rfl) (fun _ _ _ h => h) (by rfl) (v := ?_) ?_ (by assumption) ?_
    rotate_left
    · intro wS hSw
      (try dsimp only at hSw)
      go_simp
      try with_reducible rfl
    simp only [Act.put, List.setIfInBounds_toArray, List.set_cons_zero, List.set_cons_succ]
    refine take_yes 15 (some 55) rfl rfl (by kernel_rfl) (by kernel_rfl) (by kernel_rfl) (fun _ _ _ h => h) (by rfl) (v := ?_) ?_ (by assumption) ?_
    rotate_left
    · intro wS hSw
      (try dsimp only at hSw)
      go_simp
      try with_reducible rfl
    simp only [Act.put, List.setIfInBounds_toArray, List.set_cons_zero, List.set_cons_succ]
    refine take_yes 16 (some 56) rfl rfl (by kernel_rfl) (by kernel_rfl) (by kernel_rfl) (fun _ _ _ h => h) (by rfl) (v := ?_) ?_ (by assumption) ?_
    rotate_left
    · intro wS hSw
      (try dsimp only at hSw)
      go_simp
      try with_reducible rfl
    simp only [Act.put, List.setIfInBounds_toArray, List.set_cons_zero, List.set_cons_succ]
    refine take_yes 17 (some 57) rfl rfl (by kernel_rfl) (by kernel_rfl) (by kernel_rfl) (fun _ _ _ h => h) (by rfl) (v := ?_) ?_ (by assumption) ?_
    rotate_left
    · intro wS hSw
      (try dsimp only at hSw)
      go_simp
      try with_reducible rfl
    simp only [Act.put, List.setIfInBounds_toArray, List.set_cons_zero, List.set_cons_succ]
    refine take_yes 18 (some 58) rfl rfl (by kernel_rfl) (by kernel_rfl) (by kernel_rfl) (fun _ _ _ h => h) (by rfl) (v := ?_) ?_ (by assumption) ?_
    rotate_left
    · intro wS hSw
      (try dsimp only at hSw)
      go_simp
      try with_reducible rfl
    simp only [Act.put, List.setIfInBounds_toArray, List.set_cons_zero, List.set_cons_succ]
    refine take_yes 19 (some 59) rfl rfl (by kernel_rfl) (by kernel_rfl) (by kernel_rfl) (fun _ _ _ h => h) (by rfl) (v := ?_) ?_ (by assumption) ?_
    rotate_left
    · intro wS hSw
      (try dsimp only at hSw)
      go_simp
      try with_reducible rfl
    simp only [Act.put, List.setIfInBounds_toArray, List.set_cons_zero, List.set_cons_succ]
    refine take_yes 20 (some 60) rfl rfl (by kernel_rfl) (by kernel_rfl) (by kernel_rfl) (fun _ _ _ h => h) (by rfl) (v := ?_) ?_ (by assumption) ?_
    rotate_left
    · intro wS hSw
      (try dsimp only at hSw)
      go_simp
      try with_reducible rfl
    simp only [Act.put, List.setIfInBounds_toArray, List.set_cons_zero, List.set_cons_succ]
    refine take_yes 21 (some 61) rfl rfl (by kernel_rfl) (by kernel_rfl) (by kernel_rfl) (fun _ _ _ h => h) (by rfl) (v := ?_) ?_ (by assumption) ?_
    rotate_left
    · intro wS hSw
      (try dsimp only at hSw)
      go_simp
      try with_reducible rfl
    simp only [Act.put, List.setIfInBounds_toArray, List.set_cons_zero, List.set_cons_succ]
    refine take_yes 22 (some 62) rfl rfl (by kernel_rfl) (by kernel_rfl) (by kernel_rfl) (fun _ _ _ h => h) (by rfl) (v := ?_) ?_ (by assumption) ?_
    rotate_left
    · intro wS hSw
      (try dsimp only at hSw)
      go_simp
      try with_reducible rfl
    simp only [Act.put, List.setIfInBounds_toArray, List.set_cons_zero, List.set_cons_succ]
    refine take_no 23 (some 63) rfl rfl (by kernel_rfl) (by kernel_rfl) (by kernel_rfl) (fun _ _ _ h => h) (by rfl) (by assumption) ?_
    simp only [Act.put, List.setIfInBounds_toArray, List.set_cons_zero, List.set_cons_succ]
    refine take_no 24 (some 64) rfl rfl (by kernel_rfl) (by kernel_rfl) (by kernel_rfl) (fun _ _ _ h => h) (by rfl) (by assumption) ?_
    simp only [Act.put, List.setIfInBounds_toArray, List.set_cons_zero, List.set_cons_succ]
    refine wpAnyH_ready (rs := [25]) (by kernel_rfl) (by simp) ?_
    refine AllReadyH.cons (o := _) rfl (fun K hK => ?_) AllReadyH.nil
    go_simp
    refine hK.out _ _ ?_ (fun hHeld => ?_)
    · exact F5
    clear hK K
    refine take_no 26 (some 66) rfl rfl (by kernel_rfl) (by kernel_rfl) (by kernel_rfl) (fun _ _ _ h => h) (by rfl) (by assumption) ?_
    simp only [Act.put, List.setIfInBounds_toArray, List.set_cons_zero, List.set_cons_succ]
    refine take_yes 27 (some 67) rfl rfl (by kernel_rfl) (by kernel_rfl) (by kernel_rfl) (fun _ _ _ h => h) (by rfl) (v := ?_) ?_ (by assumption) ?_
    rotate_left
    · intro wS hSw
      (try dsimp only at hSw)
      go_simp
      try with_reducible rfl
    simp only [Act.put, List.setIfInBounds_toArray, List.set_cons_zero, List.set_cons_succ]
    refine take_yes 28 (some 68) rfl rfl (by kernel_rfl) (by kernel_rfl) (by kernel_rfl) (fun _ _ _ h => h) (by rfl) (v := ?_) ?_ (by assumption) ?_
    rotate_left
    · intro wS hSw
      (try dsimp only at hSw)
      go_simp
      try with_reducible rfl
    simp only [Act.put, List.setIfInBounds_toArray, List.set_cons_zero, List.set_cons_succ]
    refine take_yes 29 (some 69) rfl rfl (by kernel_rfl) (by kernel_rfl) (by kernel_rfl) (fun _ _ _ h => h) (by rfl) (v := ?_) ?_ (by assumption) ?_
    rotate_left
    · intro wS hSw
      (try dsimp only at hSw)
      go_simp
      try with_reducible rfl
    simp only [Act.put, List.setIfInBounds_toArray, List.set_cons_zero, List.set_cons_succ]
    refine take_yes 30 (some 70) rfl rfl (by kernel_rfl) (by kernel_rfl) (by kernel_rfl) (fun _ _ _ h => h) (by rfl) (v := ?_) ?_ (by assumption) ?_
    rotate_left
    · intro wS hSw
      (try dsimp only at hSw)
      go_simp
      try with_reducible rfl
    simp only [Act.put, List.setIfInBounds_toArray, List.set_cons_zero, List.set_cons_succ]
    refine take_yes 32 (some 72) rfl rfl (by kernel_rfl) (by kernel_rfl) (by kernel_rfl) (fun _ _ _ h => h) (by rfl) (v := ?_) ?_ (by assumption) ?_
    rotate_left
    · intro wS hSw
      (try dsimp only at hSw)
      go_simp
      try with_reducible rfl
    simp only [Act.put, List.setIfInBounds_toArray, List.set_cons_zero, List.set_cons_succ]
    refine wpAnyH_ready (rs := [31]) (by kernel_rfl) (by simp) ?_
    refine AllReadyH.cons (o := _) rfl (fun K hK => ?_) AllReadyH.nil
    go_simp
    refine (copy_any o1 s1 a n ca es w5 hN hna (ha.below (below_chain hw0 k15))).mono ?_
    rintro e w7 ⟨⟨pa, pcc, rfl, po7, _, _, _⟩, k7⟩
    have k17 := below_chain k15 k7
    have F7 := three (HB.out w7 k17).1
    (try go_wp2_with (fail))
    refine hK.out _ _ ?_ (fun hHeld => ?_)
    · exact F7
    clear hK K
    refine wpAnyH_ready (rs := [33]) (by kernel_rfl) (by simp) ?_
    refine AllReadyH.cons (o := _) rfl (fun K hK => ?_) AllReadyH.nil
    go_simp
    refine (sameState_any o1 s1 o1 s1 pa a _ n pcc ca es es w7 po7 (ha.below (below_chain hw0 k17)) hL hN).mono ?_
    rintro e w8 ⟨rfl, k8⟩
    simp only [and_self, decide_true]
    have k18 := below_chain k17 k8
    have F8 := three (HB.out w8 k18).1
    (try go_wp2_with (fail))
    refine hK.out _ _ ?_ (fun hHeld => ?_)
    · exact F8
    clear hK K
    refine take_yes 34 (some 74) rfl rfl (by kernel_rfl) (by kernel_rfl) (by kernel_rfl) (fun _ _ _ h => h) (by rfl) (v := ?_) ?_ (by assumption) ?_
    rotate_left
    · intro wS hSw
      (try dsimp only at hSw)
      go_simp
      try with_reducible rfl
    simp only [Act.put, List.setIfInBounds_toArray, List.set_cons_zero, List.set_cons_succ]
    refine take_yes 35 (some 75) rfl rfl (by kernel_rfl) (by kernel_rfl) (by kernel_rfl) (fun _ _ _ h => h) (by rfl) (v := ?_) ?_ (by assumption) ?_
    rotate_left
    · intro wS hSw
      (try dsimp only at hSw)
      go_simp
      try with_reducible rfl
    simp only [Act.put, List.setIfInBounds_toArray, List.set_cons_zero, List.set_cons_succ]
    refine wpAnyH_done (by kernel_rfl) ?_ _
    go_wp2_with (fail)
    go_meet
    exact ⟨by first | rfl | simp, k18⟩
  case rest =>
    clear x0 x1 x2 xl y0 y1 y2 yl F0 k05D k05
    obtain ⟨rfl, k6⟩ := hcut
    obtain ⟨W6, rfl⟩ : ∃ W6, W6 = wc := ⟨_, rfl⟩
    go_wp2_with (fail)
    refine (Ht1.out _).mono ?_
    rintro e w7 ⟨a7, n7, c7, rfl, ho7, k7⟩
    have k07 := below_chain k6 k7
    have hx7 : Below w7.heap.size w7 (w7.alloc (.cells #[.int .i64 pc, .int .i64 pi, .slice a7 n7 c7] 62)) := below_alloc _ _
    have k07x := below_chain k07 hx7
    clear k7 k6 k07
    go_wp2_with (fail)
    refine (Ht2.out _).mono ?_
    rintro e w8 ⟨a8, n8, c8, rfl, ho8, k8⟩
    obtain ⟨z0, z1, z2, zl⟩ := box3 k8
    have k08 := below_chain k07x k8
    have ho7' := (ho7.below hx7).below k8
    have hnn : n7 = n8 := by rw [← ho7.1, ho8.1]
    subst hnn
    have hn7 : n7 ≤ 1000000 := by rw [← ho8.1]; omega
    have hx8 : Below w8.heap.size w8 (w8.alloc (.cells #[.int .i64 pc, .int .i64 pi, .slice a8 n7 c8] 62)) := below_alloc _ _
    have k08x := below_chain k08 hx8
    clear k8 hx7 k07x k08
    go_wp2_with (fail)
    refine (same_ok pf _).mono ?_
    rintro e w9 ⟨rfl, rfl⟩
    go_wp2_with (fail)
    refine (sameState_any pc pi pc pi a7 a8 n7 n7 c7 c8 po po _ (ho7'.below hx8) (ho8.below hx8) hn7 hn7).mono ?_
    rintro e W9 ⟨rfl, k9⟩
    simp only [and_self, decide_true]
    have k09 := below_chain k08x k9
    clear ho7' ho8 ho7 hx8 k9 k08x z0 z1 z2 zl
    obtain ⟨⟨x0, x1, x2, xl⟩, ⟨y0, y1, y2, yl⟩⟩ := HB.out W9 k09
    go_wp2_with (fail)
    go_quiet (fail)
    go_wp2_with (fail)
    go_ret
    exact ⟨rfl, below_drewN (below_chain hw0 k09) _⟩
set_option maxRecDepth 100000 in
set_option maxHeartbeats 8000000 in
theorem walk_2 (o1 s1 : Int) (a : Option Addr) (n ca : Nat) (es : List Opt) (o2 s2 : Int) (b : Option Addr) (m cb : Nat) (fs : List Opt) (s : ByteArray) (w : World) (ha : OptR w a n es) (hna : NilOk a ca) (hn : n ≤ maxLen) (_hb : OptR w b m fs) (hm : m ≤ maxLen) (hs : s.size ≤ 60) (h9 : n ≤ 9) (h9m : m ≤ 9) (hk : stF o1 s1 es = 2) :
    Calls Try.prog 6 #[.agg #[.int .i64 o1, .int .i64 s1, .slice a n ca], .agg #[.int .i64 o2, .int .i64 s2, .slice b m cb], .string s] w fun e w' => e = .returned (.bool true) ∧ Below w.heap.size w w' := by
  have hz := zeroState
  have hw0 : Below w.heap.size w ((w.alloc (.cells #[.int .i64 o1, .int .i64 s1, .slice a n ca] 62)).alloc (.cells #[.int .i64 o2, .int .i64 s2, .slice b m cb] 62)) := (below_alloc _ _).alloc (by simp) _
  obtain ⟨W0, hW0⟩ : ∃ W0, (w.alloc (.cells #[.int .i64 o1, .int .i64 s1, .slice a n ca] 62)).alloc (.cells #[.int .i64 o2, .int .i64 s2, .slice b m cb] 62) = W0 := ⟨_, rfl⟩
  have boxes : ∀ w1 : World, Below W0.heap.size W0 w1 → (w1.cell? ⟨w.heap.size, 0, none⟩ = some (.int .i64 o1) ∧ w1.cell? ⟨w.heap.size, 1, none⟩ = some (.int .i64 s1) ∧ w1.cell? ⟨w.heap.size, 2, none⟩ = some (.slice a n ca) ∧ w.heap.size < w1.heap.size) ∧ (w1.cell? ⟨w.heap.size + 1, 0, none⟩ = some (.int .i64 o2) ∧ w1.cell? ⟨w.heap.size + 1, 1, none⟩ = some (.int .i64 s2) ∧ w1.cell? ⟨w.heap.size + 1, 2, none⟩ = some (.slice b m cb) ∧ w.heap.size + 1 < w1.heap.size) := by
    intro w1 hq
    rw [← hW0] at hq
    have h2 := box3 hq
    have e1 : (w.alloc (.cells #[.int .i64 o1, .int .i64 s1, .slice a n ca] 62)).heap.size = w.heap.size + 1 := by simp
    rw [e1] at h2
    exact ⟨box3 (w1 := w1) (below_chain (below_alloc _ _) hq), h2⟩
  rw [hW0] at hw0
  have HW : Hid _ := hW0
  have HB : Hid _ := boxes
  clear hW0 boxes
  have hd : decide (n ≤ 9) = true := by simp [h9]
  have hdm : decide (m ≤ 9) = true := by simp [h9m]
  have hN : n ≤ 1000000 := by omega
  have hL : es.length ≤ 1000000 := by rw [ha.1]; exact hN
  have h60 : ¬ (60 : Int) < (s.size : Int) := by omega
  obtain ⟨pc, pi, po, pf, t1, t2, t3⟩ := tail_calls s (by omega)
  have hfa : ∀ W, OptR W a n es → Calls Try.prog 29 #[.agg #[.int .i64 o1, .int .i64 s1, .slice a n ca]] W fun e w' => e = .returned (.int .i64 2) ∧ Below W.heap.size W w' := fun W h => by
    have := fault_any o1 s1 a n ca es W hn h
    rw [hk] at this
    exact this
  have hck : ∀ W, OptR W a n es → Calls Try.prog 31 #[.agg #[.int .i64 o1, .int .i64 s1, .slice a n ca]] W fun e w' => e = .returned (.iface 111 (.int .i64 2)) ∧ Below W.heap.size W w' := fun W h => by
    have := check_any o1 s1 a n ca es W (by omega) h
    rw [hk] at this
    exact this
  have hsm : ∀ W, Calls Try.prog 20 #[.iface 111 (.int .i64 2), .int .i64 2] W fun e w' => e = .returned (.bool true) ∧ W = w' := fun W => same_ok 2 W
  have hby : ∀ W, OptR W a n es → Calls Try.prog 30 #[.agg #[.int .i64 o1, .int .i64 s1, .slice a n ca]] W fun e w' => e = .returned (.tuple #[.string ByteArray.empty, .iface 111 (.int .i64 2)]) ∧ Below W.heap.size W w' := fun W h => by
    have := bytes_bad o1 s1 a n ca es W (by omega) h (by omega)
    rw [hk] at this
    exact this
  have Hfa : Hid _ := hfa
  have Hck : Hid _ := hck
  have Hsm : Hid _ := hsm
  have Hby : Hid _ := hby
  have Ht1 : Hid _ := t1
  have Ht2 : Hid _ := t2
  clear hfa hck hsm hby t1 t2 hk
  go_enter Try.func6, Try.ntmps6
  go_wp2_with (fail)
  rw [HW.out]
  refine (told_true _).mono ?_
  rintro e w1 ⟨rfl, k1⟩
  obtain ⟨⟨x0, x1, x2, xl⟩, ⟨y0, y1, y2, yl⟩⟩ := HB.out w1 k1
  go_wp2_with (fail)
  refine (light_any o1 s1 a n ca _ hn).mono ?_
  rintro e w2 ⟨rfl, k2⟩
  have k02 := below_chain k1 k2
  clear x0 x1 x2 xl y0 y1 y2 yl k1 k2
  obtain ⟨⟨x0, x1, x2, xl⟩, ⟨y0, y1, y2, yl⟩⟩ := HB.out w2 k02
  go_wp2_with (fail)
  refine (light_any o2 s2 b m cb _ hm).mono ?_
  rintro e w3 ⟨rfl, k3⟩
  have k03 := below_chain k02 k3
  clear x0 x1 x2 xl y0 y1 y2 yl k3 k02
  obtain ⟨⟨x0, x1, x2, xl⟩, ⟨y0, y1, y2, yl⟩⟩ := HB.out w3 k03
  go_wp2_with (fail)
  refine (Hfa.out _ (ha.below (below_chain hw0 k03))).mono ?_
  rintro e w4 ⟨rfl, k4⟩
  have k04 := below_chain k03 k4
  clear x0 x1 x2 xl y0 y1 y2 yl k4 k03
  obtain ⟨⟨x0, x1, x2, xl⟩, ⟨y0, y1, y2, yl⟩⟩ := HB.out w4 k04
  go_wp2_with (fail)
  refine (Hby.out _ (ha.below (below_chain hw0 k04))).mono ?_
  rintro e W5 ⟨rfl, k5⟩
  have k05 := below_chain k04 k5
  clear x0 x1 x2 xl y0 y1 y2 yl k5 k04
  obtain ⟨⟨x0, x1, x2, xl⟩, ⟨y0, y1, y2, yl⟩⟩ := HB.out W5 k05
  have k05D : Below W0.heap.size W0 W5.drew := ⟨k05.os, k05.tape, k05.output, k05.size, k05.block⟩
  have F0 := three (HB.out W5.drew k05D).1
  go_upto_region 6 with fail
  go_cut [75] (fun v wx => v = .bool false ∧ Below W0.heap.size W0 wx)
  case first =>
    refine wp_region_held_drew (S := fun x => x.cell? ⟨w.heap.size, 0, none⟩ = some (.int .i64 o1) ∧ x.cell? ⟨w.heap.size, 1, none⟩ = some (.int .i64 s1) ∧ x.cell? ⟨w.heap.size, 2, none⟩ = some (.slice a n ca)) (by kernel_rfl) F0 (fun hHeld => ?_)
    refine take_yes 0 (some 40) rfl rfl (by kernel_rfl) (by kernel_rfl) (by kernel_rfl) (fun _ _ _ h => h) (by rfl) (v := ?_) ?_ (by assumption) ?_
    rotate_left
    · intro wS hSw
      (try dsimp only at hSw)
      go_simp
      try with_reducible rfl
    simp only [Act.put, List.setIfInBounds_toArray, List.set_cons_zero, List.set_cons_succ]
    refine take_yes 2 (some 42) rfl rfl (by kernel_rfl) (by kernel_rfl) (by kernel_rfl) (fun _ _ _ h => h) (by rfl) (v := ?_) ?_ (by assumption) ?_
    rotate_left
    · intro wS hSw
      (try dsimp only at hSw)
      go_simp
      try with_reducible rfl
    simp only [Act.put, List.setIfInBounds_toArray, List.set_cons_zero, List.set_cons_succ]
    refine wpAnyH_ready (rs := [1]) (by kernel_rfl) (by simp) ?_
    refine AllReadyH.cons (o := _) rfl (fun K hK => ?_) AllReadyH.nil
    go_simp
    refine (Hck.out W5.drew (ha.below (below_chain hw0 k05D))).mono ?_
    rintro e w5 ⟨rfl, k5⟩
    have k15 := below_chain k05D k5
    have F5 := three (HB.out w5 k15).1
    (try go_wp2_with (fail))
    refine hK.out _ _ ?_ (fun hHeld => ?_)
    · exact F5
    clear hK K
    refine wpAnyH_ready (rs := [3]) (by kernel_rfl) (by simp) ?_
    refine AllReadyH.cons (o := _) rfl (fun K hK => ?_) AllReadyH.nil
    go_simp
    refine (Hsm.out _).mono ?_
    rintro e w9 ⟨rfl, rfl⟩
    (try go_wp2_with (fail))
    refine hK.out _ _ ?_ (fun hHeld => ?_)
    · exact F5
    clear hK K
    refine take_yes 4 (some 44) rfl rfl (by kernel_rfl) (by kernel_rfl) (by kernel_rfl) (fun _ _ _ h => h) (by rfl) (v := ?_) ?_ (by assumption) ?_
    rotate_left
    · intro wS hSw
      (try dsimp only at hSw)
      go_simp
      try with_reducible rfl
    simp only [Act.put, List.setIfInBounds_toArray, List.set_cons_zero, List.set_cons_succ]
    refine take_yes 5 (some 45) rfl rfl (by kernel_rfl) (by kernel_rfl) (by kernel_rfl) (fun _ _ _ h => h) (by rfl) (v := ?_) ?_ (by assumption) ?_
    rotate_left
    · intro wS hSw
      (try dsimp only at hSw)
      go_simp
      try with_reducible rfl
    simp only [Act.put, List.setIfInBounds_toArray, List.set_cons_zero, List.set_cons_succ]
    refine take_yes 6 (some 46) rfl rfl (by kernel_rfl) (by kernel_rfl) (by kernel_rfl) (fun _ _ _ h => h) (by rfl) (v := ?_) ?_ (by assumption) ?_
    rotate_left
    · intro wS hSw
      (try dsimp only at hSw)
      go_simp
      try with_reducible rfl
    simp only [Act.put, List.setIfInBounds_toArray, List.set_cons_zero, List.set_cons_succ]
    refine take_yes 7 (some 47) rfl rfl (by kernel_rfl) (by kernel_rfl) (by kernel_rfl) (fun _ _ _ h => h) (by rfl) (v := ?_) ?_ (by assumption) ?_
    rotate_left
    · intro wS hSw
      (try dsimp only at hSw)
      go_simp
      try with_reducible rfl
    simp only [Act.put, List.setIfInBounds_toArray, List.set_cons_zero, List.set_cons_succ]
    refine wpAnyH_ready (rs := [8]) (by kernel_rfl) (by simp) ?_
    refine AllReadyH.cons (o := _) rfl (fun K hK => ?_) AllReadyH.nil
    go_simp
    refine (Hsm.out _).mono ?_
    rintro e w9 ⟨rfl, rfl⟩
    (try go_wp2_with (fail))
    refine hK.out _ _ ?_ (fun hHeld => ?_)
    · exact F5
    clear hK K
    refine take_yes 9 (some 49) rfl rfl (by kernel_rfl) (by kernel_rfl) (by kernel_rfl) (fun _ _ _ h => h) (by rfl) (v := ?_) ?_ (by assumption) ?_
    rotate_left
    · intro wS hSw
      (try dsimp only at hSw)
      go_simp
      try with_reducible rfl
    simp only [Act.put, List.setIfInBounds_toArray, List.set_cons_zero, List.set_cons_succ]
    refine take_yes 10 (some 50) rfl rfl (by kernel_rfl) (by kernel_rfl) (by kernel_rfl) (fun _ _ _ h => h) (by rfl) (v := ?_) ?_ (by assumption) ?_
    rotate_left
    · intro wS hSw
      (try dsimp only at hSw)
      go_simp
      try with_reducible rfl
    simp only [Act.put, List.setIfInBounds_toArray, List.set_cons_zero, List.set_cons_succ]
    refine take_yes 11 (some 51) rfl rfl (by kernel_rfl) (by kernel_rfl) (by kernel_rfl) (fun _ _ _ h => h) (by rfl) (v := ?_) ?_ (by assumption) ?_
    rotate_left
    · intro wS hSw
      (try dsimp only at hSw)
      go_simp
      try with_reducible rfl
    simp only [Act.put, List.setIfInBounds_toArray, List.set_cons_zero, List.set_cons_succ]
    refine take_yes 12 (some 52) rfl rfl (by kernel_rfl) (by kernel_rfl) (by kernel_rfl) (fun _ _ _ h => h) (by rfl) (v := ?_) ?_ (by assumption) ?_
    rotate_left
    · intro wS hSw
      (try dsimp only at hSw)
      go_simp
      try with_reducible rfl
    simp only [Act.put, List.setIfInBounds_toArray, List.set_cons_zero, List.set_cons_succ]
    refine take_yes 13 (some 53) rfl rfl (by kernel_rfl) (by kernel_rfl) (by kernel_rfl) (fun _ _ _ h => h) (by rfl) (v := ?_) ?_ (by assumption) ?_
    rotate_left
    · intro wS hSw
      (try dsimp only at hSw)
      go_simp
      try with_reducible rfl
    simp only [Act.put, List.setIfInBounds_toArray, List.set_cons_zero, List.set_cons_succ]
    refine take_yes 14 (some 54) rfl rfl (by kernel_rfl) (by kernel_rfl) (by kernel_rfl) (fun _ _ _ h => h) (by rfl) (v := ?_) ?_ (by assumption) ?_
    rotate_left
    · intro wS hSw
      (try dsimp only at hSw)
      go_simp
      try with_reducible rfl
    simp only [Act.put, List.setIfInBounds_toArray, List.set_cons_zero, List.set_cons_succ]
    refine take_yes 15 (some 55) rfl rfl (by kernel_rfl) (by kernel_rfl) (by kernel_rfl) (fun _ _ _ h => h) (by rfl) (v := ?_) ?_ (by assumption) ?_
    rotate_left
    · intro wS hSw
      (try dsimp only at hSw)
      go_simp
      try with_reducible rfl
    simp only [Act.put, List.setIfInBounds_toArray, List.set_cons_zero, List.set_cons_succ]
    refine take_yes 16 (some 56) rfl rfl (by kernel_rfl) (by kernel_rfl) (by kernel_rfl) (fun _ _ _ h => h) (by rfl) (v := ?_) ?_ (by assumption) ?_
    rotate_left
    · intro wS hSw
      (try dsimp only at hSw)
      go_simp
      try with_reducible rfl
    simp only [Act.put, List.setIfInBounds_toArray, List.set_cons_zero, List.set_cons_succ]
    refine take_yes 17 (some 57) rfl rfl (by kernel_rfl) (by kernel_rfl) (by kernel_rfl) (fun _ _ _ h => h) (by rfl) (v := ?_) ?_ (by assumption) ?_
    rotate_left
    · intro wS hSw
      (try dsimp only at hSw)
      go_simp
      try with_reducible rfl
    simp only [Act.put, List.setIfInBounds_toArray, List.set_cons_zero, List.set_cons_succ]
    refine take_yes 18 (some 58) rfl rfl (by kernel_rfl) (by kernel_rfl) (by kernel_rfl) (fun _ _ _ h => h) (by rfl) (v := ?_) ?_ (by assumption) ?_
    rotate_left
    · intro wS hSw
      (try dsimp only at hSw)
      go_simp
      try with_reducible rfl
    simp only [Act.put, List.setIfInBounds_toArray, List.set_cons_zero, List.set_cons_succ]
    refine take_yes 19 (some 59) rfl rfl (by kernel_rfl) (by kernel_rfl) (by kernel_rfl) (fun _ _ _ h => h) (by rfl) (v := ?_) ?_ (by assumption) ?_
    rotate_left
    · intro wS hSw
      (try dsimp only at hSw)
      go_simp
      try with_reducible rfl
    simp only [Act.put, List.setIfInBounds_toArray, List.set_cons_zero, List.set_cons_succ]
    refine take_yes 20 (some 60) rfl rfl (by kernel_rfl) (by kernel_rfl) (by kernel_rfl) (fun _ _ _ h => h) (by rfl) (v := ?_) ?_ (by assumption) ?_
    rotate_left
    · intro wS hSw
      (try dsimp only at hSw)
      go_simp
      try with_reducible rfl
    simp only [Act.put, List.setIfInBounds_toArray, List.set_cons_zero, List.set_cons_succ]
    refine take_yes 21 (some 61) rfl rfl (by kernel_rfl) (by kernel_rfl) (by kernel_rfl) (fun _ _ _ h => h) (by rfl) (v := ?_) ?_ (by assumption) ?_
    rotate_left
    · intro wS hSw
      (try dsimp only at hSw)
      go_simp
      try with_reducible rfl
    simp only [Act.put, List.setIfInBounds_toArray, List.set_cons_zero, List.set_cons_succ]
    refine take_yes 22 (some 62) rfl rfl (by kernel_rfl) (by kernel_rfl) (by kernel_rfl) (fun _ _ _ h => h) (by rfl) (v := ?_) ?_ (by assumption) ?_
    rotate_left
    · intro wS hSw
      (try dsimp only at hSw)
      go_simp
      try with_reducible rfl
    simp only [Act.put, List.setIfInBounds_toArray, List.set_cons_zero, List.set_cons_succ]
    refine take_no 23 (some 63) rfl rfl (by kernel_rfl) (by kernel_rfl) (by kernel_rfl) (fun _ _ _ h => h) (by rfl) (by assumption) ?_
    simp only [Act.put, List.setIfInBounds_toArray, List.set_cons_zero, List.set_cons_succ]
    refine take_no 24 (some 64) rfl rfl (by kernel_rfl) (by kernel_rfl) (by kernel_rfl) (fun _ _ _ h => h) (by rfl) (by assumption) ?_
    simp only [Act.put, List.setIfInBounds_toArray, List.set_cons_zero, List.set_cons_succ]
    refine wpAnyH_ready (rs := [25]) (by kernel_rfl) (by simp) ?_
    refine AllReadyH.cons (o := _) rfl (fun K hK => ?_) AllReadyH.nil
    go_simp
    refine hK.out _ _ ?_ (fun hHeld => ?_)
    · exact F5
    clear hK K
    refine take_no 26 (some 66) rfl rfl (by kernel_rfl) (by kernel_rfl) (by kernel_rfl) (fun _ _ _ h => h) (by rfl) (by assumption) ?_
    simp only [Act.put, List.setIfInBounds_toArray, List.set_cons_zero, List.set_cons_succ]
    refine take_yes 27 (some 67) rfl rfl (by kernel_rfl) (by kernel_rfl) (by kernel_rfl) (fun _ _ _ h => h) (by rfl) (v := ?_) ?_ (by assumption) ?_
    rotate_left
    · intro wS hSw
      (try dsimp only at hSw)
      go_simp
      try with_reducible rfl
    simp only [Act.put, List.setIfInBounds_toArray, List.set_cons_zero, List.set_cons_succ]
    refine take_yes 28 (some 68) rfl rfl (by kernel_rfl) (by kernel_rfl) (by kernel_rfl) (fun _ _ _ h => h) (by rfl) (v := ?_) ?_ (by assumption) ?_
    rotate_left
    · intro wS hSw
      (try dsimp only at hSw)
      go_simp
      try with_reducible rfl
    simp only [Act.put, List.setIfInBounds_toArray, List.set_cons_zero, List.set_cons_succ]
    refine take_yes 29 (some 69) rfl rfl (by kernel_rfl) (by kernel_rfl) (by kernel_rfl) (fun _ _ _ h => h) (by rfl) (v := ?_) ?_ (by assumption) ?_
    rotate_left
    · intro wS hSw
      (try dsimp only at hSw)
      go_simp
      try with_reducible rfl
    simp only [Act.put, List.setIfInBounds_toArray, List.set_cons_zero, List.set_cons_succ]
    refine take_yes 30 (some 70) rfl rfl (by kernel_rfl) (by kernel_rfl) (by kernel_rfl) (fun _ _ _ h => h) (by rfl) (v := ?_) ?_ (by assumption) ?_
    rotate_left
    · intro wS hSw
      (try dsimp only at hSw)
      go_simp
      try with_reducible rfl
    simp only [Act.put, List.setIfInBounds_toArray, List.set_cons_zero, List.set_cons_succ]
    refine take_yes 32 (some 72) rfl rfl (by kernel_rfl) (by kernel_rfl) (by kernel_rfl) (fun _ _ _ h => h) (by rfl) (v := ?_) ?_ (by assumption) ?_
    rotate_left
    · intro wS hSw
      (try dsimp only at hSw)
      go_simp
      try with_reducible rfl
    simp only [Act.put, List.setIfInBounds_toArray, List.set_cons_zero, List.set_cons_succ]
    refine wpAnyH_ready (rs := [31]) (by kernel_rfl) (by simp) ?_
    refine AllReadyH.cons (o := _) rfl (fun K hK => ?_) AllReadyH.nil
    go_simp
    refine (copy_any o1 s1 a n ca es w5 hN hna (ha.below (below_chain hw0 k15))).mono ?_
    rintro e w7 ⟨⟨pa, pcc, rfl, po7, _, _, _⟩, k7⟩
    have k17 := below_chain k15 k7
    have F7 := three (HB.out w7 k17).1
    (try go_wp2_with (fail))
    refine hK.out _ _ ?_ (fun hHeld => ?_)
    · exact F7
    clear hK K
    refine wpAnyH_ready (rs := [33]) (by kernel_rfl) (by simp) ?_
    refine AllReadyH.cons (o := _) rfl (fun K hK => ?_) AllReadyH.nil
    go_simp
    refine (sameState_any o1 s1 o1 s1 pa a _ n pcc ca es es w7 po7 (ha.below (below_chain hw0 k17)) hL hN).mono ?_
    rintro e w8 ⟨rfl, k8⟩
    simp only [and_self, decide_true]
    have k18 := below_chain k17 k8
    have F8 := three (HB.out w8 k18).1
    (try go_wp2_with (fail))
    refine hK.out _ _ ?_ (fun hHeld => ?_)
    · exact F8
    clear hK K
    refine take_yes 34 (some 74) rfl rfl (by kernel_rfl) (by kernel_rfl) (by kernel_rfl) (fun _ _ _ h => h) (by rfl) (v := ?_) ?_ (by assumption) ?_
    rotate_left
    · intro wS hSw
      (try dsimp only at hSw)
      go_simp
      try with_reducible rfl
    simp only [Act.put, List.setIfInBounds_toArray, List.set_cons_zero, List.set_cons_succ]
    refine take_yes 35 (some 75) rfl rfl (by kernel_rfl) (by kernel_rfl) (by kernel_rfl) (fun _ _ _ h => h) (by rfl) (v := ?_) ?_ (by assumption) ?_
    rotate_left
    · intro wS hSw
      (try dsimp only at hSw)
      go_simp
      try with_reducible rfl
    simp only [Act.put, List.setIfInBounds_toArray, List.set_cons_zero, List.set_cons_succ]
    refine wpAnyH_done (by kernel_rfl) ?_ _
    go_wp2_with (fail)
    go_meet
    exact ⟨by first | rfl | simp, k18⟩
  case rest =>
    clear x0 x1 x2 xl y0 y1 y2 yl F0 k05D k05
    obtain ⟨rfl, k6⟩ := hcut
    obtain ⟨W6, rfl⟩ : ∃ W6, W6 = wc := ⟨_, rfl⟩
    go_wp2_with (fail)
    refine (Ht1.out _).mono ?_
    rintro e w7 ⟨a7, n7, c7, rfl, ho7, k7⟩
    have k07 := below_chain k6 k7
    have hx7 : Below w7.heap.size w7 (w7.alloc (.cells #[.int .i64 pc, .int .i64 pi, .slice a7 n7 c7] 62)) := below_alloc _ _
    have k07x := below_chain k07 hx7
    clear k7 k6 k07
    go_wp2_with (fail)
    refine (Ht2.out _).mono ?_
    rintro e w8 ⟨a8, n8, c8, rfl, ho8, k8⟩
    obtain ⟨z0, z1, z2, zl⟩ := box3 k8
    have k08 := below_chain k07x k8
    have ho7' := (ho7.below hx7).below k8
    have hnn : n7 = n8 := by rw [← ho7.1, ho8.1]
    subst hnn
    have hn7 : n7 ≤ 1000000 := by rw [← ho8.1]; omega
    have hx8 : Below w8.heap.size w8 (w8.alloc (.cells #[.int .i64 pc, .int .i64 pi, .slice a8 n7 c8] 62)) := below_alloc _ _
    have k08x := below_chain k08 hx8
    clear k8 hx7 k07x k08
    go_wp2_with (fail)
    refine (same_ok pf _).mono ?_
    rintro e w9 ⟨rfl, rfl⟩
    go_wp2_with (fail)
    refine (sameState_any pc pi pc pi a7 a8 n7 n7 c7 c8 po po _ (ho7'.below hx8) (ho8.below hx8) hn7 hn7).mono ?_
    rintro e W9 ⟨rfl, k9⟩
    simp only [and_self, decide_true]
    have k09 := below_chain k08x k9
    clear ho7' ho8 ho7 hx8 k9 k08x z0 z1 z2 zl
    obtain ⟨⟨x0, x1, x2, xl⟩, ⟨y0, y1, y2, yl⟩⟩ := HB.out W9 k09
    go_wp2_with (fail)
    go_quiet (fail)
    go_wp2_with (fail)
    go_ret
    exact ⟨rfl, below_drewN (below_chain hw0 k09) _⟩
set_option maxRecDepth 100000 in
set_option maxHeartbeats 8000000 in
theorem walk_3 (o1 s1 : Int) (a : Option Addr) (n ca : Nat) (es : List Opt) (o2 s2 : Int) (b : Option Addr) (m cb : Nat) (fs : List Opt) (s : ByteArray) (w : World) (ha : OptR w a n es) (hna : NilOk a ca) (hn : n ≤ maxLen) (_hb : OptR w b m fs) (hm : m ≤ maxLen) (hs : s.size ≤ 60) (h9 : n ≤ 9) (h9m : m ≤ 9) (hk : stF o1 s1 es = 3) :
    Calls Try.prog 6 #[.agg #[.int .i64 o1, .int .i64 s1, .slice a n ca], .agg #[.int .i64 o2, .int .i64 s2, .slice b m cb], .string s] w fun e w' => e = .returned (.bool true) ∧ Below w.heap.size w w' := by
  have hz := zeroState
  have hw0 : Below w.heap.size w ((w.alloc (.cells #[.int .i64 o1, .int .i64 s1, .slice a n ca] 62)).alloc (.cells #[.int .i64 o2, .int .i64 s2, .slice b m cb] 62)) := (below_alloc _ _).alloc (by simp) _
  obtain ⟨W0, hW0⟩ : ∃ W0, (w.alloc (.cells #[.int .i64 o1, .int .i64 s1, .slice a n ca] 62)).alloc (.cells #[.int .i64 o2, .int .i64 s2, .slice b m cb] 62) = W0 := ⟨_, rfl⟩
  have boxes : ∀ w1 : World, Below W0.heap.size W0 w1 → (w1.cell? ⟨w.heap.size, 0, none⟩ = some (.int .i64 o1) ∧ w1.cell? ⟨w.heap.size, 1, none⟩ = some (.int .i64 s1) ∧ w1.cell? ⟨w.heap.size, 2, none⟩ = some (.slice a n ca) ∧ w.heap.size < w1.heap.size) ∧ (w1.cell? ⟨w.heap.size + 1, 0, none⟩ = some (.int .i64 o2) ∧ w1.cell? ⟨w.heap.size + 1, 1, none⟩ = some (.int .i64 s2) ∧ w1.cell? ⟨w.heap.size + 1, 2, none⟩ = some (.slice b m cb) ∧ w.heap.size + 1 < w1.heap.size) := by
    intro w1 hq
    rw [← hW0] at hq
    have h2 := box3 hq
    have e1 : (w.alloc (.cells #[.int .i64 o1, .int .i64 s1, .slice a n ca] 62)).heap.size = w.heap.size + 1 := by simp
    rw [e1] at h2
    exact ⟨box3 (w1 := w1) (below_chain (below_alloc _ _) hq), h2⟩
  rw [hW0] at hw0
  have HW : Hid _ := hW0
  have HB : Hid _ := boxes
  clear hW0 boxes
  have hd : decide (n ≤ 9) = true := by simp [h9]
  have hdm : decide (m ≤ 9) = true := by simp [h9m]
  have hN : n ≤ 1000000 := by omega
  have hL : es.length ≤ 1000000 := by rw [ha.1]; exact hN
  have h60 : ¬ (60 : Int) < (s.size : Int) := by omega
  obtain ⟨pc, pi, po, pf, t1, t2, t3⟩ := tail_calls s (by omega)
  have hfa : ∀ W, OptR W a n es → Calls Try.prog 29 #[.agg #[.int .i64 o1, .int .i64 s1, .slice a n ca]] W fun e w' => e = .returned (.int .i64 3) ∧ Below W.heap.size W w' := fun W h => by
    have := fault_any o1 s1 a n ca es W hn h
    rw [hk] at this
    exact this
  have hck : ∀ W, OptR W a n es → Calls Try.prog 31 #[.agg #[.int .i64 o1, .int .i64 s1, .slice a n ca]] W fun e w' => e = .returned (.iface 111 (.int .i64 3)) ∧ Below W.heap.size W w' := fun W h => by
    have := check_any o1 s1 a n ca es W (by omega) h
    rw [hk] at this
    exact this
  have hsm : ∀ W, Calls Try.prog 20 #[.iface 111 (.int .i64 3), .int .i64 3] W fun e w' => e = .returned (.bool true) ∧ W = w' := fun W => same_ok 3 W
  have hby : ∀ W, OptR W a n es → Calls Try.prog 30 #[.agg #[.int .i64 o1, .int .i64 s1, .slice a n ca]] W fun e w' => e = .returned (.tuple #[.string ByteArray.empty, .iface 111 (.int .i64 3)]) ∧ Below W.heap.size W w' := fun W h => by
    have := bytes_bad o1 s1 a n ca es W (by omega) h (by omega)
    rw [hk] at this
    exact this
  have Hfa : Hid _ := hfa
  have Hck : Hid _ := hck
  have Hsm : Hid _ := hsm
  have Hby : Hid _ := hby
  have Ht1 : Hid _ := t1
  have Ht2 : Hid _ := t2
  clear hfa hck hsm hby t1 t2 hk
  go_enter Try.func6, Try.ntmps6
  go_wp2_with (fail)
  rw [HW.out]
  refine (told_true _).mono ?_
  rintro e w1 ⟨rfl, k1⟩
  obtain ⟨⟨x0, x1, x2, xl⟩, ⟨y0, y1, y2, yl⟩⟩ := HB.out w1 k1
  go_wp2_with (fail)
  refine (light_any o1 s1 a n ca _ hn).mono ?_
  rintro e w2 ⟨rfl, k2⟩
  have k02 := below_chain k1 k2
  clear x0 x1 x2 xl y0 y1 y2 yl k1 k2
  obtain ⟨⟨x0, x1, x2, xl⟩, ⟨y0, y1, y2, yl⟩⟩ := HB.out w2 k02
  go_wp2_with (fail)
  refine (light_any o2 s2 b m cb _ hm).mono ?_
  rintro e w3 ⟨rfl, k3⟩
  have k03 := below_chain k02 k3
  clear x0 x1 x2 xl y0 y1 y2 yl k3 k02
  obtain ⟨⟨x0, x1, x2, xl⟩, ⟨y0, y1, y2, yl⟩⟩ := HB.out w3 k03
  go_wp2_with (fail)
  refine (Hfa.out _ (ha.below (below_chain hw0 k03))).mono ?_
  rintro e w4 ⟨rfl, k4⟩
  have k04 := below_chain k03 k4
  clear x0 x1 x2 xl y0 y1 y2 yl k4 k03
  obtain ⟨⟨x0, x1, x2, xl⟩, ⟨y0, y1, y2, yl⟩⟩ := HB.out w4 k04
  go_wp2_with (fail)
  refine (Hby.out _ (ha.below (below_chain hw0 k04))).mono ?_
  rintro e W5 ⟨rfl, k5⟩
  have k05 := below_chain k04 k5
  clear x0 x1 x2 xl y0 y1 y2 yl k5 k04
  obtain ⟨⟨x0, x1, x2, xl⟩, ⟨y0, y1, y2, yl⟩⟩ := HB.out W5 k05
  have k05D : Below W0.heap.size W0 W5.drew := ⟨k05.os, k05.tape, k05.output, k05.size, k05.block⟩
  have F0 := three (HB.out W5.drew k05D).1
  go_upto_region 6 with fail
  go_cut [75] (fun v wx => v = .bool false ∧ Below W0.heap.size W0 wx)
  case first =>
    refine wp_region_held_drew (S := fun x => x.cell? ⟨w.heap.size, 0, none⟩ = some (.int .i64 o1) ∧ x.cell? ⟨w.heap.size, 1, none⟩ = some (.int .i64 s1) ∧ x.cell? ⟨w.heap.size, 2, none⟩ = some (.slice a n ca)) (by kernel_rfl) F0 (fun hHeld => ?_)
    refine take_yes 0 (some 40) rfl rfl (by kernel_rfl) (by kernel_rfl) (by kernel_rfl) (fun _ _ _ h => h) (by rfl) (v := ?_) ?_ (by assumption) ?_
    rotate_left
    · intro wS hSw
      (try dsimp only at hSw)
      go_simp
      try with_reducible rfl
    simp only [Act.put, List.setIfInBounds_toArray, List.set_cons_zero, List.set_cons_succ]
    refine take_yes 2 (some 42) rfl rfl (by kernel_rfl) (by kernel_rfl) (by kernel_rfl) (fun _ _ _ h => h) (by rfl) (v := ?_) ?_ (by assumption) ?_
    rotate_left
    · intro wS hSw
      (try dsimp only at hSw)
      go_simp
      try with_reducible rfl
    simp only [Act.put, List.setIfInBounds_toArray, List.set_cons_zero, List.set_cons_succ]
    refine wpAnyH_ready (rs := [1]) (by kernel_rfl) (by simp) ?_
    refine AllReadyH.cons (o := _) rfl (fun K hK => ?_) AllReadyH.nil
    go_simp
    refine (Hck.out W5.drew (ha.below (below_chain hw0 k05D))).mono ?_
    rintro e w5 ⟨rfl, k5⟩
    have k15 := below_chain k05D k5
    have F5 := three (HB.out w5 k15).1
    (try go_wp2_with (fail))
    refine hK.out _ _ ?_ (fun hHeld => ?_)
    · exact F5
    clear hK K
    refine wpAnyH_ready (rs := [3]) (by kernel_rfl) (by simp) ?_
    refine AllReadyH.cons (o := _) rfl (fun K hK => ?_) AllReadyH.nil
    go_simp
    refine (Hsm.out _).mono ?_
    rintro e w9 ⟨rfl, rfl⟩
    (try go_wp2_with (fail))
    refine hK.out _ _ ?_ (fun hHeld => ?_)
    · exact F5
    clear hK K
    refine take_yes 4 (some 44) rfl rfl (by kernel_rfl) (by kernel_rfl) (by kernel_rfl) (fun _ _ _ h => h) (by rfl) (v := ?_) ?_ (by assumption) ?_
    rotate_left
    · intro wS hSw
      (try dsimp only at hSw)
      go_simp
      try with_reducible rfl
    simp only [Act.put, List.setIfInBounds_toArray, List.set_cons_zero, List.set_cons_succ]
    refine take_yes 5 (some 45) rfl rfl (by kernel_rfl) (by kernel_rfl) (by kernel_rfl) (fun _ _ _ h => h) (by rfl) (v := ?_) ?_ (by assumption) ?_
    rotate_left
    · intro wS hSw
      (try dsimp only at hSw)
      go_simp
      try with_reducible rfl
    simp only [Act.put, List.setIfInBounds_toArray, List.set_cons_zero, List.set_cons_succ]
    refine take_yes 6 (some 46) rfl rfl (by kernel_rfl) (by kernel_rfl) (by kernel_rfl) (fun _ _ _ h => h) (by rfl) (v := ?_) ?_ (by assumption) ?_
    rotate_left
    · intro wS hSw
      (try dsimp only at hSw)
      go_simp
      try with_reducible rfl
    simp only [Act.put, List.setIfInBounds_toArray, List.set_cons_zero, List.set_cons_succ]
    refine take_yes 7 (some 47) rfl rfl (by kernel_rfl) (by kernel_rfl) (by kernel_rfl) (fun _ _ _ h => h) (by rfl) (v := ?_) ?_ (by assumption) ?_
    rotate_left
    · intro wS hSw
      (try dsimp only at hSw)
      go_simp
      try with_reducible rfl
    simp only [Act.put, List.setIfInBounds_toArray, List.set_cons_zero, List.set_cons_succ]
    refine wpAnyH_ready (rs := [8]) (by kernel_rfl) (by simp) ?_
    refine AllReadyH.cons (o := _) rfl (fun K hK => ?_) AllReadyH.nil
    go_simp
    refine (Hsm.out _).mono ?_
    rintro e w9 ⟨rfl, rfl⟩
    (try go_wp2_with (fail))
    refine hK.out _ _ ?_ (fun hHeld => ?_)
    · exact F5
    clear hK K
    refine take_yes 9 (some 49) rfl rfl (by kernel_rfl) (by kernel_rfl) (by kernel_rfl) (fun _ _ _ h => h) (by rfl) (v := ?_) ?_ (by assumption) ?_
    rotate_left
    · intro wS hSw
      (try dsimp only at hSw)
      go_simp
      try with_reducible rfl
    simp only [Act.put, List.setIfInBounds_toArray, List.set_cons_zero, List.set_cons_succ]
    refine take_yes 10 (some 50) rfl rfl (by kernel_rfl) (by kernel_rfl) (by kernel_rfl) (fun _ _ _ h => h) (by rfl) (v := ?_) ?_ (by assumption) ?_
    rotate_left
    · intro wS hSw
      (try dsimp only at hSw)
      go_simp
      try with_reducible rfl
    simp only [Act.put, List.setIfInBounds_toArray, List.set_cons_zero, List.set_cons_succ]
    refine take_yes 11 (some 51) rfl rfl (by kernel_rfl) (by kernel_rfl) (by kernel_rfl) (fun _ _ _ h => h) (by rfl) (v := ?_) ?_ (by assumption) ?_
    rotate_left
    · intro wS hSw
      (try dsimp only at hSw)
      go_simp
      try with_reducible rfl
    simp only [Act.put, List.setIfInBounds_toArray, List.set_cons_zero, List.set_cons_succ]
    refine take_yes 12 (some 52) rfl rfl (by kernel_rfl) (by kernel_rfl) (by kernel_rfl) (fun _ _ _ h => h) (by rfl) (v := ?_) ?_ (by assumption) ?_
    rotate_left
    · intro wS hSw
      (try dsimp only at hSw)
      go_simp
      try with_reducible rfl
    simp only [Act.put, List.setIfInBounds_toArray, List.set_cons_zero, List.set_cons_succ]
    refine take_yes 13 (some 53) rfl rfl (by kernel_rfl) (by kernel_rfl) (by kernel_rfl) (fun _ _ _ h => h) (by rfl) (v := ?_) ?_ (by assumption) ?_
    rotate_left
    · intro wS hSw
      (try dsimp only at hSw)
      go_simp
      try with_reducible rfl
    simp only [Act.put, List.setIfInBounds_toArray, List.set_cons_zero, List.set_cons_succ]
    refine take_yes 14 (some 54) rfl rfl (by kernel_rfl) (by kernel_rfl) (by kernel_rfl) (fun _ _ _ h => h) (by rfl) (v := ?_) ?_ (by assumption) ?_
    rotate_left
    · intro wS hSw
      (try dsimp only at hSw)
      go_simp
      try with_reducible rfl
    simp only [Act.put, List.setIfInBounds_toArray, List.set_cons_zero, List.set_cons_succ]
    refine take_yes 15 (some 55) rfl rfl (by kernel_rfl) (by kernel_rfl) (by kernel_rfl) (fun _ _ _ h => h) (by rfl) (v := ?_) ?_ (by assumption) ?_
    rotate_left
    · intro wS hSw
      (try dsimp only at hSw)
      go_simp
      try with_reducible rfl
    simp only [Act.put, List.setIfInBounds_toArray, List.set_cons_zero, List.set_cons_succ]
    refine take_yes 16 (some 56) rfl rfl (by kernel_rfl) (by kernel_rfl) (by kernel_rfl) (fun _ _ _ h => h) (by rfl) (v := ?_) ?_ (by assumption) ?_
    rotate_left
    · intro wS hSw
      (try dsimp only at hSw)
      go_simp
      try with_reducible rfl
    simp only [Act.put, List.setIfInBounds_toArray, List.set_cons_zero, List.set_cons_succ]
    refine take_yes 17 (some 57) rfl rfl (by kernel_rfl) (by kernel_rfl) (by kernel_rfl) (fun _ _ _ h => h) (by rfl) (v := ?_) ?_ (by assumption) ?_
    rotate_left
    · intro wS hSw
      (try dsimp only at hSw)
      go_simp
      try with_reducible rfl
    simp only [Act.put, List.setIfInBounds_toArray, List.set_cons_zero, List.set_cons_succ]
    refine take_yes 18 (some 58) rfl rfl (by kernel_rfl) (by kernel_rfl) (by kernel_rfl) (fun _ _ _ h => h) (by rfl) (v := ?_) ?_ (by assumption) ?_
    rotate_left
    · intro wS hSw
      (try dsimp only at hSw)
      go_simp
      try with_reducible rfl
    simp only [Act.put, List.setIfInBounds_toArray, List.set_cons_zero, List.set_cons_succ]
    refine take_yes 19 (some 59) rfl rfl (by kernel_rfl) (by kernel_rfl) (by kernel_rfl) (fun _ _ _ h => h) (by rfl) (v := ?_) ?_ (by assumption) ?_
    rotate_left
    · intro wS hSw
      (try dsimp only at hSw)
      go_simp
      try with_reducible rfl
    simp only [Act.put, List.setIfInBounds_toArray, List.set_cons_zero, List.set_cons_succ]
    refine take_yes 20 (some 60) rfl rfl (by kernel_rfl) (by kernel_rfl) (by kernel_rfl) (fun _ _ _ h => h) (by rfl) (v := ?_) ?_ (by assumption) ?_
    rotate_left
    · intro wS hSw
      (try dsimp only at hSw)
      go_simp
      try with_reducible rfl
    simp only [Act.put, List.setIfInBounds_toArray, List.set_cons_zero, List.set_cons_succ]
    refine take_yes 21 (some 61) rfl rfl (by kernel_rfl) (by kernel_rfl) (by kernel_rfl) (fun _ _ _ h => h) (by rfl) (v := ?_) ?_ (by assumption) ?_
    rotate_left
    · intro wS hSw
      (try dsimp only at hSw)
      go_simp
      try with_reducible rfl
    simp only [Act.put, List.setIfInBounds_toArray, List.set_cons_zero, List.set_cons_succ]
    refine take_yes 22 (some 62) rfl rfl (by kernel_rfl) (by kernel_rfl) (by kernel_rfl) (fun _ _ _ h => h) (by rfl) (v := ?_) ?_ (by assumption) ?_
    rotate_left
    · intro wS hSw
      (try dsimp only at hSw)
      go_simp
      try with_reducible rfl
    simp only [Act.put, List.setIfInBounds_toArray, List.set_cons_zero, List.set_cons_succ]
    refine take_no 23 (some 63) rfl rfl (by kernel_rfl) (by kernel_rfl) (by kernel_rfl) (fun _ _ _ h => h) (by rfl) (by assumption) ?_
    simp only [Act.put, List.setIfInBounds_toArray, List.set_cons_zero, List.set_cons_succ]
    refine take_no 24 (some 64) rfl rfl (by kernel_rfl) (by kernel_rfl) (by kernel_rfl) (fun _ _ _ h => h) (by rfl) (by assumption) ?_
    simp only [Act.put, List.setIfInBounds_toArray, List.set_cons_zero, List.set_cons_succ]
    refine wpAnyH_ready (rs := [25]) (by kernel_rfl) (by simp) ?_
    refine AllReadyH.cons (o := _) rfl (fun K hK => ?_) AllReadyH.nil
    go_simp
    refine hK.out _ _ ?_ (fun hHeld => ?_)
    · exact F5
    clear hK K
    refine take_no 26 (some 66) rfl rfl (by kernel_rfl) (by kernel_rfl) (by kernel_rfl) (fun _ _ _ h => h) (by rfl) (by assumption) ?_
    simp only [Act.put, List.setIfInBounds_toArray, List.set_cons_zero, List.set_cons_succ]
    refine take_yes 27 (some 67) rfl rfl (by kernel_rfl) (by kernel_rfl) (by kernel_rfl) (fun _ _ _ h => h) (by rfl) (v := ?_) ?_ (by assumption) ?_
    rotate_left
    · intro wS hSw
      (try dsimp only at hSw)
      go_simp
      try with_reducible rfl
    simp only [Act.put, List.setIfInBounds_toArray, List.set_cons_zero, List.set_cons_succ]
    refine take_yes 28 (some 68) rfl rfl (by kernel_rfl) (by kernel_rfl) (by kernel_rfl) (fun _ _ _ h => h) (by rfl) (v := ?_) ?_ (by assumption) ?_
    rotate_left
    · intro wS hSw
      (try dsimp only at hSw)
      go_simp
      try with_reducible rfl
    simp only [Act.put, List.setIfInBounds_toArray, List.set_cons_zero, List.set_cons_succ]
    refine take_yes 29 (some 69) rfl rfl (by kernel_rfl) (by kernel_rfl) (by kernel_rfl) (fun _ _ _ h => h) (by rfl) (v := ?_) ?_ (by assumption) ?_
    rotate_left
    · intro wS hSw
      (try dsimp only at hSw)
      go_simp
      try with_reducible rfl
    simp only [Act.put, List.setIfInBounds_toArray, List.set_cons_zero, List.set_cons_succ]
    refine take_yes 30 (some 70) rfl rfl (by kernel_rfl) (by kernel_rfl) (by kernel_rfl) (fun _ _ _ h => h) (by rfl) (v := ?_) ?_ (by assumption) ?_
    rotate_left
    · intro wS hSw
      (try dsimp only at hSw)
      go_simp
      try with_reducible rfl
    simp only [Act.put, List.setIfInBounds_toArray, List.set_cons_zero, List.set_cons_succ]
    refine take_yes 32 (some 72) rfl rfl (by kernel_rfl) (by kernel_rfl) (by kernel_rfl) (fun _ _ _ h => h) (by rfl) (v := ?_) ?_ (by assumption) ?_
    rotate_left
    · intro wS hSw
      (try dsimp only at hSw)
      go_simp
      try with_reducible rfl
    simp only [Act.put, List.setIfInBounds_toArray, List.set_cons_zero, List.set_cons_succ]
    refine wpAnyH_ready (rs := [31]) (by kernel_rfl) (by simp) ?_
    refine AllReadyH.cons (o := _) rfl (fun K hK => ?_) AllReadyH.nil
    go_simp
    refine (copy_any o1 s1 a n ca es w5 hN hna (ha.below (below_chain hw0 k15))).mono ?_
    rintro e w7 ⟨⟨pa, pcc, rfl, po7, _, _, _⟩, k7⟩
    have k17 := below_chain k15 k7
    have F7 := three (HB.out w7 k17).1
    (try go_wp2_with (fail))
    refine hK.out _ _ ?_ (fun hHeld => ?_)
    · exact F7
    clear hK K
    refine wpAnyH_ready (rs := [33]) (by kernel_rfl) (by simp) ?_
    refine AllReadyH.cons (o := _) rfl (fun K hK => ?_) AllReadyH.nil
    go_simp
    refine (sameState_any o1 s1 o1 s1 pa a _ n pcc ca es es w7 po7 (ha.below (below_chain hw0 k17)) hL hN).mono ?_
    rintro e w8 ⟨rfl, k8⟩
    simp only [and_self, decide_true]
    have k18 := below_chain k17 k8
    have F8 := three (HB.out w8 k18).1
    (try go_wp2_with (fail))
    refine hK.out _ _ ?_ (fun hHeld => ?_)
    · exact F8
    clear hK K
    refine take_yes 34 (some 74) rfl rfl (by kernel_rfl) (by kernel_rfl) (by kernel_rfl) (fun _ _ _ h => h) (by rfl) (v := ?_) ?_ (by assumption) ?_
    rotate_left
    · intro wS hSw
      (try dsimp only at hSw)
      go_simp
      try with_reducible rfl
    simp only [Act.put, List.setIfInBounds_toArray, List.set_cons_zero, List.set_cons_succ]
    refine take_yes 35 (some 75) rfl rfl (by kernel_rfl) (by kernel_rfl) (by kernel_rfl) (fun _ _ _ h => h) (by rfl) (v := ?_) ?_ (by assumption) ?_
    rotate_left
    · intro wS hSw
      (try dsimp only at hSw)
      go_simp
      try with_reducible rfl
    simp only [Act.put, List.setIfInBounds_toArray, List.set_cons_zero, List.set_cons_succ]
    refine wpAnyH_done (by kernel_rfl) ?_ _
    go_wp2_with (fail)
    go_meet
    exact ⟨by first | rfl | simp, k18⟩
  case rest =>
    clear x0 x1 x2 xl y0 y1 y2 yl F0 k05D k05
    obtain ⟨rfl, k6⟩ := hcut
    obtain ⟨W6, rfl⟩ : ∃ W6, W6 = wc := ⟨_, rfl⟩
    go_wp2_with (fail)
    refine (Ht1.out _).mono ?_
    rintro e w7 ⟨a7, n7, c7, rfl, ho7, k7⟩
    have k07 := below_chain k6 k7
    have hx7 : Below w7.heap.size w7 (w7.alloc (.cells #[.int .i64 pc, .int .i64 pi, .slice a7 n7 c7] 62)) := below_alloc _ _
    have k07x := below_chain k07 hx7
    clear k7 k6 k07
    go_wp2_with (fail)
    refine (Ht2.out _).mono ?_
    rintro e w8 ⟨a8, n8, c8, rfl, ho8, k8⟩
    obtain ⟨z0, z1, z2, zl⟩ := box3 k8
    have k08 := below_chain k07x k8
    have ho7' := (ho7.below hx7).below k8
    have hnn : n7 = n8 := by rw [← ho7.1, ho8.1]
    subst hnn
    have hn7 : n7 ≤ 1000000 := by rw [← ho8.1]; omega
    have hx8 : Below w8.heap.size w8 (w8.alloc (.cells #[.int .i64 pc, .int .i64 pi, .slice a8 n7 c8] 62)) := below_alloc _ _
    have k08x := below_chain k08 hx8
    clear k8 hx7 k07x k08
    go_wp2_with (fail)
    refine (same_ok pf _).mono ?_
    rintro e w9 ⟨rfl, rfl⟩
    go_wp2_with (fail)
    refine (sameState_any pc pi pc pi a7 a8 n7 n7 c7 c8 po po _ (ho7'.below hx8) (ho8.below hx8) hn7 hn7).mono ?_
    rintro e W9 ⟨rfl, k9⟩
    simp only [and_self, decide_true]
    have k09 := below_chain k08x k9
    clear ho7' ho8 ho7 hx8 k9 k08x z0 z1 z2 zl
    obtain ⟨⟨x0, x1, x2, xl⟩, ⟨y0, y1, y2, yl⟩⟩ := HB.out W9 k09
    go_wp2_with (fail)
    go_quiet (fail)
    go_wp2_with (fail)
    go_ret
    exact ⟨rfl, below_drewN (below_chain hw0 k09) _⟩
end stateSays
end Go.Proofs.Ytjchmcclmbmggab
