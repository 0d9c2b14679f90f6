/-
  'TopAgree' returns true at all numbers, and changes nothing that was there.
-/
import Derived.Test.YtakckdeadchflabPolicyWalk3
import Derived.Test.YtakckdeadchflabSameOpt
namespace Go.Proofs.Ytakckdeadchflab
open Go.RowKit

theorem Pol.made (w : World) (s m : Int) : Pol (w.alloc (.cells #[.int .i64 s, .int .i64 m] 25)) w.heap.size s m := by
  have hA := fun j => World.cell?_alloc_mark w #[.int .i64 s, .int .i64 m] 25 (0, 0) j
  have hF := fun j => World.frozen?_alloc_mark w #[.int .i64 s, .int .i64 m] 25 0 0 j
  exact ⟨hA 0, hA 1, by rw [hF]; rfl, by rw [hF]; rfl⟩
theorem below_drew {w a : World} {B : Nat} (h : Below B w a) : Below B w a.drew := ⟨h.os, h.tape, h.output, h.size, h.block⟩
/-- Asks, of a policy whose options are known. -/
theorem asks_as {a b : Int} {n : Nat} {l : List Opt} (h : asksL a b = l) (hn : l.length = n) (V : World) : Calls Try.prog 6 #[.agg #[.int .i64 a, .int .i64 b]] V fun e w' =>
    ∃ (sa : Option Addr) (sc : Nat), e = .returned (.slice sa n sc) ∧ NilOk sa sc ∧ OptR w' sa n l ∧ Below V.heap.size V w' := by
  subst h hn
  refine (asks_any a b V).mono ?_
  rintro e w' ⟨v, rfl, hM⟩
  obtain ⟨sa, sc, rfl, sn, sl⟩ := hM.shape
  exact ⟨sa, sc, rfl, sn, hM.opts.2, hM.below⟩
/-- Judge, of options whose answer is known. -/
theorem judge_as {x y c : Int} {n m : Nat} {l r : List Opt} (h : judgeR y l = (c, r)) (hm : r.length = m) (y1 : 0 ≤ y) (y2 : y ≤ 255) (hb : n ≤ 1000000) (sa : Option Addr) (sc : Nat) (V : World) (hs : NilOk sa sc) (ho : OptR V sa n l) :
    Calls Try.prog 8 #[.agg #[.int .i64 x, .int .i64 y], .slice sa n sc] V fun e w' => ∃ (ta : Option Addr) (tc : Nat), e = .returned (.tuple #[.int .i64 c, .slice ta m tc]) ∧ NilOk ta tc ∧ OptR w' ta m r ∧ Below V.heap.size V w' := by
  have := judge_any x y sa n sc l V y1 y2 hb hs ho
  rw [h] at this
  subst hm
  refine this.mono ?_
  rintro e w' ⟨v, rfl, hM⟩
  obtain ⟨ta, tc, rfl, tn, tl⟩ := hM.shape
  exact ⟨ta, tc, rfl, tn, hM.opts.2, hM.below⟩
namespace topAgree

set_option maxRecDepth 100000 in
set_option maxHeartbeats 8000000 in
theorem walk_yes (a b x y : Int) (w : World) (a1 : ¬ a < 40) (a2 : ¬ 255 < a) (b1 : ¬ b < 1) (b2 : ¬ 255 < b) (x1 : ¬ x < 40) (x2 : ¬ 255 < x) (y1 : ¬ y < 1) (y2 : ¬ 255 < y) (hne : b ≠ y) :
    Calls Try.prog 4 #[.int .i64 a, .int .i64 b, .int .i64 x, .int .i64 y] w fun e w' => e = .returned (.bool true) ∧ Below w.heap.size w w' := by
  have hasks : asksL a b = [(1, a), (5, b)] := by simp [asksL, show 0 < a by omega, show 0 < b by omega]
  have hj : judgeR y [(1, a), (5, b)] = (2, [(1, a), (5, b)]) := by
    have h0 : ¬ b = 0 := by omega
    have h40 : ¬ a < 40 := a1
    simp [judgeR, unkL, isUnk, betL, bet1, h0, h40, hne]
  go_enter Try.func4, Try.ntmps4
  go_wp2_with (fail)
  refine (new_in 90 7 _ (by decide) (by decide) (by decide) (by decide)).mono ?_
  rintro e w1 ⟨rfl, hb1⟩
  have P1 := Pol.made w1 90 7
  have h1 : Below w.heap.size w (w1.alloc (.cells #[.int .i64 90, .int .i64 7] 25)) := hb1.alloc hb1.size _
  go_wp2_with (fail)
  refine (new_in a b _ (by omega) (by omega) (by omega) (by omega)).mono ?_
  rintro e w2 ⟨rfl, hb2⟩
  have P2 := P1.below hb2
  have h2 := below_chain h1 hb2
  have hp : w.heap.size ≤ w1.heap.size := hb1.size
  obtain ⟨p, hpq⟩ : ∃ p, w1.heap.size = p := ⟨_, rfl⟩
  rw [hpq] at P2 hp ⊢
  clear P1 h1 hb1 hb2 hpq
  obtain ⟨c0, c1, f0, f1⟩ := P2
  have P3 := Pol.set ⟨c0, c1, f0, f1⟩ a b
  have h3 : Below w.heap.size w ((w2.setCell ⟨p, 0, none⟩ (.int .i64 a)).setCell ⟨p, 1, none⟩ (.int .i64 b)) := (h2.setCell hp _).setCell hp _
  have hl : p < w2.heap.size := World.block_lt_of_cell? w2 _ c0
  go_wp2_with (fail)
  refine (new_in x y _ (by omega) (by omega) (by omega) (by omega)).mono ?_
  rintro e w3 ⟨rfl, hb3⟩
  have P4 := P3.below hb3
  have h4 := below_chain h3 hb3
  clear c0 c1 f0 f1 P3 h3 hb3 hl
  have P5 := P4.below (below_alloc w3 (.cells #[.int .i64 x, .int .i64 y] 25))
  have Q5 := Pol.made w3 x y
  have h5 : Below w.heap.size w (w3.alloc (.cells #[.int .i64 x, .int .i64 y] 25)) := h4.alloc h4.size _
  have hlp : p < w3.heap.size := P4.lt
  obtain ⟨c0, c1, f0, f1⟩ := P4
  go_wp2_with (fail)
  obtain ⟨q, hq⟩ : ∃ q, w3.heap.size = q := ⟨_, rfl⟩
  obtain ⟨W, hW⟩ : ∃ W, w3.alloc (.cells #[.int .i64 x, .int .i64 y] 25) = W := ⟨_, rfl⟩
  rw [hW, hq] at Q5 ⊢
  rw [hW] at P5 h5 
  clear c0 c1 f0 f1 hW hlp hq
  obtain ⟨c0, c1, f0, f1⟩ := P5
  obtain ⟨d0, d1, g0, g1⟩ := Q5
  have hl0 : p < W.heap.size := World.block_lt_of_cell? W _ c0
  have hl1 : q < W.heap.size := World.block_lt_of_cell? W _ d0
  have hJ : ∀ (sa : Option Addr) (sc : Nat) (V : World), NilOk sa sc → OptR V sa 2 [(1, a), (5, b)] → Calls Try.prog 8 #[.agg #[.int .i64 x, .int .i64 y], .slice sa 2 sc] V fun e w' => ∃ v, e = .returned (.tuple #[.int .i64 2, v]) ∧ Made V w' v [(1, a), (5, b)] := by
    intro sa sc V hs ho
    have := judge_any x y sa 2 sc _ V (by omega) (by omega) (by decide) hs ho
    rw [hj] at this
    exact this
  have hK : ∀ V : World, Calls Try.prog 6 #[.agg #[.int .i64 a, .int .i64 b]] V fun e w' => ∃ (sa : Option Addr) (sc : Nat), e = .returned (.slice sa 2 sc) ∧ NilOk sa sc ∧ OptR w' sa 2 [(1, a), (5, b)] ∧ Below V.heap.size V w' := by
    intro V
    refine (asks_any a b V).mono ?_
    rintro e w' ⟨v, rfl, hM⟩
    rw [hasks] at hM
    obtain ⟨sa, sc, rfl, sn, sl⟩ := hM.shape
    exact ⟨sa, sc, rfl, sn, hM.opts.2, hM.below⟩
  go_region_with (first
    | (go_at_call 6; refine (hK _).mono ?_; rintro e w4 ⟨sa, sc, rfl, sn, so, k0⟩; have d0' := (k0.cell (p := ⟨q, 0, none⟩) hl1).trans d0; have d1' := (k0.cell (p := ⟨q, 1, none⟩) hl1).trans d1; have hlq : q < w4.heap.size := World.block_lt_of_cell? w4 _ d0')
    | (go_at_call 8; refine (hJ _ _ _ sn so).mono ?_; rintro e w5 ⟨v, rfl, hM⟩; obtain ⟨ta, tc, rfl, tn, tl⟩ := hM.shape))
  all_goals
    have k1 := hM.below
    have k2 := (below_chain k0 k1)
    have c0' := (k2.cell (p := ⟨p, 0, none⟩) hl0).trans c0
    have c1' := (k2.cell (p := ⟨p, 1, none⟩) hl0).trans c1
    have hlp : p < w5.heap.size := World.block_lt_of_cell? w5 _ c0'
    have h6 : Below w.heap.size w w5 := below_chain (below_drew h5) k2
    have to : OptR w5 ta 2 [(1, a), (5, b)] := hM.opts.2
    clear hM k1 k2 k0 d0' d1' so hJ
    go_wp2_with (fail)
    refine (hK _).mono ?_
    rintro e w6 ⟨ua, uc, rfl, un, uo, k3⟩
    have h7 := below_chain h6 k3
    go_wp2_with (fail)
    refine (sameOptions_any ta ua tc uc 2 2 _ _ w6 (to.below k3) uo (by decide) (by decide)).mono ?_
    rintro e w7 ⟨rfl, m7, rfl⟩
    go_wp2_with (fail)
    go_ret
    exact ⟨by simp, below_drewN h7 _⟩
set_option maxRecDepth 100000 in
set_option maxHeartbeats 8000000 in
theorem walk_no (a b x : Int) (w : World) (a1 : ¬ a < 40) (a2 : ¬ 255 < a) (b1 : ¬ b < 1) (b2 : ¬ 255 < b) (x1 : ¬ x < 40) (x2 : ¬ 255 < x) :
    Calls Try.prog 4 #[.int .i64 a, .int .i64 b, .int .i64 x, .int .i64 b] w fun e w' => e = .returned (.bool true) ∧ Below w.heap.size w w' := by
  have hasks : asksL a b = [(1, a), (5, b)] := by simp [asksL, show 0 < a by omega, show 0 < b by omega]
  obtain ⟨c, hc⟩ : ∃ c, c = b % 255 + 1 := ⟨_, rfl⟩
  have hc1 : 1 ≤ c ∧ c ≤ 255 := by omega
  have hcb : ¬ c = b := by omega
  have hc0 : ¬ c = 0 := by omega
  have hasks2 : asksL a c = [(1, a), (5, c)] := by simp [asksL, show 0 < a by omega, show 0 < c by omega]
  have hj : judgeR b [(1, a), (5, b)] = (3, [(5, c)]) := by
    have h40 : ¬ a < 40 := a1
    simp [judgeR, unkL, isUnk, betL, bet1, h40, hc]
  have hj2 : judgeR b [(1, a), (5, c)] = (2, [(1, a), (5, c)]) := by
    have h40 : ¬ a < 40 := a1
    simp [judgeR, unkL, isUnk, betL, bet1, h40, hc0, hcb]
  have ht : toldR 3 [(5, c)] (a, b) = (a, c) := by
    have h0 : 0 < c := by omega
    have h1 : 0 < b := by omega
    simp [toldR, told1, h0, h1]
  have hK := asks_as hasks (n := 2) rfl
  have hK2 := asks_as hasks2 (n := 2) rfl
  have hJ := judge_as (x := x) hj (n := 2) (m := 1) rfl (by omega) (by omega) (by decide)
  have hJ2 := judge_as (x := x) hj2 (n := 2) (m := 2) rfl (by omega) (by omega) (by decide)
  have hT := fun sa sc V ho => told_any a b 3 sa 1 sc [(5, c)] V (by decide) ho
  rw [ht] at hT
  clear hj hj2 ht hasks hasks2 hc hcb hc0
  go_enter Try.func4, Try.ntmps4
  go_wp2_with (fail)
  refine (new_in 90 7 _ (by decide) (by decide) (by decide) (by decide)).mono ?_
  rintro e w1 ⟨rfl, hb1⟩
  have P1 := Pol.made w1 90 7
  have h1 : Below w.heap.size w (w1.alloc (.cells #[.int .i64 90, .int .i64 7] 25)) := hb1.alloc hb1.size _
  go_wp2_with (fail)
  refine (new_in a b _ (by omega) (by omega) (by omega) (by omega)).mono ?_
  rintro e w2 ⟨rfl, hb2⟩
  have P2 := P1.below hb2
  have h2 := below_chain h1 hb2
  have hp : w.heap.size ≤ w1.heap.size := hb1.size
  obtain ⟨p, hpq⟩ : ∃ p, w1.heap.size = p := ⟨_, rfl⟩
  rw [hpq] at P2 hp ⊢
  clear P1 h1 hb1 hb2 hpq
  obtain ⟨c0, c1, f0, f1⟩ := P2
  have P3 := Pol.set ⟨c0, c1, f0, f1⟩ a b
  have h3 : Below w.heap.size w ((w2.setCell ⟨p, 0, none⟩ (.int .i64 a)).setCell ⟨p, 1, none⟩ (.int .i64 b)) := (h2.setCell hp _).setCell hp _
  have hl : p < w2.heap.size := World.block_lt_of_cell? w2 _ c0
  go_wp2_with (fail)
  refine (new_in x b _ (by omega) (by omega) (by omega) (by omega)).mono ?_
  rintro e w3 ⟨rfl, hb3⟩
  have P4 := P3.below hb3
  have h4 := below_chain h3 hb3
  clear c0 c1 f0 f1 P3 h3 hb3 hl
  have P5 := P4.below (below_alloc w3 (.cells #[.int .i64 x, .int .i64 b] 25))
  have Q5 := Pol.made w3 x b
  have h5 : Below w.heap.size w (w3.alloc (.cells #[.int .i64 x, .int .i64 b] 25)) := h4.alloc h4.size _
  have hlp : p < w3.heap.size := P4.lt
  obtain ⟨c0, c1, f0, f1⟩ := P4
  go_wp2_with (fail)
  obtain ⟨q, hq⟩ : ∃ q, w3.heap.size = q := ⟨_, rfl⟩
  obtain ⟨W, hW⟩ : ∃ W, w3.alloc (.cells #[.int .i64 x, .int .i64 b] 25) = W := ⟨_, rfl⟩
  have hpq : p ≠ q := by omega
  rw [hW, hq] at Q5 ⊢
  rw [hW] at P5 h5 
  clear c0 c1 f0 f1 hW hlp hq
  obtain ⟨c0, c1, f0, f1⟩ := P5
  obtain ⟨d0, d1, g0, g1⟩ := Q5
  have hl0 : p < W.heap.size := World.block_lt_of_cell? W _ c0
  have hl1 : q < W.heap.size := World.block_lt_of_cell? W _ d0
  go_region_with (first
    | (go_at_call 6; refine (hK _).mono ?_; rintro e w4 ⟨sa, sc, rfl, sn, so, k0⟩; have d0' := (k0.cell (p := ⟨q, 0, none⟩) hl1).trans d0; have d1' := (k0.cell (p := ⟨q, 1, none⟩) hl1).trans d1; have hlq : q < w4.heap.size := World.block_lt_of_cell? w4 _ d0')
    | (go_at_call 8; refine (hJ _ _ _ sn so).mono ?_; rintro e w5 ⟨ta, tc, rfl, tn, to, k1⟩))
  all_goals
    have k2 := (below_chain k0 k1)
    have c0' := (k2.cell (p := ⟨p, 0, none⟩) hl0).trans c0
    have c1' := (k2.cell (p := ⟨p, 1, none⟩) hl0).trans c1
    have hlp : p < w5.heap.size := World.block_lt_of_cell? w5 _ c0'
    have P6 := Pol.below ⟨c0, c1, f0, f1⟩ (show Below W.heap.size W w5 from below_chain (below_drew (Below.refl _ _)) k2)
    have Q6 := Pol.below ⟨d0, d1, g0, g1⟩ (show Below W.heap.size W w5 from below_chain (below_drew (Below.refl _ _)) k2)
    have h6 : Below w.heap.size w w5 := below_chain (below_drew h5) k2
    clear k2 k1 k0 d0' d1' so hJ hK c0 c1 f0 f1 d0 d1 g0 g1 hl0 hl1 h5
    go_wp2_with (fail)
    refine (hT ta tc w5 to).mono ?_
    rintro e w6 ⟨rfl, k3⟩
    have P7 := P6.below k3
    have Q7 := Q6.below k3
    have h7 := below_chain h6 k3
    clear P6 Q6 h6 k3 hT to c0' c1' hlp
    obtain ⟨c0, c1, f0, f1⟩ := P7
    obtain ⟨d0, d1, g0, g1⟩ := Q7
    have P8 := Pol.set ⟨c0, c1, f0, f1⟩ a c
    have Q8 := Pol.other ⟨d0, d1, g0, g1⟩ hpq (.int .i64 a) (.int .i64 c)
    have h8 : Below w.heap.size w ((w6.setCell ⟨p, 0, none⟩ (.int .i64 a)).setCell ⟨p, 1, none⟩ (.int .i64 c)) := (h7.setCell hp _).setCell hp _
    have hlp : p < w6.heap.size := World.block_lt_of_cell? w6 _ c0
    go_wp2_with (fail)
    obtain ⟨X, hX⟩ : ∃ X, (w6.setCell ⟨p, 0, none⟩ (.int .i64 a)).setCell ⟨p, 1, none⟩ (.int .i64 c) = X := ⟨_, rfl⟩
    rw [hX] at P8 Q8 h8 ⊢
    clear c0 c1 f0 f1 d0 d1 g0 g1 hX hlp h7
    obtain ⟨c0, c1, f0, f1⟩ := P8
    obtain ⟨d0, d1, g0, g1⟩ := Q8
    have hl0 : p < X.heap.size := World.block_lt_of_cell? X _ c0
    have hl1 : q < X.heap.size := World.block_lt_of_cell? X _ d0
    go_region_with (first
      | (go_at_call 6; refine (hK2 _).mono ?_; rintro e w7 ⟨sa, sc, rfl, sn, so, k0⟩; have d0' := (k0.cell (p := ⟨q, 0, none⟩) hl1).trans d0; have d1' := (k0.cell (p := ⟨q, 1, none⟩) hl1).trans d1; have hlq : q < w7.heap.size := World.block_lt_of_cell? w7 _ d0')
      | (go_at_call 8; refine (hJ2 _ _ _ sn so).mono ?_; rintro e w8 ⟨va, vc, rfl, vn, vo, k1⟩))
    all_goals
      have k2 := (below_chain k0 k1)
      have c0' := (k2.cell (p := ⟨p, 0, none⟩) hl0).trans c0
      have c1' := (k2.cell (p := ⟨p, 1, none⟩) hl0).trans c1
      have hlp : p < w8.heap.size := World.block_lt_of_cell? w8 _ c0'
      have h9 : Below w.heap.size w w8 := below_chain (below_drew h8) k2
      clear k1 k2 k0 d0' d1' so hJ2 c0 c1 f0 f1 d0 d1 g0 g1 hl0 hl1 h8
      go_wp2_with (fail)
      refine (hK2 _).mono ?_
      rintro e w9 ⟨ua, uc, rfl, un, uo, k3⟩
      have h10 := below_chain h9 k3
      go_wp2_with (fail)
      refine (sameOptions_any va ua vc uc 2 2 _ _ w9 (vo.below k3) uo (by decide) (by decide)).mono ?_
      rintro e w10 ⟨rfl, m10, rfl⟩
      go_wp2_with (fail)
      go_ret
      exact ⟨by simp, below_drewN h10 _⟩
set_option maxRecDepth 100000 in
set_option maxHeartbeats 8000000 in
theorem walk_out1 (a b x y s1 m1 s2 m2 : Int) (E : Value) (w : World)
    (hN1 : ∀ V : World, Calls Try.prog 5 #[.int .i64 a, .int .i64 b] V fun e w' => e = .returned (.tuple #[.agg #[.int .i64 s1, .int .i64 m1], .iface 39 (.int .i64 1)]) ∧ Below V.heap.size V w')
    (hN2 : ∀ V : World, Calls Try.prog 5 #[.int .i64 x, .int .i64 y] V fun e w' => e = .returned (.tuple #[.agg #[.int .i64 s2, .int .i64 m2], E]) ∧ Below V.heap.size V w') :
    Calls Try.prog 4 #[.int .i64 a, .int .i64 b, .int .i64 x, .int .i64 y] w fun e w' => e = .returned (.bool true) ∧ Below w.heap.size w w' := by
  go_enter Try.func4, Try.ntmps4
  go_wp2_with (fail)
  refine (new_in 90 7 _ (by decide) (by decide) (by decide) (by decide)).mono ?_
  rintro e w1 ⟨rfl, hb1⟩
  have P1 := Pol.made w1 90 7
  have h1 : Below w.heap.size w (w1.alloc (.cells #[.int .i64 90, .int .i64 7] 25)) := hb1.alloc hb1.size _
  go_wp2_with (fail)
  refine (hN1 _).mono ?_
  rintro e w2 ⟨rfl, hb2⟩
  have P2 := P1.below hb2
  have h2 := below_chain h1 hb2
  have hp : w.heap.size ≤ w1.heap.size := hb1.size
  obtain ⟨p, hpq⟩ : ∃ p, w1.heap.size = p := ⟨_, rfl⟩
  rw [hpq] at P2 hp ⊢
  clear P1 h1 hb1 hb2 hpq
  obtain ⟨c0, c1, f0, f1⟩ := P2
  have P3 := Pol.set ⟨c0, c1, f0, f1⟩ s1 m1
  have h3 : Below w.heap.size w ((w2.setCell ⟨p, 0, none⟩ (.int .i64 s1)).setCell ⟨p, 1, none⟩ (.int .i64 m1)) := (h2.setCell hp _).setCell hp _
  have hl : p < w2.heap.size := World.block_lt_of_cell? w2 _ c0
  go_wp2_with (fail)
  refine (hN2 _).mono ?_
  rintro e w3 ⟨rfl, hb3⟩
  have P4 := P3.below hb3
  have h4 := below_chain h3 hb3
  clear c0 c1 f0 f1 P3 h3 hb3 hl
  have h5 : Below w.heap.size w (w3.alloc (.cells #[.int .i64 s2, .int .i64 m2] 25)) := h4.alloc h4.size _
  have hlp : p < w3.heap.size := P4.lt
  obtain ⟨c0, c1, f0, f1⟩ := P4
  go_wp2_with (fail)
  go_ret
  exact ⟨rfl, h5⟩
set_option maxRecDepth 100000 in
set_option maxHeartbeats 8000000 in
theorem walk_out2 (a b x y s1 m1 s2 m2 : Int) (w : World)
    (hN1 : ∀ V : World, Calls Try.prog 5 #[.int .i64 a, .int .i64 b] V fun e w' => e = .returned (.tuple #[.agg #[.int .i64 s1, .int .i64 m1], .nilIface]) ∧ Below V.heap.size V w')
    (hN2 : ∀ V : World, Calls Try.prog 5 #[.int .i64 x, .int .i64 y] V fun e w' => e = .returned (.tuple #[.agg #[.int .i64 s2, .int .i64 m2], .iface 39 (.int .i64 1)]) ∧ Below V.heap.size V w') :
    Calls Try.prog 4 #[.int .i64 a, .int .i64 b, .int .i64 x, .int .i64 y] w fun e w' => e = .returned (.bool true) ∧ Below w.heap.size w w' := by
  go_enter Try.func4, Try.ntmps4
  go_wp2_with (fail)
  refine (new_in 90 7 _ (by decide) (by decide) (by decide) (by decide)).mono ?_
  rintro e w1 ⟨rfl, hb1⟩
  have P1 := Pol.made w1 90 7
  have h1 : Below w.heap.size w (w1.alloc (.cells #[.int .i64 90, .int .i64 7] 25)) := hb1.alloc hb1.size _
  go_wp2_with (fail)
  refine (hN1 _).mono ?_
  rintro e w2 ⟨rfl, hb2⟩
  have P2 := P1.below hb2
  have h2 := below_chain h1 hb2
  have hp : w.heap.size ≤ w1.heap.size := hb1.size
  obtain ⟨p, hpq⟩ : ∃ p, w1.heap.size = p := ⟨_, rfl⟩
  rw [hpq] at P2 hp ⊢
  clear P1 h1 hb1 hb2 hpq
  obtain ⟨c0, c1, f0, f1⟩ := P2
  have P3 := Pol.set ⟨c0, c1, f0, f1⟩ s1 m1
  have h3 : Below w.heap.size w ((w2.setCell ⟨p, 0, none⟩ (.int .i64 s1)).setCell ⟨p, 1, none⟩ (.int .i64 m1)) := (h2.setCell hp _).setCell hp _
  have hl : p < w2.heap.size := World.block_lt_of_cell? w2 _ c0
  go_wp2_with (fail)
  refine (hN2 _).mono ?_
  rintro e w3 ⟨rfl, hb3⟩
  have P4 := P3.below hb3
  have h4 := below_chain h3 hb3
  clear c0 c1 f0 f1 P3 h3 hb3 hl
  have h5 : Below w.heap.size w (w3.alloc (.cells #[.int .i64 s2, .int .i64 m2] 25)) := h4.alloc h4.size _
  have hlp : p < w3.heap.size := P4.lt
  obtain ⟨c0, c1, f0, f1⟩ := P4
  go_wp2_with (fail)
  go_ret
  exact ⟨rfl, h5⟩
theorem walk (a b x y : Int) (w : World) :
    Calls Try.prog 4 #[.int .i64 a, .int .i64 b, .int .i64 x, .int .i64 y] w fun e w' => e = .returned (.bool true) ∧ Below w.heap.size w w' := by
  by_cases h1 : a < 40 ∨ 255 < a ∨ b < 1 ∨ 255 < b
  · by_cases h2 : x < 40 ∨ 255 < x ∨ y < 1 ∨ 255 < y
    · exact walk_out1 a b x y 0 0 0 0 _ w (fun V => new_out a b V h1) (fun V => new_out x y V h2)
    · exact walk_out1 a b x y 0 0 x y _ w (fun V => new_out a b V h1) (fun V => new_in x y V (by omega) (by omega) (by omega) (by omega))
  · by_cases h2 : x < 40 ∨ 255 < x ∨ y < 1 ∨ 255 < y
    · exact walk_out2 a b x y a b 0 0 w (fun V => new_in a b V (by omega) (by omega) (by omega) (by omega)) (fun V => new_out x y V h2)
    · by_cases hy : b = y
      · subst hy
        exact walk_no a b x w (by omega) (by omega) (by omega) (by omega) (by omega) (by omega)
      · exact walk_yes a b x y w (by omega) (by omega) (by omega) (by omega) (by omega) (by omega) (by omega) (by omega) hy
end topAgree
end Go.Proofs.Ytakckdeadchflab
