/-
  'PolicySays' returns true at all numbers and options, and changes nothing that was there.
-/
import Derived.Test.YtakckdeadchflaaRPolicyWalk
import Derived.Test.YtakckdeadchflaaSameOpt
import Derived.Test.YtakckdeadchflaaSame
import Derived.Deep.Cut
import Derived.Deep.DeepCutAuto
namespace Go.Proofs.Ytakckdeadchflaa
open Go.RowKit

theorem Pol.made (w : World) (t : TypeId) (s m : Int) : Pol (w.alloc (.cells #[.int .i64 s, .int .i64 m] t)) w.heap.size s m := by
  have hA := fun j => World.cell?_alloc_mark w #[.int .i64 s, .int .i64 m] t (0, 0) j
  have hF := fun j => World.frozen?_alloc_mark w #[.int .i64 s, .int .i64 m] t 0 0 j
  exact ⟨hA 0, hA 1, by rw [hF]; rfl, by rw [hF]; rfl⟩
theorem below_drew {w a : World} {B : Nat} (h : Below B w a) : Below B w a.drew := ⟨h.os, h.tape, h.output, h.size, h.block⟩
theorem Pol.drew {w : World} {B : Nat} {s m : Int} (h : Pol w B s m) : Pol w.drew B s m := ⟨h.c0, h.c1, h.f0, h.f1⟩
/-- Asks, its value written out. -/
theorem asks_at (a b : Int) (V : World) : Calls Try.prog 37 #[.agg #[.int .i64 a, .int .i64 b]] V fun e w' =>
    ∃ (sa : Option Addr) (sc : Nat), e = .returned (.slice sa (asksL a b).length sc) ∧ OptR w' sa (asksL a b).length (asksL a b) ∧ Below V.heap.size V w' := by
  refine (asks_any a b V).mono ?_
  rintro e w' ⟨v, rfl, hM⟩
  obtain ⟨sa, sc, rfl, sn, sl⟩ := hM.shape
  exact ⟨sa, sc, rfl, hM.opts.2, hM.below⟩
theorem rasks_at (a b : Int) (V : World) : Calls Try.prog 38 #[.agg #[.int .i64 a, .int .i64 b]] V fun e w' =>
    ∃ (sa : Option Addr) (sc : Nat), e = .returned (.slice sa (asksL a b).length sc) ∧ OptR w' sa (asksL a b).length (asksL a b) ∧ Below V.heap.size V w' := by
  refine (rasks_any a b V).mono ?_
  rintro e w' ⟨v, rfl, hM⟩
  obtain ⟨sa, sc, rfl, sn, sl⟩ := hM.shape
  exact ⟨sa, sc, rfl, hM.opts.2, hM.below⟩
theorem asksL_len (a b : Int) : (asksL a b).length ≤ 2 := by
  unfold asksL
  split <;> split <;> simp
theorem judge_len {mg : Int} {os jl : List Opt} {jc : Int} (h : judgeR mg os = (jc, jl)) (hn : os.length ≤ 1000000) : jl.length ≤ 1000000 := by
  have hb : ∀ l : List Opt, (betL mg l).length ≤ l.length := by
    intro l
    induction l with
    | nil => simp [betL]
    | cons o r ih =>
      have h1 : (bet1 mg o).length ≤ 1 := by
        unfold bet1
        split
        · simp
        · split <;> simp
      have h2 : betL mg (o :: r) = bet1 mg o ++ betL mg r := rfl
      rw [h2, List.length_append, List.length_cons]
      omega
  have hu : (unkL os).length ≤ os.length := List.length_filter_le _ _
  unfold judgeR at h
  split at h
  · simp only [Prod.mk.injEq] at h
    obtain ⟨_, rfl⟩ := h
    omega
  · split at h
    · simp only [Prod.mk.injEq] at h
      obtain ⟨_, rfl⟩ := h
      have := hb os
      omega
    · simp only [Prod.mk.injEq] at h
      obtain ⟨_, rfl⟩ := h
      omega
theorem cells4 {x : World} {a b c d : Nat} {p q r t u v y z : Int} (h1 : Pol x a p q) (h2 : Pol x b r t) (h3 : Pol x c u v) (h4 : Pol x d y z) :
    x.cell? ⟨a, 0, none⟩ = some (.int .i64 p) ∧ x.cell? ⟨a, 1, none⟩ = some (.int .i64 q) ∧ x.cell? ⟨b, 0, none⟩ = some (.int .i64 r) ∧ x.cell? ⟨b, 1, none⟩ = some (.int .i64 t) ∧ x.cell? ⟨c, 0, none⟩ = some (.int .i64 u) ∧ x.cell? ⟨c, 1, none⟩ = some (.int .i64 v) ∧ x.cell? ⟨d, 0, none⟩ = some (.int .i64 y) ∧ x.cell? ⟨d, 1, none⟩ = some (.int .i64 z) :=
  ⟨h1.c0, h1.c1, h2.c0, h2.c1, h3.c0, h3.c1, h4.c0, h4.c1⟩
namespace policySays

set_option maxRecDepth 100000 in
set_option maxHeartbeats 2000000 in
theorem policies_true (w : World) : Calls Try.prog 30 #[] w fun e w' => e = .returned (.bool true) ∧ Below w.heap.size w w' := by
  have ha := fun V => asks_at 100 7 V
  have e2 : asksL 100 7 = [(1, 100), (5, 7)] := by decide +kernel
  rw [e2] at ha
  go_enter Try.func30, Try.ntmps30
  go_wp2_with (fail)
  refine (new_in 100 7 _ (by decide) (by decide) (by decide) (by decide)).mono ?_
  rintro e w1 ⟨rfl, hb1⟩
  have P1 := Pol.made w1 65 100 7
  have h1 : Below w.heap.size w (w1.alloc (.cells #[.int .i64 100, .int .i64 7] 65)) := hb1.alloc hb1.size _
  go_wp2_with (fail)
  refine (same_ok 0 _).mono ?_
  rintro e w2 ⟨rfl, rfl⟩
  go_wp2_with (fail)
  refine (ha _).mono ?_
  rintro e w3 ⟨sa, sc, rfl, so, k3⟩
  have h3 := below_chain h1 k3
  have so2 := so.below (below_alloc w3 (.cells #[.int .i64 1, .int .i64 100, .int .i64 5, .int .i64 7] 82))
  have hlit : OptR (w3.alloc (.cells #[.int .i64 1, .int .i64 100, .int .i64 5, .int .i64 7] 82)) (some ⟨w3.heap.size, 0, none⟩) 2 [(1, 100), (5, 7)] :=
    (Row.made w3 2 82 #[.int .i64 1, .int .i64 100, .int .i64 5, .int .i64 7] (0, 0) 2 2 (optCells [(1, 100), (5, 7)]) rfl rfl (Nat.le_refl _) (by decide) (.inl rfl) (by intro j u hu; simpa [optCells] using hu)).opts
  have h4 := h3.alloc h3.size (.cells #[.int .i64 1, .int .i64 100, .int .i64 5, .int .i64 7] 82)
  go_wp2_with (fail)
  refine (sameOptions_any sa _ sc 2 2 2 _ _ _ so2 hlit (by decide) (by decide)).mono ?_
  rintro e w5 ⟨rfl, m5, rfl⟩
  go_wp2_with (fail)
  go_ret
  exact ⟨by simp, below_drewN h4 _⟩

/-- Two cells, in a later world. -/
theorem pol_keep {w0 w1 : World} {B : Nat} {s m : Int} (P : Pol w0 B s m) (hb : Below w0.heap.size w0 w1) : w1.cell? ⟨B, 0, none⟩ = some (.int .i64 s) ∧ w1.cell? ⟨B, 1, none⟩ = some (.int .i64 m) ∧ B < w1.heap.size :=
  ⟨(P.below hb).c0, (P.below hb).c1, (P.below hb).lt⟩

set_option maxRecDepth 100000 in
set_option maxHeartbeats 8000000 in
theorem walk_gen (size magic ps pm code s1 m1 : Int) (f : Nat) (a : Option Addr) (n cap : Nat) (os : List Opt) (w : World) (ho : OptR w a n os) (hcap : NilOk a cap) (hn : n ≤ maxLen)
    (hN : ∀ V : World, Calls Try.prog 31 #[.int .i64 size, .int .i64 magic] V fun e w' => e = .returned (.tuple #[.agg #[.int .i64 s1, .int .i64 m1], errV f]) ∧ Below V.heap.size V w')
    (hcase : (f = 0 ∧ s1 = size ∧ m1 = magic ∧ ¬ size < 40 ∧ ¬ 255 < size ∧ ¬ magic < 1 ∧ ¬ 255 < magic) ∨ (f = 1 ∧ s1 = 0 ∧ m1 = 0 ∧ (size < 40 ∨ 255 < size ∨ magic < 1 ∨ 255 < magic))) :
    Calls Try.prog 9 #[.int .i64 size, .int .i64 magic, .agg #[.int .i64 ps, .int .i64 pm], .slice a n cap, .int .i64 code] w fun e w' => e = .returned (.bool true) ∧ Below w.heap.size w w' := by
  have hz := zeroPol
  have hn' : n ≤ 9223372036854775807 := by unfold maxLen at hn; omega
  have hw0 : Below w.heap.size w (w.alloc (.cells #[.int .i64 ps, .int .i64 pm] 65)) := below_alloc _ _
  have P0 := Pol.made w 65 ps pm
  go_enter Try.func9, Try.ntmps9
  go_wp2_with (fail)
  refine (policies_true _).mono ?_
  rintro e w1 ⟨rfl, hb1⟩
  have P1 := P0.below hb1
  have h1 := below_chain hw0 hb1
  by_cases h12 : (12 : Int) < (n : Int)
  · go_wp2_with (fail)
    go_ret
    exact ⟨rfl, h1⟩
  · go_wp2_with (fail)
    refine (hN _).mono ?_
    rintro e w2 ⟨rfl, hb2⟩
    have P2 := P1.below hb2
    have h2 := below_chain h1 hb2
    have X2 := Pol.made w2 65 s1 m1
    have P3 := P2.below (below_alloc w2 (.cells #[.int .i64 s1, .int .i64 m1] 65))
    have h3 : Below w.heap.size w (w2.alloc (.cells #[.int .i64 s1, .int .i64 m1] 65)) := h2.alloc h2.size _
    clear hN hb2 hb1 P0 P1 hw0
    go_upto_region 6 with (fail)
    go_cut [50] (fun s50 wx => s50 = .bool (decide (f = 1)) ∧ wx = w2.alloc (.cells #[.int .i64 s1, .int .i64 m1] 65))
    case first =>
      rcases hcase with ⟨rfl, -, -, y1, y2, y3, y4⟩ | ⟨rfl, -, -, hy⟩
      · go_wp2_with (fail)
        go_meet
        exact ⟨by congr 1; simp; omega, rfl⟩
      · have main : ∀ (Q : Prop), (size < 40 → Q) → (¬ size < 40 → 255 < size → Q) → (¬ size < 40 → ¬ 255 < size → magic < 1 → Q) → (¬ size < 40 → ¬ 255 < size → ¬ magic < 1 → 255 < magic → Q) → Q := by
          intro Q a b c d
          by_cases h1 : size < 40
          · exact a h1
          · by_cases h2 : 255 < size
            · exact b h1 h2
            · by_cases h3 : magic < 1
              · exact c h1 h2 h3
              · exact d h1 h2 h3 (by omega)
        clear hy
        refine main _ ?_ ?_ ?_ ?_ <;> clear main
        all_goals
          intros
          go_wp2_with (fail)
          go_meet
          exact ⟨rfl, rfl⟩
    case rest =>
      obtain ⟨rfl, rfl⟩ := hcut
      obtain ⟨bx, hbx⟩ : ∃ bx, w2.heap.size = bx := ⟨_, rfl⟩
      obtain ⟨W3, hW3⟩ : ∃ W3, w2.alloc (.cells #[.int .i64 s1, .int .i64 m1] 65) = W3 := ⟨_, rfl⟩
      rw [hW3, hbx] at X2 ⊢
      rw [hW3] at P3 h3
      clear hW3 hbx P2 h2
      obtain ⟨c0, c1, cl⟩ := And.intro P3.c0 (And.intro P3.c1 P3.lt)
      go_upto_if 50 with (fail)
      go_cut [14] (fun s14 wx => s14 = .int .i64 (f : Int) ∧ W3 = wx)
      case first =>
        rcases hcase with ⟨rfl, -, -, -⟩ | ⟨rfl, -, -, -⟩
        · have ed : (decide ((0 : Nat) = 1)) = false := rfl
          rw [ed]
          go_wp2_with (fail)
          go_meet
          exact ⟨rfl, rfl⟩
        · have ed : (decide ((1 : Nat) = 1)) = true := rfl
          rw [ed]
          go_wp2_with (fail)
          go_meet
          exact ⟨rfl, rfl⟩
      case rest =>
      obtain ⟨rfl, rfl⟩ := hcut
      obtain ⟨x0, x1, xl⟩ := And.intro X2.c0 (And.intro X2.c1 X2.lt)
      go_upto_region 8 with (fail)
      go_cut [79] (fun s79 wx => s79 = .bool false ∧ W3 = wx)
      case first =>
        rcases hcase with ⟨rfl, rfl, rfl, -⟩ | ⟨rfl, rfl, rfl, -⟩
        · have n1 : (s1 != s1) = false := by simp
          have n2 : (m1 != m1) = false := by simp
          go_wp2_with (fail)
          refine (same_ok 0 _).mono ?_
          rintro e w4 ⟨rfl, rfl⟩
          go_wp2_with (fail)
          go_meet
          exact ⟨rfl, rfl⟩
        · go_wp2_with (fail)
          refine (same_ok 1 _).mono ?_
          rintro e w4 ⟨rfl, rfl⟩
          go_wp2_with (fail)
          go_meet
          exact ⟨rfl, rfl⟩
      case rest =>
      obtain ⟨rfl, rfl⟩ := hcut
      clear x0 x1 xl X2 hcase
      by_cases z1 : ps < 0
      · go_wp2_with (fail)
        go_ret
        exact ⟨rfl, h3⟩
      · by_cases z2 : 255 < ps
        · go_wp2_with (fail)
          go_ret
          exact ⟨rfl, h3⟩
        · by_cases z3 : pm < 0
          · go_wp2_with (fail)
            go_ret
            exact ⟨rfl, h3⟩
          · by_cases z4 : 255 < pm
            · go_wp2_with (fail)
              go_ret
              exact ⟨rfl, h3⟩
            · have hM := fun V h => judge_any ps pm a n cap os V (by omega) (by omega) (by omega) hcap h
              have hR := fun V h => rjudge_any ps pm a n cap os V (by omega) (by omega) (by omega) h
              have hT := fun V h => told_any ps pm code a n cap os V (by omega) h
              have hU := fun V h => rtold_any ps pm code a n cap os V (by omega) h
              obtain ⟨jc, jl, hj⟩ : ∃ jc jl, judgeR pm os = (jc, jl) := ⟨_, _, rfl⟩
              have hjn : jl.length ≤ 1000000 := judge_len hj (by rw [ho.1]; omega)
              obtain ⟨ts, tm, ht⟩ : ∃ ts tm, toldR code os (ps, pm) = (ts, tm) := ⟨_, _, rfl⟩
              rw [hj] at hM hR
              rw [ht] at hT hU
              clear hj ht
              go_wp2_with (fail)
              have M4 := Pol.made W3 68 ps pm
              have k4 := below_alloc W3 (.cells #[.int .i64 ps, .int .i64 pm] 68)
              have P4 := P3.below k4
              have h4 := below_chain h3 k4
              refine (hM _ (ho.below h4)).mono ?_
              rintro e w5 ⟨v5, rfl, M5⟩
              obtain ⟨a5, cp5, rfl, _, _⟩ := M5.shape
              have o5 : OptR w5 a5 jl.length jl := M5.opts.2
              have k5 := M5.below
              have N5 := M4.below k5
              have P5 := P4.below k5
              have h5 := below_chain h4 k5
              clear M5 k5 M4 P4 k4 h4 hM
              obtain ⟨u0, u1, u2⟩ := And.intro N5.c0 (And.intro N5.c1 N5.lt)
              obtain ⟨v0, v1, v2⟩ := And.intro P5.c0 (And.intro P5.c1 P5.lt)
              go_wp2_with (fail)
              refine (hR _ (ho.below h5)).mono ?_
              rintro e w6 ⟨a6, n6, cp6, rfl, o6, k6⟩
              have hn6 : n6 = jl.length := o6.1.symm
              subst hn6
              have N6 := N5.below k6
              have P6 := P5.below k6
              have h6 := below_chain h5 k6
              have o56 := o5.below k6
              clear u0 u1 u2 v0 v1 v2 N5 P5 h5 o5 k6 hR
              obtain ⟨u0, u1, u2⟩ := And.intro N6.c0 (And.intro N6.c1 N6.lt)
              obtain ⟨v0, v1, v2⟩ := And.intro P6.c0 (And.intro P6.c1 P6.lt)
              go_wp2_with (fail)
              refine (hT _ (ho.below h6)).mono ?_
              rintro e w7 ⟨rfl, k7⟩
              have T8 := Pol.made w7 65 ts tm
              have k8 := below_chain k7 (below_alloc w7 (.cells #[.int .i64 ts, .int .i64 tm] 65))
              have N8 := N6.below k8
              have P8 := P6.below k8
              have h8 := below_chain h6 k8
              have o58 := o56.below k8
              have o68 := o6.below k8
              have N7 := N6.below k7
              clear u0 u1 u2 v0 v1 v2 N6 P6 h6 o56 o6 k8 hT
              obtain ⟨u0, u1, u2⟩ := And.intro N7.c0 (And.intro N7.c1 N7.lt)
              go_wp2_with (fail)
              obtain ⟨bt, hbt⟩ : ∃ bt, w7.heap.size = bt := ⟨_, rfl⟩
              refine (hU _ (ho.below h8)).mono ?_
              rintro e w9 ⟨rfl, k9⟩
              have U10 := Pol.made w9 68 ts tm
              have k10 := below_chain k9 (below_alloc w9 (.cells #[.int .i64 ts, .int .i64 tm] 68))
              have N10 := N8.below k10
              have P10 := P8.below k10
              have T10 := T8.below k10
              have h10 := below_chain h8 k10
              have o510 := o58.below k10
              have o610 := o68.below k10
              rw [hbt] at T10
              clear N8 P8 T8 h8 o58 o68 k10 hU u0 u1 u2 N7 k7 k9
              go_wp2_with (fail)
              obtain ⟨bu, hbu⟩ : ∃ bu, w9.heap.size = bu := ⟨_, rfl⟩
              obtain ⟨X, hX⟩ : ∃ X, w9.alloc (.cells #[.int .i64 ts, .int .i64 tm] 68) = X := ⟨_, rfl⟩
              rw [hX, hbu] at U10 ⊢
              rw [hX] at N10 P10 T10 h10 o510 o610
              obtain ⟨bm, hbm⟩ : ∃ bm, W3.heap.size = bm := ⟨_, rfl⟩
              rw [hbm] at N10 ⊢
              clear hX hbu hbt hbm
              have hal := asksL_len ps pm
              have hjj : (jc == jc) = true := by simp
              have hts : (ts == ts) = true := by simp
              have htm : (tm == tm) = true := by simp
              have Nd : Pol X.drew bm ps pm := N10.drew
              have Td : Pol X.drew bt ts tm := T10.drew
              have Ud : Pol X.drew bu ts tm := U10.drew
              have Pd : Pol X.drew w.heap.size ps pm := P10.drew
              have F0 := cells4 Pd Nd Td Ud
              go_region_held3 (fun x => x.cell? ⟨w.heap.size, 0, none⟩ = some (.int .i64 ps) ∧ x.cell? ⟨w.heap.size, 1, none⟩ = some (.int .i64 pm) ∧ x.cell? ⟨bm, 0, none⟩ = some (.int .i64 ps) ∧ x.cell? ⟨bm, 1, none⟩ = some (.int .i64 pm) ∧ x.cell? ⟨bt, 0, none⟩ = some (.int .i64 ts) ∧ x.cell? ⟨bt, 1, none⟩ = some (.int .i64 tm) ∧ x.cell? ⟨bu, 0, none⟩ = some (.int .i64 ts) ∧ x.cell? ⟨bu, 1, none⟩ = some (.int .i64 tm))
                (first | assumption | exact F0 | exact F1 | exact F2)
                (first
                  | (go_at_call 37; refine (asks_at ps pm _).mono ?_; rintro e w11 ⟨sa, sc, rfl, so, k11⟩; have F1 := cells4 (Pd.below k11) (Nd.below k11) (Td.below k11) (Ud.below k11))
                  | (go_at_call 38; refine (rasks_at ps pm _).mono ?_; rintro e w12 ⟨ra, rc, rfl, ro, k12⟩; have k13 := below_chain k11 k12; have F2 := cells4 (Pd.below k13) (Nd.below k13) (Td.below k13) (Ud.below k13))
                  | (go_at_call_of 36 sa; refine (sameOptions_any sa ra sc rc _ _ _ _ w12 (so.below k12) ro (by omega) (by omega)).mono ?_; rintro e w14 ⟨rfl, m14, rfl⟩; simp only [decide_true])
                  | (go_at_call_of 36 a5; refine (sameOptions_any a5 a6 cp5 cp6 _ _ _ _ (w12.drewN m14) ((o510.below (show Below X.heap.size X w12 from below_chain (below_drew (Below.refl _ _)) k13)).drewN _) ((o610.below (show Below X.heap.size X w12 from below_chain (below_drew (Below.refl _ _)) k13)).drewN _) hjn hjn).mono ?_; rintro e w15 ⟨rfl, m15, rfl⟩; simp only [decide_true]))
              all_goals
                go_wp2_with (fail)
                go_ret
                refine ⟨by first | rfl | simp, ?_⟩
                first
                  | exact below_drewN (below_drewN (below_chain (below_drew h10) k13) _) _
                  | exact below_drewN (below_chain (below_drew h10) k13) _
theorem walk (size magic ps pm code : Int) (a : Option Addr) (n cap : Nat) (os : List Opt) (w : World) (ho : OptR w a n os) (hcap : NilOk a cap) (hn : n ≤ maxLen) :
    Calls Try.prog 9 #[.int .i64 size, .int .i64 magic, .agg #[.int .i64 ps, .int .i64 pm], .slice a n cap, .int .i64 code] w fun e w' => e = .returned (.bool true) ∧ Below w.heap.size w w' := by
  by_cases h : size < 40 ∨ 255 < size ∨ magic < 1 ∨ 255 < magic
  · exact walk_gen size magic ps pm code 0 0 1 a n cap os w ho hcap hn (fun V => new_out size magic V h) (.inr ⟨rfl, rfl, rfl, h⟩)
  · exact walk_gen size magic ps pm code size magic 0 a n cap os w ho hcap hn (fun V => new_in size magic V (by omega) (by omega) (by omega) (by omega)) (.inl ⟨rfl, rfl, rfl, by omega, by omega, by omega, by omega⟩)
end policySays
end Go.Proofs.Ytakckdeadchflaa
