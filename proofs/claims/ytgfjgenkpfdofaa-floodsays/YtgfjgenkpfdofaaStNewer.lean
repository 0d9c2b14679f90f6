/-
  Which state is newer: the program's Newer, by cmp.Compare, cmp.Or and slices.CompareFunc.
-/
import Derived.Test.YtgfjgenkpfdofaaStCheck
namespace Go.Proofs.Ytgfjgenkpfdofaa
open Go.RowKit St

set_option maxRecDepth 100000 in
theorem nan_any (a : Int) (w : World) : Calls Try.prog 48 #[.int .i64 a] w fun e w' => e = .returned (.bool false) ∧ w = w' := by
  have h : (a != a) = false := by simp
  go_enter Try.func48, Try.ntmps48
  go_wp2
  go_ret
  exact ⟨rfl, rfl⟩
set_option maxRecDepth 100000 in
theorem compare_any (a b : Int) (w : World) : Calls Try.prog 41 #[.int .i64 a, .int .i64 b] w fun e w' => e = .returned (.int .i64 (cmpI a b)) ∧ w = w' := by
  by_cases h1 : a < b
  · have hv : cmpI a b = -1 := by simp [cmpI, h1]
    rw [hv]
    clear hv
    go_enter Try.func41, Try.ntmps41
    go_wp2_with (go_at_call 48; refine (nan_any _ _).mono ?_; rintro e w1 ⟨rfl, rfl⟩)
    go_ret
    exact ⟨rfl, rfl⟩
  · by_cases h2 : b < a
    · have hv : cmpI a b = 1 := by simp [cmpI, h1, h2]
      rw [hv]
      clear hv
      go_enter Try.func41, Try.ntmps41
      go_wp2_with (go_at_call 48; refine (nan_any _ _).mono ?_; rintro e w1 ⟨rfl, rfl⟩)
      go_ret
      exact ⟨rfl, rfl⟩
    · have hv : cmpI a b = 0 := by simp [cmpI, h1, h2]
      rw [hv]
      clear hv
      go_enter Try.func41, Try.ntmps41
      go_wp2_with (go_at_call 48; refine (nan_any _ _).mono ?_; rintro e w1 ⟨rfl, rfl⟩)
      go_ret
      exact ⟨rfl, rfl⟩

set_option maxRecDepth 100000 in
theorem or_any (g cap : Nat) (x y : Int) (w : World) (h0 : w.cell? ⟨g, 0, none⟩ = some (.int .i64 x)) (h1 : w.cell? ⟨g, 1, none⟩ = some (.int .i64 y)) :
    Calls Try.prog 45 #[.slice (some ⟨g, 0, none⟩) 2 cap] w fun e w' => e = .returned (.int .i64 (if x ≠ 0 then x else y)) ∧ w = w' := by
  have hg : g < w.heap.size := World.block_lt_of_cell? w _ h0
  cases q : (x != 0)
  · have hx : x = 0 := by simpa using q
    cases q2 : (y != 0)
    · have hy : y = 0 := by simpa using q2
      have hv : (if x ≠ 0 then x else y) = 0 := by simp [hx, hy]
      rw [hv]
      clear hv hx hy
      go_enter Try.func45, Try.ntmps45
      go_wp2_with (fail)
      refine wp_loop_rounds 3 ?_
      rw [rounds_succ]
      go_wp2_with (fail)
      rw [rounds_succ]
      go_wp2_with (fail)
      rw [rounds_succ]
      go_wp2_with (fail)
      go_ret
      exact ⟨rfl, rfl⟩
    · have hv : (if x ≠ 0 then x else y) = y := by simp [hx]
      rw [hv]
      clear hv hx
      go_enter Try.func45, Try.ntmps45
      go_wp2_with (fail)
      refine wp_loop_rounds 3 ?_
      rw [rounds_succ]
      go_wp2_with (fail)
      rw [rounds_succ]
      go_wp2_with (fail)
      go_ret
      exact ⟨rfl, rfl⟩
  · have hx : ¬ x = 0 := by simpa using q
    have hv : (if x ≠ 0 then x else y) = x := by simp [hx]
    rw [hv]
    clear hv hx
    go_enter Try.func45, Try.ntmps45
    go_wp2_with (fail)
    refine wp_loop_rounds 3 ?_
    rw [rounds_succ]
    go_wp2_with (fail)
    go_ret
    exact ⟨rfl, rfl⟩

theorem two_new (W : World) (x y : Value) (t : TypeId) (g : Nat) (hg : W.heap.size = g) : (W.alloc (.cells #[x, y] t)).drew.cell? ⟨g, 0, none⟩ = some x ∧ (W.alloc (.cells #[x, y] t)).drew.cell? ⟨g, 1, none⟩ = some y := by
  subst hg
  exact ⟨World.cell?_alloc_mark W #[x, y] t (0, 0) 0, World.cell?_alloc_mark W #[x, y] t (0, 0) 1⟩
set_option maxRecDepth 100000 in
set_option maxHeartbeats 2000000 in
theorem edge_any (a b c d : Int) (w : World) : Calls Try.prog 44 #[.agg #[.int .i64 a, .int .i64 b], .agg #[.int .i64 c, .int .i64 d]] w fun e w' => e = .returned (.int .i64 (cmpE (a, b) (c, d))) ∧ Below w.heap.size w w' := by
  have hw0 : Below w.heap.size w ((w.alloc (.cells #[.int .i64 a, .int .i64 b] 78)).alloc (.cells #[.int .i64 c, .int .i64 d] 78)) := (below_alloc _ _).alloc (by simp) _
  obtain ⟨p, hp⟩ : ∃ p, cmpI a c = p := ⟨_, rfl⟩
  obtain ⟨q, hq⟩ : ∃ q, cmpI b d = q := ⟨_, rfl⟩
  have hv : cmpE (a, b) (c, d) = if p ≠ 0 then p else q := by simp [cmpE, hp, hq]
  have h3 := fun (g cap : Nat) (W : World) h0 h1 => or_any g cap p q W h0 h1
  rw [hv]
  generalize (if p ≠ 0 then p else q) = r at h3
  have H3 : Hid _ := h3
  clear h3
  have h1 := fun W => compare_any a c W
  have h2 := fun W => compare_any b d W
  rw [hp] at h1
  rw [hq] at h2
  clear hv hp hq
  go_enter Try.func44, Try.ntmps44
  go_wp2_with (fail)
  obtain ⟨W0, hW0⟩ : ∃ W0, (w.alloc (.cells #[.int .i64 a, .int .i64 b] 78)).alloc (.cells #[.int .i64 c, .int .i64 d] 78) = W0 := ⟨_, rfl⟩
  have hs : W0.heap.size = w.heap.size + 1 + 1 := by rw [← hW0]; simp
  have x0 : W0.cell? ⟨w.heap.size, 0, none⟩ = some (.int .i64 a) := by rw [← hW0]; exact ((below_alloc _ _).cell (p := ⟨w.heap.size, 0, none⟩) (by simp)).trans (World.cell?_alloc_mark w #[.int .i64 a, .int .i64 b] 78 (0, 0) 0)
  have x1 : W0.cell? ⟨w.heap.size, 1, none⟩ = some (.int .i64 b) := by rw [← hW0]; exact ((below_alloc _ _).cell (p := ⟨w.heap.size, 1, none⟩) (by simp)).trans (World.cell?_alloc_mark w #[.int .i64 a, .int .i64 b] 78 (0, 0) 1)
  have y0 : W0.cell? ⟨w.heap.size + 1, 0, none⟩ = some (.int .i64 c) := by rw [← hW0]; simp
  have y1 : W0.cell? ⟨w.heap.size + 1, 1, none⟩ = some (.int .i64 d) := by rw [← hW0]; simp
  have xl : w.heap.size < W0.heap.size := World.block_lt_of_cell? W0 _ x0
  have yl : w.heap.size + 1 < W0.heap.size := World.block_lt_of_cell? W0 _ y0
  rw [hW0] at hw0 ⊢
  have HS : Hid _ := hs
  clear hW0 hs
  obtain ⟨X, hX⟩ : ∃ X, w.heap.size = X := ⟨_, rfl⟩
  have HX : Hid _ := hX
  rw [hX] at x0 x1 y0 y1 xl yl ⊢
  clear hX
  have F0 : W0.drew.cell? ⟨X, 0, none⟩ = some (.int .i64 a) ∧ W0.drew.cell? ⟨X, 1, none⟩ = some (.int .i64 b) ∧ W0.drew.cell? ⟨X + 1, 0, none⟩ = some (.int .i64 c) ∧ W0.drew.cell? ⟨X + 1, 1, none⟩ = some (.int .i64 d) := ⟨x0, x1, y0, y1⟩
  go_region_held3 (fun x => x.cell? ⟨X, 0, none⟩ = some (.int .i64 a) ∧ x.cell? ⟨X, 1, none⟩ = some (.int .i64 b) ∧ x.cell? ⟨X + 1, 0, none⟩ = some (.int .i64 c) ∧ x.cell? ⟨X + 1, 1, none⟩ = some (.int .i64 d))
    (first | assumption | exact F0 | go_keep)
    (first
      | (go_at_call_of 41 a; refine (h1 _).mono ?_; rintro e w1 ⟨rfl, rfl⟩)
      | (go_at_call_of 41 b; refine (h2 _).mono ?_; rintro e w1 ⟨rfl, rfl⟩)
      | (go_at_call 45; refine (H3.out _ _ _ (two_new _ _ _ _ _ (by rfl)).1 (two_new _ _ _ _ _ (by rfl)).2).mono ?_; rintro e w1 ⟨rfl, rfl⟩))
  all_goals
    go_wp2_with (fail)
    go_ret
    exact ⟨rfl, below_drewN (hw0.alloc hw0.size _) 1⟩

set_option maxRecDepth 100000 in
set_option maxHeartbeats 2000000 in
theorem compareFunc_any (a b : Option Addr) (n m ca cb : Nat) (es fs : List Opt) (w : World) (ha : OptR w a n es) (hb : OptR w b m fs) (hn : n ≤ 1000000) :
    Calls Try.prog 43 #[.slice a n ca, .slice b m cb, .func (.func 44) #[] #[]] w fun e w' => e = .returned (.int .i64 (newE es fs)) ∧ Below w.heap.size w w' := by
  have hla := ha.1
  have hlb := hb.1
  go_enter Try.func43, Try.ntmps43
  go_wp2_with (fail)
  go_loopw [13] (fun i wr => ∃ k : Nat, k ≤ n ∧ k ≤ m ∧ i = .int .i64 k ∧ newE es fs = newE (es.drop k) (fs.drop k) ∧ Below w.heap.size w wr) (fun i _ => n - (intOf i).toNat)
  case atStart => exact ⟨0, Nat.zero_le _, Nat.zero_le _, rfl, rfl, Below.refl _ _⟩
  case round =>
    obtain ⟨k, hk, hkm, rfl, hF0, hbel⟩ := hrel
    have HF : Hid _ := hF0
    clear hF0
    by_cases hlt : k < n
    · have hlt' : (k : Int) < (n : Int) := by omega
      rcases (ha.below hbel).2 with h0 | ⟨b1, o1, rfl, hA⟩
      · omega
      obtain ⟨c1, c2⟩ := hA k (by omega)
      have H1 : Hid (es.drop k = es[k]'(by omega) :: es.drop (k + 1)) := List.drop_eq_getElem_cons (by omega)
      generalize es[k]'(by omega) = o at c1 c2 H1
      clear hA
      have hb1 := hbel.alloc hbel.size (.cells #[.int .i64 o.1, .int .i64 o.2] 78)
      by_cases hlm : k < m
      · have hlm' : ¬ (m : Int) ≤ (k : Int) := by omega
        have hkm2 : (k : Int) < (m : Int) := by omega
        rcases (hb.below hb1).2 with h0 | ⟨b2, o2, rfl, hB⟩
        · omega
        obtain ⟨c3, c4⟩ := hB k (by omega)
        have H2 : Hid (fs.drop k = fs[k]'(by omega) :: fs.drop (k + 1)) := List.drop_eq_getElem_cons (by omega)
        generalize fs[k]'(by omega) = q at c3 c4 H2
        clear hB
        have hb2 := hb1.alloc hb1.size (.cells #[.int .i64 q.1, .int .i64 q.2] 78)
        have hc := fun W => edge_any o.1 o.2 q.1 q.2 W
        have HS : Hid (newE es fs = if cmpE (o.1, o.2) (q.1, q.2) ≠ 0 then cmpE (o.1, o.2) (q.1, q.2) else newE (es.drop (k + 1)) (fs.drop (k + 1))) := by
          show _ = _
          rw [HF.out, H1.out, H2.out, newE]
        generalize cmpE (o.1, o.2) (q.1, q.2) = r at hc HS
        cases hr : (r != 0)
        · have HS2 : Hid (newE es fs = newE (es.drop (k + 1)) (fs.drop (k + 1))) := by
            show _ = _
            have hr0 : r = 0 := by simpa using hr
            rw [HS.out, hr0]
            simp
          go_wp2_with (fail)
          refine (hc _).mono ?_
          rintro e w1 ⟨rfl, k1⟩
          have hb3 := below_chain hb2 k1
          clear hc
          go_wp2_with (fail)
          go_roundw
          case rel => exact ⟨k + 1, by omega, by omega, by go_num, HS2.out, hb3⟩
          case measure => simp [intOf]; omega
        · have HS2 : Hid (newE es fs = r) := by
            show _ = _
            have hr0 : ¬ r = 0 := by simpa using hr
            rw [HS.out, if_pos hr0]
          go_wp2_with (fail)
          refine (hc _).mono ?_
          rintro e w1 ⟨rfl, k1⟩
          have hb3 := below_chain hb2 k1
          clear hc
          go_wp2_with (fail)
          rw [HS2.out]
          go_ret
          exact ⟨rfl, hb3⟩
      · have hlm' : (m : Int) ≤ (k : Int) := by omega
        have HS : Hid (newE es fs = 1) := by
          show _ = _
          rw [HF.out, H1.out, List.drop_eq_nil_of_le (show fs.length ≤ k by omega), newE]
        go_wp2_with (fail)
        rw [HS.out]
        go_ret
        exact ⟨rfl, hb1⟩
    · have hge : ¬ (k : Int) < (n : Int) := by omega
      have H1 : es.drop k = [] := List.drop_eq_nil_of_le (by omega)
      by_cases hnm : (n : Int) < (m : Int)
      · have HS : Hid (newE es fs = -1) := by
          show _ = _
          rw [HF.out, H1, List.drop_eq_getElem_cons (show k < fs.length by omega), newE]
        clear H1
        go_wp2_with (fail)
        rw [HS.out]
        go_ret
        exact ⟨rfl, hbel⟩
      · have HS : Hid (newE es fs = 0) := by
          show _ = _
          rw [HF.out, H1, List.drop_eq_nil_of_le (show fs.length ≤ k by omega), newE]
        clear H1
        go_wp2_with (fail)
        rw [HS.out]
        go_ret
        exact ⟨rfl, hbel⟩

set_option maxRecDepth 100000 in
set_option maxHeartbeats 2000000 in
theorem newer_any (o1 s1 o2 s2 : Int) (a b : Option Addr) (n m ca cb : Nat) (es fs : List Opt) (w : World) (ha : OptR w a n es) (hb : OptR w b m fs) (hn : n ≤ 1000000) :
    Calls Try.prog 38 #[.agg #[.int .i64 o1, .int .i64 s1, .slice a n ca], .agg #[.int .i64 o2, .int .i64 s2, .slice b m cb]] w fun e w' => e = .returned (.int .i64 (newS s1 es s2 fs)) ∧ Below w.heap.size w w' := by
  have hw0 : Below w.heap.size w ((w.alloc (.cells #[.int .i64 o1, .int .i64 s1, .slice a n ca] 35)).alloc (.cells #[.int .i64 o2, .int .i64 s2, .slice b m cb] 35)) := (below_alloc _ _).alloc (by simp) _
  have h1 := compare_any s1 s2 ((w.alloc (.cells #[.int .i64 o1, .int .i64 s1, .slice a n ca] 35)).alloc (.cells #[.int .i64 o2, .int .i64 s2, .slice b m cb] 35))
  have h2 := compareFunc_any a b n m ca cb es fs _ (ha.below hw0) (hb.below hw0) hn
  have hv : newS s1 es s2 fs = if cmpI s1 s2 ≠ 0 then cmpI s1 s2 else newE es fs := rfl
  rw [hv]
  clear hv
  generalize newE es fs = q at h2
  generalize cmpI s1 s2 = r at h1
  cases hr : (r != 0)
  · have hr0 : (if r ≠ 0 then r else q) = q := by simp at hr; simp [hr]
    rw [hr0]
    clear hr0
    go_enter Try.func38, Try.ntmps38
    go_wp2_with (fail)
    refine h1.mono ?_
    rintro e w1 ⟨rfl, rfl⟩
    clear h1
    go_wp2_with (fail)
    refine h2.mono ?_
    rintro e w2 ⟨rfl, k2⟩
    clear h2
    go_wp2_with (fail)
    go_ret
    exact ⟨rfl, below_chain hw0 k2⟩
  · have hr0 : (if r ≠ 0 then r else q) = r := by simp at hr; simp [hr]
    rw [hr0]
    clear hr0 h2
    go_enter Try.func38, Try.ntmps38
    go_wp2_with (fail)
    refine h1.mono ?_
    rintro e w1 ⟨rfl, rfl⟩
    clear h1
    go_wp2_with (fail)
    go_ret
    exact ⟨rfl, hw0⟩
end Go.Proofs.Ytgfjgenkpfdofaa
