/-
  'StateSays' returns true at every two states and every text, and changes nothing that was there.
-/
import Derived.Test.YtjchmcclmbmggabStSays1
import Derived.Test.YtjchmcclmbmggabStSays2
namespace Go.Proofs.Ytjchmcclmbmggab
open Go.RowKit St
namespace stateSays


set_option maxRecDepth 100000 in
set_option maxHeartbeats 8000000 in
theorem walk (o1 s1 : Int) (a : Option Addr) (n ca : Nat) (es : List Opt) (o2 s2 : Int) (b : Option Addr) (m cb : Nat) (fs : List Opt) (s : ByteArray) (w : World) (ha : OptR w a n es) (hna : NilOk a ca) (hn : n ≤ maxLen) (hb : OptR w b m fs) (hm : m ≤ maxLen) (hs : s.size ≤ maxLen) :
    Calls Try.prog 6 #[.agg #[.int .i64 o1, .int .i64 s1, .slice a n ca], .agg #[.int .i64 o2, .int .i64 s2, .slice b m cb], .string s] w fun e w' => e = .returned (.bool true) ∧ Below w.heap.size w w' := by
  by_cases hl : s.size ≤ 60 ∧ n ≤ 9 ∧ m ≤ 9
  · obtain ⟨l1, l2, l3⟩ := hl
    have hle := stF_le o1 s1 es
    rcases (show stF o1 s1 es = 0 ∨ stF o1 s1 es = 1 ∨ stF o1 s1 es = 2 ∨ stF o1 s1 es = 3 by omega) with hk | hk | hk | hk
    · have hle2 := stF_le o2 s2 fs
      rcases (show stF o2 s2 fs = 0 ∨ stF o2 s2 fs = 1 ∨ stF o2 s2 fs = 2 ∨ stF o2 s2 fs = 3 by omega) with hg | hg | hg | hg
      · exact walk_0_good o1 s1 a n ca es o2 s2 b m cb fs s w ha hna hn hb hm l1 l2 l3 hk hg
      · exact walk_0_1 o1 s1 a n ca es o2 s2 b m cb fs s w ha hna hn hb hm l1 l2 l3 hk hg
      · exact walk_0_2 o1 s1 a n ca es o2 s2 b m cb fs s w ha hna hn hb hm l1 l2 l3 hk hg
      · exact walk_0_3 o1 s1 a n ca es o2 s2 b m cb fs s w ha hna hn hb hm l1 l2 l3 hk hg
    · exact walk_1 o1 s1 a n ca es o2 s2 b m cb fs s w ha hna hn hb hm l1 l2 l3 hk
    · exact walk_2 o1 s1 a n ca es o2 s2 b m cb fs s w ha hna hn hb hm l1 l2 l3 hk
    · exact walk_3 o1 s1 a n ca es o2 s2 b m cb fs s w ha hna hn hb hm l1 l2 l3 hk
  have hz := zeroState
  have hw0 : Below w.heap.size w ((w.alloc (.cells #[.int .i64 o1, .int .i64 s1, .slice a n ca] 62)).alloc (.cells #[.int .i64 o2, .int .i64 s2, .slice b m cb] 62)) := (below_alloc _ _).alloc (by simp) _
  obtain ⟨W0, hW0⟩ : ∃ W0, (w.alloc (.cells #[.int .i64 o1, .int .i64 s1, .slice a n ca] 62)).alloc (.cells #[.int .i64 o2, .int .i64 s2, .slice b m cb] 62) = W0 := ⟨_, rfl⟩
  have boxes : ∀ w1 : World, Below W0.heap.size W0 w1 → (w1.cell? ⟨w.heap.size, 0, none⟩ = some (.int .i64 o1) ∧ w1.cell? ⟨w.heap.size, 1, none⟩ = some (.int .i64 s1) ∧ w1.cell? ⟨w.heap.size, 2, none⟩ = some (.slice a n ca) ∧ w.heap.size < w1.heap.size) ∧ (w1.cell? ⟨w.heap.size + 1, 0, none⟩ = some (.int .i64 o2) ∧ w1.cell? ⟨w.heap.size + 1, 1, none⟩ = some (.int .i64 s2) ∧ w1.cell? ⟨w.heap.size + 1, 2, none⟩ = some (.slice b m cb) ∧ w.heap.size + 1 < w1.heap.size) := by
    intro w1 hq
    rw [← hW0] at hq
    have h2 := box3 hq
    have e1 : (w.alloc (.cells #[.int .i64 o1, .int .i64 s1, .slice a n ca] 62)).heap.size = w.heap.size + 1 := by simp
    rw [e1] at h2
    exact ⟨box3 (w1 := w1) (below_chain (below_alloc _ _) hq), h2⟩
  rw [hW0] at hw0
  have HW : Hid _ := hW0
  have HB : Hid _ := boxes
  clear hW0 boxes
  have hss : s.size ≤ 9223372036854775807 := by unfold maxLen at hs; omega
  go_enter Try.func6, Try.ntmps6
  go_wp2_with (fail)
  rw [HW.out]
  refine (told_true _).mono ?_
  rintro e w1 ⟨rfl, k1⟩
  obtain ⟨⟨x0, x1, x2, xl⟩, ⟨y0, y1, y2, yl⟩⟩ := HB.out w1 k1
  go_wp2_with (fail)
  refine (light_any o1 s1 a n ca _ hn).mono ?_
  rintro e w2 ⟨rfl, k2⟩
  have k02 := below_chain k1 k2
  clear x0 x1 x2 xl y0 y1 y2 yl k1 k2
  obtain ⟨⟨x0, x1, x2, xl⟩, ⟨y0, y1, y2, yl⟩⟩ := HB.out w2 k02
  by_cases h9 : n ≤ 9
  · have hd : decide (n ≤ 9) = true := by simp [h9]
    go_wp2_with (fail)
    refine (light_any o2 s2 b m cb _ hm).mono ?_
    rintro e w3 ⟨rfl, k3⟩
    have k03 := below_chain k02 k3
    have hw3 := below_chain hw0 k03
    by_cases h9m : m ≤ 9
    · have hdm : decide (m ≤ 9) = true := by simp [h9m]
      have h60 : (60 : Int) < (s.size : Int) := by omega
      go_wp2_with (fail)
      go_ret
      exact ⟨rfl, hw3⟩
    · have hdm : decide (m ≤ 9) = false := by simp [h9m]
      go_wp2_with (fail)
      go_ret
      exact ⟨rfl, hw3⟩
  · have hd : decide (n ≤ 9) = false := by simp [h9]
    go_wp2_with (fail)
    go_ret
    exact ⟨rfl, below_chain hw0 k02⟩
end stateSays
end Go.Proofs.Ytjchmcclmbmggab
