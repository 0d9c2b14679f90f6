/-
  A way of one edge.
-/
import Derived.Test.YtielnomhdahciaaWaysLight
namespace Go.Proofs.Ytielnomhdahciaa
open Go.RowKit St

theorem one_edge {C : Grid} {x : Int} (hx : 0 < x) (h12 : C 1 2 = x) (hC : ∀ a b, 0 ≤ C a b) (honly : ∀ a b, 0 < C a b → (a = 1 ∧ b = 2) ∨ (a = 2 ∧ b = 1)) : hopsL C 1 = [⟨2, x, 2⟩] := by
  have hd : C 1 1 = 0 := by
    have := hC 1 1
    by_cases h : 0 < C 1 1
    · have := honly 1 1 h
      omega
    · omega
  have hq : ∀ q n, okP C 1 q → q.head? = some n → q = [2] ∧ n = 2 := by
    intro q n h e
    match q, h, e with
    | [], h, _ => exact h.elim
    | [m], h, e =>
      have hm : m = n := by simpa using e
      subst hm
      have := honly 1 m h.1
      have h2 := h.2.1
      have : m = 2 := by omega
      subst this
      exact ⟨rfl, rfl⟩
    | m :: k :: l, h, e =>
      have h1 := honly k m h.2.1
      have h2 := h.2.2.1
      have h3 := (ok_lt h.1 k (by simp)).2
      omega
  have hk : ∀ n, 0 < farF C 1 n → n = 2 ∧ roundsF C 1 6 n = ⟨2, x, 2⟩ := by
    intro n hn
    obtain ⟨h1, q, q1, _, q3, q4, q5⟩ := best_way hC hd n hn
    obtain ⟨rfl, rfl⟩ := hq q n q1 q3
    refine ⟨rfl, ?_⟩
    simp only [pc, fstP, h12] at q4 q5
    generalize roundsF C 1 6 2 = p at h1 q4 q5
    obtain ⟨pd, pf, px⟩ := p
    simp only at h1 q4 q5
    rw [h1, ← q4, ← q5]
    rfl
  have h2 := far_le hC hd (p := [2]) (n := 2) ⟨by rw [h12]; exact hx, by decide, by decide⟩ rfl
  have hv := (hk 2 h2.1).2
  have hz : ∀ n, n ≠ 2 → ¬ 0 < (roundsF C 1 6 n).far := fun n hn h => hn (hk n h).1
  unfold hopsL
  generalize roundsF C 1 6 = H at hv hz
  simp only [lstF, if_neg (hz 0 (by decide)), if_neg (hz 1 (by decide)), if_neg (hz 3 (by decide)), if_neg (hz 4 (by decide)), if_neg (hz 5 (by decide)), if_neg (hz 6 (by decide)), hv, if_pos hx]
  rfl
/-- The two states of the closed facts. -/
def nearS (g : Nat) : Nat → SV := fun j => if j = 0 then ⟨1, 1, some ⟨g, 0, none⟩, 1, 1⟩ else ⟨2, 1, some ⟨g + 1, 0, none⟩, 1, 1⟩
def nearE (x y : Int) : Nat → List Opt := fun j => if j = 0 then [(2, x)] else [(1, y)]
theorem near_tell (g : Nat) (x y : Int) : tellF (nearS g) (nearE x y) 2 = updG (updG (fun _ _ => 0) 1 2 x) 2 1 y := rfl
theorem near_hops (g : Nat) (x y : Int) (hx : 0 < x) (hy : 0 < y) : hopsL (bothG (tellF (nearS g) (nearE x y) 2)) 1 = [⟨2, x, 2⟩] := by
  rw [near_tell]
  refine one_edge hx ?_ (fun a b => ?_) (fun a b h => ?_)
  · simp [bothG, updG, hy]
  · simp only [bothG, updG]
    split <;> (try split) <;> (try split) <;> omega
  · simp only [bothG, updG] at h
    split at h
    · split at h
      · omega
      · split at h
        · omega
        · omega
    · omega
theorem near_ok (g : Nat) (x y : Int) (hx : 1 ≤ x ∧ x ≤ 20) (hy : 1 ≤ y ∧ y ≤ 20) : ∀ j, j < 2 → stF (nearS g j).own (nearS g j).seq (nearE x y j) = 0 := by
  intro j hj
  rcases (show j = 0 ∨ j = 1 by omega) with rfl | rfl
  · simp [nearS, nearE, stF, edgF]
    omega
  · simp [nearS, nearE, stF, edgF]
    omega
theorem near_sts (w : World) (x y : Int) : StsR (((w.alloc (.cells #[.int .i64 2, .int .i64 x] 93)).alloc (.cells #[.int .i64 1, .int .i64 y] 93)).alloc (.cells #[.int .i64 1, .int .i64 1, .slice (some ⟨w.heap.size, 0, none⟩) 1 1, .int .i64 2, .int .i64 1, .slice (some ⟨w.heap.size + 1, 0, none⟩) 1 1] 35)) (some ⟨w.heap.size + 2, 0, none⟩) 2 (nearS w.heap.size) (nearE x y) := by
  have b0 : Blk _ w.heap.size #[.int .i64 2, .int .i64 x] 93 := ((Blk.new w #[.int .i64 2, .int .i64 x] 93).below (below_alloc _ (.cells #[.int .i64 1, .int .i64 y] 93))).below (below_alloc _ (.cells #[.int .i64 1, .int .i64 1, .slice (some ⟨w.heap.size, 0, none⟩) 1 1, .int .i64 2, .int .i64 1, .slice (some ⟨w.heap.size + 1, 0, none⟩) 1 1] 35))
  have b1 : Blk _ (w.heap.size + 1) #[.int .i64 1, .int .i64 y] 93 := (Blk.newN (w.alloc (.cells #[.int .i64 2, .int .i64 x] 93)) #[.int .i64 1, .int .i64 y] 93 (w.heap.size + 1) (by simp)).below (below_alloc _ (.cells #[.int .i64 1, .int .i64 1, .slice (some ⟨w.heap.size, 0, none⟩) 1 1, .int .i64 2, .int .i64 1, .slice (some ⟨w.heap.size + 1, 0, none⟩) 1 1] 35))
  have b2 : Blk _ (w.heap.size + 2) _ 35 := Blk.newN ((w.alloc (.cells #[.int .i64 2, .int .i64 x] 93)).alloc (.cells #[.int .i64 1, .int .i64 y] 93)) #[.int .i64 1, .int .i64 1, .slice (some ⟨w.heap.size, 0, none⟩) 1 1, .int .i64 2, .int .i64 1, .slice (some ⟨w.heap.size + 1, 0, none⟩) 1 1] 35 (w.heap.size + 2) (by simp)
  refine ⟨.inr ⟨w.heap.size + 2, 0, rfl, fun j hj => ?_⟩, fun j hj => ?_⟩
  · rcases (show j = 0 ∨ j = 1 by omega) with rfl | rfl
    · exact ⟨b2.cell 0, b2.cell 1, b2.cell 2⟩
    · exact ⟨b2.cell 3, b2.cell 4, b2.cell 5⟩
  · rcases (show j = 0 ∨ j = 1 by omega) with rfl | rfl
    · refine ⟨⟨rfl, .inr ⟨w.heap.size, 0, rfl, fun j hj => ?_⟩⟩, (fun h => by cases h), (show (1 : Nat) ≤ maxLen by decide)⟩
      have : j = 0 := by simpa [nearE] using hj
      subst this
      exact ⟨b0.cell 0, b0.cell 1⟩
    · refine ⟨⟨rfl, .inr ⟨w.heap.size + 1, 0, rfl, fun j hj => ?_⟩⟩, (fun h => by cases h), (show (1 : Nat) ≤ maxLen by decide)⟩
      have : j = 0 := by simpa [nearE] using hj
      subst this
      exact ⟨b1.cell 0, b1.cell 1⟩
theorem hs_new (w : World) (p : HP) : HsR (w.alloc (.cells #[.int .i64 p.dst, .int .i64 p.far, .int .i64 p.nxt] 73)) (some ⟨w.heap.size, 0, none⟩) 1 [p] := by
  have b := Blk.new w #[.int .i64 p.dst, .int .i64 p.far, .int .i64 p.nxt] 73
  refine ⟨rfl, .inr ⟨w.heap.size, 0, rfl, fun j h e => ?_⟩⟩
  have hj : j = 0 := by
    by_cases h0 : j = 0
    · exact h0
    · rw [List.getElem?_eq_none (by simp; omega)] at e
      cases e
  subst hj
  have : p = h := by simpa using e
  subst this
  exact ⟨b.cell 0, b.cell 1, b.cell 2⟩
set_option maxRecDepth 100000 in
set_option maxHeartbeats 4000000 in
theorem nearby_any (w : World) : Calls Try.prog 41 #[] w fun e w' => e = .returned (.bool true) ∧ Below w.heap.size w w' := by
  have hst := near_sts w 5 5
  have hb : Below w.heap.size w (((w.alloc (.cells #[.int .i64 2, .int .i64 5] 93)).alloc (.cells #[.int .i64 1, .int .i64 5] 93)).alloc (.cells #[.int .i64 1, .int .i64 1, .slice (some ⟨w.heap.size, 0, none⟩) 1 1, .int .i64 2, .int .i64 1, .slice (some ⟨w.heap.size + 1, 0, none⟩) 1 1] 35)) := ((below_alloc _ _).alloc (by simp) _).alloc (by simp; omega) _
  have hh := hops_any (some ⟨w.heap.size + 2, 0, none⟩) 2 2 (nearS w.heap.size) (nearE 5 5) 1 _ hst (by decide) (near_ok _ 5 5 (by decide) (by decide)) (by decide) (by decide)
  rw [near_hops _ 5 5 (by decide) (by decide)] at hh
  have HB : Hid _ := hb
  clear hb hst
  go_enter Try.func41, Try.ntmps41
  go_wp2_with (fail)
  refine hh.mono ?_
  rintro e w1 ⟨b, c, rfl, h1, k1⟩
  have Hb1 : Hid _ := below_chain HB.out k1
  have hsh := sameHops_yes b (some ⟨w1.heap.size, 0, none⟩) 1 c 1 [⟨2, 5, 2⟩] (w1.alloc (.cells #[.int .i64 2, .int .i64 5, .int .i64 2] 73)) (h1.below (below_alloc _ _)) (hs_new w1 ⟨2, 5, 2⟩) (by decide)
  clear hh h1 k1
  go_wp2_with (fail)
  refine hsh.mono ?_
  rintro e w2 ⟨rfl, k2⟩
  have Hb2 : Hid _ := below_chain (Below.alloc Hb1.out Hb1.out.size _) k2
  clear hsh k2
  go_wp2_with (fail)
  go_ret
  exact ⟨rfl, Hb2.out⟩
end Go.Proofs.Ytielnomhdahciaa
