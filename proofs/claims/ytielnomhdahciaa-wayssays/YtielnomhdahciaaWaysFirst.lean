/-
  first: to the neighbours, straight; better.
-/
import Derived.Test.YtielnomhdahciaaWaysMem
import Derived.BigQuiet
namespace Go.Proofs.Ytielnomhdahciaa
open Go.RowKit St

def firstF (C : Grid) (r n : Nat) : Nat → HP := fun x => if x < n ∧ 0 < C r x then ⟨x, C r x, x⟩ else HP.zero
theorem hC_congr {H K : Nat → HP} (h : ∀ x, x < 7 → H x = K x) : hC H = hC K := by
  apply Array.ext_getElem?
  intro i
  by_cases hi : i < 21
  · rw [hC_at _ i hi, hC_at _ i hi]
    unfold hopAt
    rw [h (i / 3) (by omega)]
  · rw [Array.getElem?_eq_none (by rw [hC_size]; omega), Array.getElem?_eq_none (by rw [hC_size]; omega)]
theorem firstF_yes (C : Grid) (r n : Nat) (h : 0 < C r n) : hC (firstF C r (n + 1)) = hC (updH (firstF C r n) n ⟨n, C r n, n⟩) := by
  refine hC_congr fun x hx => ?_
  simp only [firstF, updH]
  by_cases e : x = n
  · subst e
    rw [if_pos ⟨by omega, h⟩, if_pos rfl]
  · rw [if_neg e]
    by_cases h2 : x < n ∧ 0 < C r x
    · rw [if_pos h2, if_pos ⟨by omega, h2.2⟩]
    · rw [if_neg h2, if_neg (fun e2 => h2 ⟨by omega, e2.2⟩)]
theorem firstF_no (C : Grid) (r n : Nat) (h : ¬ 0 < C r n) : hC (firstF C r (n + 1)) = hC (firstF C r n) := by
  refine hC_congr fun x hx => ?_
  simp only [firstF]
  by_cases e : x = n
  · subst e
    rw [if_neg (fun e2 => h e2.2), if_neg (fun e2 => h e2.2)]
  · by_cases h2 : x < n ∧ 0 < C r x
    · rw [if_pos h2, if_pos ⟨by omega, h2.2⟩]
    · rw [if_neg h2, if_neg (fun e2 => h2 ⟨by omega, e2.2⟩)]

set_option maxRecDepth 100000 in
set_option maxHeartbeats 4000000 in
theorem first_any (C : Grid) (r : Nat) (hr : r < 7) (w : World) :
    Calls Try.prog 61 #[.agg (gC C), .int .i64 (r : Int)] w fun e w' => e = .returned (.agg (hC (firstF C r 7))) ∧ Below w.heap.size w w' := by
  have hz := zeroHops
  obtain ⟨Z, hZ⟩ : ∃ Z, hC (fun _ => HP.zero) = Z := ⟨_, rfl⟩
  rw [hZ] at hz
  obtain ⟨c, hc⟩ : ∃ c, gC C = c := ⟨_, rfl⟩
  rw [hc]
  have hr7 : (r : Int) < 7 := by omega
  go_enter Try.func61, Try.ntmps61
  go_wp2_with (fail)
  obtain ⟨W0, hW0⟩ : ∃ W0, ((w.alloc (.cells c 100)).alloc (.cells Z 104)).alloc (.cells Z 104) = W0 := ⟨_, rfl⟩
  have hb0 : Below w.heap.size w W0 := by rw [← hW0]; exact ((below_alloc _ _).alloc (by simp) _).alloc (by simp; omega) _
  have hB0 : Blk W0 w.heap.size c 100 := by rw [← hW0]; exact ((Blk.new w c _).below (below_alloc _ _)).below (below_alloc _ _)
  have hB1 : Blk W0 (w.heap.size + 1) Z 104 := by rw [← hW0]; exact (Blk.newN _ Z _ _ (by simp)).below (below_alloc _ _)
  have hB2 : Blk W0 (w.heap.size + 2) (hC (firstF C r 0)) 104 := by
    rw [← hW0]
    have : hC (firstF C r 0) = Z := by rw [← hZ]; exact hC_congr fun x _ => by simp [firstF]
    rw [this]
    exact Blk.newN _ _ _ _ (by simp)
  rw [hW0]
  clear hW0
  obtain ⟨C0, hC0⟩ : ∃ C0, w.heap.size = C0 := ⟨_, rfl⟩
  have hl0 : w.heap.size ≤ C0 := by omega
  rw [hC0] at hB0 hB1 hB2
  rw [hC0]
  clear hC0
  go_loopw [8] (fun v wr => ∃ n : Nat, n ≤ 7 ∧ v = .int .i64 n ∧ Blk wr (C0 + 2) (hC (firstF C r n)) 104 ∧ Blk wr C0 c 100 ∧ Blk wr (C0 + 1) Z 104 ∧ Below w.heap.size w wr) (fun v _ => 7 - (intOf v).toNat)
  case atStart => exact ⟨0, by omega, rfl, hB2, hB0, hB1, hb0⟩
  case round =>
    clear hB0 hB1 hB2 hb0
    obtain ⟨n, hn, rfl, hG, hc0, hZ0, hbel⟩ := hrel
    by_cases hn7 : n < 7
    · have hn7' : (n : Int) < 7 := by omega
      have r1 : wr.cell? ⟨C0, r * 7 + n, none⟩ = some (.int .i64 (C r n)) := (hc0.cell _).trans (by rw [← hc]; exact gC_get C r n hr hn7)
      obtain ⟨q0, q1, q2⟩ := hC_get (firstF C r n) n hn7
      have s0 := (hG.cell (n * 3)).trans q0
      have s1 := (hG.cell (n * 3 + 1)).trans q1
      have s2 := (hG.cell (n * 3 + 2)).trans q2
      have f0 := hG.frozen (n * 3)
      have f1 := hG.frozen (n * 3 + 1)
      have f2 := hG.frozen (n * 3 + 2)
      have lG := hG.lt
      have HG : Hid _ := hG
      have Hc0 : Hid _ := hc0
      have HZ0 : Hid _ := hZ0
      have HB : Hid _ := hbel
      clear hG hc0 hZ0 hbel q0 q1 q2
      have HY := firstF_yes C r n
      have HN := firstF_no C r n
      have HYy : Hid _ := HY
      have HNn : Hid _ := HN
      clear HY HN
      by_cases hpos : 0 < C r n
      · go_wp2_with (fail)
        go_roundw
        case rel =>
          refine ⟨n + 1, by omega, by go_num, ?_, Blk.other (Blk.other (Blk.other Hc0.out (by omega) _) (by omega) _) (by omega) _, Blk.other (Blk.other (Blk.other HZ0.out (by omega) _) (by omega) _) (by omega) _, Below.setCell (Below.setCell (Below.setCell HB.out (by show w.heap.size ≤ C0 + 2; omega) _) (by show w.heap.size ≤ C0 + 2; omega) _) (by show w.heap.size ≤ C0 + 2; omega) _⟩
          rw [HYy.out hpos, ← hC_set _ n _ hn7]
          exact Blk.set (Blk.set (Blk.set HG.out _ _) _ _) _ _
        case measure => simp [intOf]; omega
      · go_wp2_with (fail)
        go_roundw
        case rel => exact ⟨n + 1, by omega, by go_num, by rw [HNn.out hpos]; exact HG.out, Hc0.out, HZ0.out, HB.out⟩
        case measure => simp [intOf]; omega
    · have hn7' : ¬ (n : Int) < 7 := by omega
      have hne : n = 7 := by omega
      obtain ⟨g, hg⟩ : ∃ g, hC (firstF C r n) = g := ⟨_, rfl⟩
      have gs : g.size = 21 := by rw [← hg]; exact hC_size _
      have g1 : g.all (·.oneCell') = true := by rw [← hg]; exact hC_one _
      have zs : Z.size = 21 := by rw [← hZ]; exact hC_size _
      have HGE : Hid (g = hC (firstF C r 7)) := by show _ = _; rw [← hg, hne]
      rw [hg] at hG
      have hR : Blk (wr.setRow (C0 + 1) g) (C0 + 1) g 104 := hZ0.setRow
      have l6 := run_loadVar_row (P := Try.prog) (wr.setRow (C0 + 1) g) (C0 + 1) 104 104 g (0, 0) _ hR Try.underlying104 rfl (by rw [gs]; exact size104)
      have HBE : Hid (Below w.heap.size w (wr.setRow (C0 + 1) g)) := below_setRow hbel (by omega) g
      have hi1 : (Try.prog.info? 104).map (·.size) = some g.size := by rw [gs]; exact size104
      have hsz : Z.size = g.size := by rw [gs, zs]
      clear hR hg hZ hbel hc0 hne
      go_wp2_with (first
        | refine wpList_load_blk _ rfl (.tmp 5) 104 rfl (C0 + 2) g _ _ rfl hG Try.underlying104 hi1 ?_
        | refine wpList_store_blk _ rfl (.tmp 4) (.tmp 25) 104 rfl (C0 + 1) Z g rfl rfl hZ0 hsz hi1 g1 ?_)
      refine bodyPost_ret (v := .agg g) (by simp [results, Try.results61, asAddr, l6]) rfl ?_
      exact ⟨by rw [HGE.out], HBE.out⟩

def betB (a b : HP) : Bool := b.far == 0 || decide (a.far < b.far) || (a.far == b.far && decide (a.nxt < b.nxt))
set_option maxRecDepth 100000 in
set_option maxHeartbeats 2000000 in
theorem better_any (a b : HP) (w : World) :
    Calls Try.prog 73 #[.agg #[.int .i64 a.dst, .int .i64 a.far, .int .i64 a.nxt], .agg #[.int .i64 b.dst, .int .i64 b.far, .int .i64 b.nxt]] w fun e w' => e = .returned (.bool (betB a b)) ∧ Below w.heap.size w w' := by
  obtain ⟨a0, a1, a2⟩ := a
  obtain ⟨b0, b1, b2⟩ := b
  simp only
  have hb0 : Below w.heap.size w ((w.alloc (.cells #[.int .i64 a0, .int .i64 a1, .int .i64 a2] 73)).alloc (.cells #[.int .i64 b0, .int .i64 b1, .int .i64 b2] 73)) := (below_alloc _ _).alloc (by simp) _
  have HV : Hid (betB ⟨a0, a1, a2⟩ ⟨b0, b1, b2⟩ = (b1 == 0 || decide (a1 < b1) || (a1 == b1 && decide (a2 < b2)))) := rfl
  by_cases h0 : (b1 == 0) = true
  · have HV2 : Hid (betB ⟨a0, a1, a2⟩ ⟨b0, b1, b2⟩ = true) := by show _ = _; rw [HV.out, h0]; rfl
    go_enter Try.func73, Try.ntmps73
    go_wp2_with (fail)
    rw [HV2.out]
    go_ret
    exact ⟨rfl, hb0⟩
  have h0' : (b1 == 0) = false := by simpa using h0
  by_cases h1 : a1 < b1
  · have HV2 : Hid (betB ⟨a0, a1, a2⟩ ⟨b0, b1, b2⟩ = true) := by show _ = _; rw [HV.out, decide_eq_true h1]; simp
    go_enter Try.func73, Try.ntmps73
    go_wp2_with (fail)
    rw [HV2.out]
    go_ret
    exact ⟨rfl, hb0⟩
  by_cases h2 : (a1 == b1) = true
  · have HV2 : Hid (betB ⟨a0, a1, a2⟩ ⟨b0, b1, b2⟩ = decide (a2 < b2)) := by show _ = _; rw [HV.out, h0', decide_eq_false h1, h2]; simp
    rw [HV2.out]
    go_enter Try.func73, Try.ntmps73
    go_wp2_with (fail)
    go_ret
    exact ⟨rfl, hb0⟩
  have h2' : (a1 == b1) = false := by simpa using h2
  have HV2 : Hid (betB ⟨a0, a1, a2⟩ ⟨b0, b1, b2⟩ = false) := by show _ = _; rw [HV.out, h0', decide_eq_false h1, h2']; simp
  go_enter Try.func73, Try.ntmps73
  go_wp2_with (fail)
  rw [HV2.out]
  go_ret
  exact ⟨rfl, hb0⟩
end Go.Proofs.Ytielnomhdahciaa
