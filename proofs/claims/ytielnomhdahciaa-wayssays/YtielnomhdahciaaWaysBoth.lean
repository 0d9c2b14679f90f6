/-
  bothWays: only what both ends tell is an edge.
-/
import Derived.Test.YtielnomhdahciaaWaysMem
import Derived.BigQuiet
namespace Go.Proofs.Ytielnomhdahciaa
open Go.RowKit St

theorem gC_congr {C D : Grid} (h : ∀ x y, x < 7 → y < 7 → C x y = D x y) : gC C = gC D := by
  apply Array.ext_getElem?
  intro i
  by_cases hi : i < 49
  · rw [gC_at _ i hi, gC_at _ i hi, h (i / 7) (i % 7) (by omega) (by omega)]
  · rw [Array.getElem?_eq_none (by rw [gC_size]; omega), Array.getElem?_eq_none (by rw [gC_size]; omega)]
def bothG (C : Grid) : Grid := fun x y => if 0 < C y x then C x y else 0
def bwF (C : Grid) (a b : Nat) : Grid := fun x y => if x < a ∨ (x = a ∧ y < b) then bothG C x y else 0
theorem bwF_step (C : Grid) (a b : Nat) : gC (bwF C a (b + 1)) = gC (updG (bwF C a b) a b (bothG C a b)) := by
  refine gC_congr fun x y hx hy => ?_
  simp only [bwF, updG]
  by_cases h1 : x = a ∧ y = b
  · rw [if_pos h1, if_pos (by omega), h1.1, h1.2]
  · rw [if_neg h1]
    by_cases h2 : x < a ∨ (x = a ∧ y < b)
    · rw [if_pos h2, if_pos (by omega)]
    · rw [if_neg h2, if_neg (by omega)]
theorem bwF_zero (C : Grid) (a b : Nat) (h : bothG C a b = 0) : gC (bwF C a (b + 1)) = gC (bwF C a b) := by
  refine gC_congr fun x y hx hy => ?_
  simp only [bwF]
  by_cases h1 : x = a ∧ y = b
  · rw [if_pos (by omega), if_neg (by omega), h1.1, h1.2, h]
  · by_cases h2 : x < a ∨ (x = a ∧ y < b)
    · rw [if_pos h2, if_pos (by omega)]
    · rw [if_neg h2, if_neg (by omega)]
theorem bwF_row (C : Grid) (a : Nat) : gC (bwF C a 7) = gC (bwF C (a + 1) 0) := by
  refine gC_congr fun x y hx hy => ?_
  simp only [bwF]
  by_cases h2 : x < a ∨ (x = a ∧ y < 7)
  · rw [if_pos h2, if_pos (by omega)]
  · rw [if_neg h2, if_neg (by omega)]

set_option maxRecDepth 100000 in
set_option maxHeartbeats 4000000 in
theorem both_any (C : Grid) (w : World) :
    Calls Try.prog 60 #[.agg (gC C)] w fun e w' => e = .returned (.agg (gC (bothG C))) ∧ Below w.heap.size w w' := by
  have hz := zeroCosts
  obtain ⟨Z, hZ⟩ : ∃ Z, gC (fun _ _ => 0) = Z := ⟨_, rfl⟩
  rw [hZ] at hz
  obtain ⟨c, hc⟩ : ∃ c, gC C = c := ⟨_, rfl⟩
  rw [hc]
  go_enter Try.func60, Try.ntmps60
  go_wp2_with (fail)
  obtain ⟨W0, hW0⟩ : ∃ W0, ((w.alloc (.cells c 100)).alloc (.cells Z 100)).alloc (.cells Z 100) = W0 := ⟨_, rfl⟩
  have hb0 : Below w.heap.size w W0 := by rw [← hW0]; exact ((below_alloc _ _).alloc (by simp) _).alloc (by simp; omega) _
  have hB0 : Blk W0 w.heap.size c 100 := by rw [← hW0]; exact ((Blk.new w c _).below (below_alloc _ _)).below (below_alloc _ _)
  have hB1 : Blk W0 (w.heap.size + 1) Z 100 := by rw [← hW0]; exact (Blk.newN _ Z _ _ (by simp)).below (below_alloc _ _)
  have hB2 : Blk W0 (w.heap.size + 2) (gC (bwF C 0 0)) 100 := by
    rw [← hW0]
    have : gC (bwF C 0 0) = Z := by rw [← hZ]; exact gC_congr fun x y _ _ => by simp [bwF]
    rw [this]
    exact Blk.newN _ _ _ _ (by simp)
  rw [hW0]
  clear hW0
  obtain ⟨C0, hC0⟩ : ∃ C0, w.heap.size = C0 := ⟨_, rfl⟩
  have hl0 : w.heap.size ≤ C0 := by omega
  rw [hC0] at hB0 hB1 hB2
  rw [hC0]
  clear hC0
  go_loopw [6] (fun v wr => ∃ a : Nat, a ≤ 7 ∧ v = .int .i64 a ∧ Blk wr (C0 + 2) (gC (bwF C a 0)) 100 ∧ Blk wr C0 c 100 ∧ Blk wr (C0 + 1) Z 100 ∧ Below w.heap.size w wr) (fun v _ => 7 - (intOf v).toNat)
  case atStart => exact ⟨0, by omega, rfl, hB2, hB0, hB1, hb0⟩
  case round =>
    clear hB0 hB1 hB2 hb0
    obtain ⟨a, ha, rfl, hG, hc0, hZ0, hbel⟩ := hrel
    by_cases ha7 : a < 7
    · have ha7' : (a : Int) < 7 := by omega
      have HG : Hid _ := hG
      have Hc0 : Hid _ := hc0
      have HZ0 : Hid _ := hZ0
      have HB : Hid _ := hbel
      clear hG hc0 hZ0 hbel
      go_wp2_with (fail)
      go_loopw [9] (fun v wr => ∃ b : Nat, b ≤ 7 ∧ v = .int .i64 b ∧ Blk wr (C0 + 2) (gC (bwF C a b)) 100 ∧ Blk wr C0 c 100 ∧ Blk wr (C0 + 1) Z 100 ∧ Below w.heap.size w wr) (fun v _ => 7 - (intOf v).toNat)
      case atStart => exact ⟨0, by omega, rfl, HG.out, Hc0.out, HZ0.out, HB.out⟩
      case round =>
        clear HG Hc0 HZ0 HB
        obtain ⟨b, hb, rfl, hG, hc0, hZ0, hbel⟩ := hrel
        by_cases hb7 : b < 7
        · have hb7' : (b : Int) < 7 := by omega
          have r1 : wr.cell? ⟨C0, b * 7 + a, none⟩ = some (.int .i64 (C b a)) := (hc0.cell _).trans (by rw [← hc]; exact gC_get C b a hb7 ha7)
          have r2 : wr.cell? ⟨C0, a * 7 + b, none⟩ = some (.int .i64 (C a b)) := (hc0.cell _).trans (by rw [← hc]; exact gC_get C a b ha7 hb7)
          have r3 : wr.cell? ⟨C0 + 2, a * 7 + b, none⟩ = some (.int .i64 (bwF C a b a b)) := (hG.cell _).trans (gC_get _ a b ha7 hb7)
          have r4 := hG.frozen (a * 7 + b)
          have HG : Hid _ := hG
          have Hc0 : Hid _ := hc0
          have HZ0 : Hid _ := hZ0
          have HB : Hid _ := hbel
          clear hG hc0 hZ0 hbel
          by_cases hpos : 0 < C b a
          · have HS : Hid (bothG C a b = C a b) := by show _ = _; simp [bothG, hpos]
            go_wp2_with (fail)
            go_region
            all_goals
              go_wp2_with (fail)
              go_roundw
              case rel =>
                refine ⟨b + 1, by omega, by go_num, ?_, Blk.other Hc0.out (by omega) _, Blk.other HZ0.out (by omega) _, below_drewN (Below.setCell HB.out (by show w.heap.size ≤ C0 + 2; omega) _) 1⟩
                rw [bwF_step, HS.out, ← gC_set _ a b _ hb7]
                exact Blk.set HG.out _ _
              case measure => simp [intOf]; omega
          · have HS : Hid (bothG C a b = 0) := by show _ = _; simp [bothG, hpos]
            go_wp2_with (fail)
            go_roundw
            case rel => exact ⟨b + 1, by omega, by go_num, by rw [bwF_zero _ _ _ HS.out]; exact HG.out, Hc0.out, HZ0.out, HB.out⟩
            case measure => simp [intOf]; omega
        · have hb7' : ¬ (b : Int) < 7 := by omega
          have hbe : b = 7 := by omega
          have HG : Hid _ := hG
          have Hc0 : Hid _ := hc0
          have HZ0 : Hid _ := hZ0
          have HB : Hid _ := hbel
          clear hG hc0 hZ0 hbel
          go_wp2_with (fail)
          go_roundw
          case rel => exact ⟨a + 1, by omega, by go_num, by rw [← bwF_row, ← hbe]; exact HG.out, Hc0.out, HZ0.out, HB.out⟩
          case measure => simp [intOf]; omega
    · have ha7' : ¬ (a : Int) < 7 := by omega
      have HGE : Hid (gC (bwF C a 0) = gC (bothG C)) := gC_congr fun x y hx hy => by simp only [bwF]; rw [if_pos (by omega)]
      obtain ⟨g, hg⟩ : ∃ g, gC (bwF C a 0) = g := ⟨_, rfl⟩
      have gs : g.size = 49 := by rw [← hg]; exact gC_size _
      have g1 : g.all (·.oneCell') = true := by rw [← hg]; exact gC_one _
      have zs : Z.size = 49 := by rw [← hZ]; exact gC_size _
      rw [hg] at hG HGE
      have hR : Blk (wr.setRow (C0 + 1) g) (C0 + 1) g 100 := hZ0.setRow
      have l6 := run_loadVar_row (P := Try.prog) (wr.setRow (C0 + 1) g) (C0 + 1) 100 100 g (0, 0) _ hR Try.underlying100 rfl (by rw [gs]; exact size100)
      have HBE : Hid (Below w.heap.size w (wr.setRow (C0 + 1) g)) := below_setRow hbel (by omega) g
      have hi1 : (Try.prog.info? 100).map (·.size) = some g.size := by rw [gs]; exact size100
      have hsz : Z.size = g.size := by rw [gs, zs]
      clear hR hg hZ hbel hc0
      go_wp2_with (first
        | refine wpList_load_blk _ rfl (.tmp 3) 100 rfl (C0 + 2) g _ _ rfl hG Try.underlying100 hi1 ?_
        | refine wpList_store_blk _ rfl (.tmp 2) (.tmp 29) 100 rfl (C0 + 1) Z g rfl rfl hZ0 hsz hi1 g1 ?_)
      refine bodyPost_ret (v := .agg g) (by simp [results, Try.results60, asAddr, l6]) rfl ?_
      exact ⟨by rw [HGE.out], HBE.out⟩
end Go.Proofs.Ytielnomhdahciaa
