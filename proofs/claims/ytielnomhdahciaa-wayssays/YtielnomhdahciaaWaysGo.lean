/-
  goOn: by one edge from each router to which a way is known.
-/
import Derived.Test.YtielnomhdahciaaWaysFirst
namespace Go.Proofs.Ytielnomhdahciaa
open Go.RowKit St

def stepH (C : Grid) (r b n : Nat) (H : Nat → HP) : Nat → HP :=
  if (H b).far = 0 ∨ C b n = 0 ∨ n = r then H
  else if betB ⟨n, (H b).far + C b n, (H b).nxt⟩ (H n) = true then updH H n ⟨n, (H b).far + C b n, (H b).nxt⟩ else H
def rowF (C : Grid) (r b : Nat) (H : Nat → HP) : Nat → Nat → HP
  | 0 => H
  | n + 1 => stepH C r b n (rowF C r b H n)
def goF (C : Grid) (r : Nat) (H : Nat → HP) : Nat → Nat → HP
  | 0 => H
  | b + 1 => rowF C r b (goF C r H b) 7
def FarLe (H : Nat → HP) (m : Int) : Prop := ∀ n, 0 ≤ (H n).far ∧ (H n).far ≤ m
theorem FarLe.step {C : Grid} {r b n : Nat} {H : Nat → HP} {m : Int} (h : FarLe H m) (hC : ∀ x y, 0 ≤ C x y ∧ C x y ≤ 20) : FarLe (stepH C r b n H) (m + 20) := by
  intro x
  have hx := h x
  have hb := h b
  have hc := hC b n
  unfold stepH
  split
  · omega
  · split
    · simp only [updH]
      split
      · simp only
        omega
      · omega
    · omega
theorem FarLe.row {C : Grid} {r b : Nat} {H : Nat → HP} {m : Int} (h : FarLe H m) (hC : ∀ x y, 0 ≤ C x y ∧ C x y ≤ 20) : ∀ n, FarLe (rowF C r b H n) (m + 20 * n)
  | 0 => fun x => by have := h x; simp only [rowF]; omega
  | n + 1 => fun x => by
    have := (FarLe.step (C := C) (r := r) (b := b) (n := n) (FarLe.row (r := r) (b := b) h hC n) hC) x
    simp only [rowF]
    push_cast
    omega
theorem FarLe.go {C : Grid} {r : Nat} {H : Nat → HP} {m : Int} (h : FarLe H m) (hC : ∀ x y, 0 ≤ C x y ∧ C x y ≤ 20) : ∀ b, FarLe (goF C r H b) (m + 140 * b)
  | 0 => fun x => by have := h x; simp only [goF]; omega
  | b + 1 => fun x => by
    have := (FarLe.row (C := C) (r := r) (b := b) (FarLe.go (r := r) h hC b) hC 7) x
    simp only [goF]
    push_cast at this ⊢
    omega

theorem grownBy_setC {a w : World} {b : Nat} (h : a.grownBy w (some b)) (j : Nat) (v : Value) : a.grownBy (w.setCell ⟨b, j, none⟩ v) (some b) := by
  have b1 : Below 0 w (w.setCell ⟨b, j, none⟩ v) := (Below.refl 0 w).setCell (Nat.zero_le _) _
  exact ⟨b1.os.trans h.os, b1.tape.trans h.tape, b1.output.trans h.output, Nat.le_trans h.size b1.size, fun i hi hne => (Below.heap_setCell _ _ _ i (fun e => hne (by rw [e]))).trans (h.block i hi hne)⟩
theorem grown_drew {a w : World} {o : Option Nat} (h : a.grownBy w o) : a.grownBy w.drew o := ⟨h.os, h.tape, h.output, h.size, h.block⟩
set_option maxRecDepth 100000 in
set_option maxHeartbeats 8000000 in
theorem goOn_any (C : Grid) (r : Nat) (hr : r < 7) (H : Nat → HP) (B : Nat) (m : Int) (w : World) (hB : Blk w B (hC H) 104) (hC20 : ∀ x y, 0 ≤ C x y ∧ C x y ≤ 20) (hm : FarLe H m) (hm2 : m ≤ 1000000) :
    Calls Try.prog 62 #[.pointer (some ⟨B, 0, none⟩), .agg (gC C), .int .i64 (r : Int)] w fun e w' => e = .returned (.tuple #[]) ∧ Blk w' B (hC (goF C r H 7)) 104 ∧ w.grownBy w' (some B) := by
  obtain ⟨c, hc⟩ : ∃ c, gC C = c := ⟨_, rfl⟩
  rw [hc]
  have hr7 : (r : Int) < 7 := by omega
  go_enter Try.func62, Try.ntmps62
  go_wp2_with (fail)
  obtain ⟨W0, hW0⟩ : ∃ W0, w.alloc (.cells c 100) = W0 := ⟨_, rfl⟩
  have hk0 : Below w.heap.size w W0 := by rw [← hW0]; exact below_alloc _ _
  have hb0 : w.grownBy W0 (some B) := ⟨hk0.os, hk0.tape, hk0.output, hk0.size, fun i hi _ => hk0.block i hi⟩
  have hB0 : Blk W0 w.heap.size c 100 := by rw [← hW0]; exact Blk.new w c _
  have hB1 : Blk W0 B (hC (goF C r H 0)) 104 := hB.below hk0
  have hBC : B < w.heap.size := hB.lt
  rw [hW0]
  clear hW0 hk0 hB
  obtain ⟨C0, hC0⟩ : ∃ C0, w.heap.size = C0 := ⟨_, rfl⟩
  have hl0 : w.heap.size ≤ C0 := by omega
  rw [hC0] at hB0 hBC
  rw [hC0]
  clear hC0
  have HFL := fun b => hm.go (r := r) hC20 b
  have HM : Hid _ := HFL
  clear HFL hm
  go_loopw [9] (fun v wr => ∃ b : Nat, b ≤ 7 ∧ v = .int .i64 b ∧ Blk wr B (hC (goF C r H b)) 104 ∧ Blk wr C0 c 100 ∧ w.grownBy wr (some B)) (fun v _ => 7 - (intOf v).toNat)
  case atStart => exact ⟨0, by omega, rfl, hB1, hB0, hb0⟩
  case round =>
    clear hB0 hB1 hb0
    obtain ⟨b, hb, rfl, hG, hc0, hbel⟩ := hrel
    by_cases hb7 : b < 7
    · have hb7' : (b : Int) < 7 := by omega
      have HG : Hid _ := hG
      have Hc0 : Hid _ := hc0
      have HB : Hid _ := hbel
      have HRow : Hid (goF C r H (b + 1) = rowF C r b (goF C r H b) 7) := rfl
      have hmb := HM.out b
      clear hG hc0 hbel
      obtain ⟨Hb, hHb⟩ : ∃ Hb, goF C r H b = Hb := ⟨_, rfl⟩
      rw [hHb] at HG HRow hmb
      have HMB : Hid (∀ n, FarLe (rowF C r b Hb n) (m + 140 * b + 20 * n)) := fun n => hmb.row hC20 n
      clear hmb hHb
      go_wp2_with (fail)
      go_loopw [12] (fun v wr => ∃ n : Nat, n ≤ 7 ∧ v = .int .i64 n ∧ Blk wr B (hC (rowF C r b Hb n)) 104 ∧ Blk wr C0 c 100 ∧ w.grownBy wr (some B)) (fun v _ => 7 - (intOf v).toNat)
      case atStart => exact ⟨0, by omega, rfl, HG.out, Hc0.out, HB.out⟩
      case round =>
        clear HG Hc0 HB
        obtain ⟨n, hn, rfl, hG, hc0, hbel⟩ := hrel
        by_cases hn7 : n < 7
        · have hn7' : (n : Int) < 7 := by omega
          have HSt : Hid (rowF C r b Hb (n + 1) = stepH C r b n (rowF C r b Hb n)) := rfl
          have hfl := HMB.out n b
          obtain ⟨G, hGe⟩ : ∃ G, rowF C r b Hb n = G := ⟨_, rfl⟩
          rw [hGe] at hG HSt hfl
          clear hGe
          have r1 : wr.cell? ⟨C0, b * 7 + n, none⟩ = some (.int .i64 (C b n)) := (hc0.cell _).trans (by rw [← hc]; exact gC_get C b n hb7 hn7)
          obtain ⟨p0, p1, p2⟩ := hC_get G b hb7
          have b0 := (hG.cell (b * 3)).trans p0
          have b1 := (hG.cell (b * 3 + 1)).trans p1
          have b2 := (hG.cell (b * 3 + 2)).trans p2
          clear p0 p1 p2
          have HG : Hid _ := hG
          have Hc0 : Hid _ := hc0
          have HB : Hid _ := hbel
          clear hG hc0 hbel
          by_cases h1 : (G b).far = 0
          · have h1' : ((G b).far == 0) = true := by simpa using h1
            have HS2 : Hid (rowF C r b Hb (n + 1) = G) := by show _ = _; rw [HSt.out, stepH, if_pos (.inl h1)]
            generalize (G b).far = bf at b1 h1'
            clear h1
            go_wp2_with (fail)
            go_roundw
            case rel => exact ⟨n + 1, by omega, by go_num, by rw [HS2.out]; exact HG.out, Hc0.out, HB.out⟩
            case measure => simp [intOf]; omega
          have h1' : ((G b).far == 0) = false := by simpa using h1
          by_cases h2 : C b n = 0
          · have h2' : (C b n == 0) = true := by simpa using h2
            have HS2 : Hid (rowF C r b Hb (n + 1) = G) := by show _ = _; rw [HSt.out, stepH, if_pos (.inr (.inl h2))]
            generalize (G b).far = bf at b1 h1'
            generalize C b n = cbn at r1 h2'
            clear h1 h2
            go_wp2_with (fail)
            go_roundw
            case rel => exact ⟨n + 1, by omega, by go_num, by rw [HS2.out]; exact HG.out, Hc0.out, HB.out⟩
            case measure => simp [intOf]; omega
          have h2' : (C b n == 0) = false := by simpa using h2
          by_cases h3 : n = r
          · have h3' : ((n : Int) == (r : Int)) = true := by simp [h3]
            have HS2 : Hid (rowF C r b Hb (n + 1) = G) := by show _ = _; rw [HSt.out, stepH, if_pos (.inr (.inr h3))]
            generalize (G b).far = bf at b1 h1'
            generalize C b n = cbn at r1 h2'
            clear h1 h2 h3
            go_wp2_with (fail)
            go_roundw
            case rel => exact ⟨n + 1, by omega, by go_num, by rw [HS2.out]; exact HG.out, Hc0.out, HB.out⟩
            case measure => simp [intOf]; omega
          have h3' : ((n : Int) == (r : Int)) = false := by
            have : ¬ (n : Int) = (r : Int) := by omega
            simpa using this
          have HS2 : Hid (rowF C r b Hb (n + 1) = if betB ⟨n, (G b).far + C b n, (G b).nxt⟩ (G n) = true then updH G n ⟨n, (G b).far + C b n, (G b).nxt⟩ else G) := by
            show _ = _
            rw [HSt.out, stepH, if_neg (by simp [h1, h2, h3])]
          have hcb := hC20 b n
          have hwr : IntKind.i64.wrap ((G b).far + C b n) = (G b).far + C b n := IntWalk.i64_in _ ⟨by omega, by omega⟩
          have HBT := better_any ⟨n, (G b).far + C b n, (G b).nxt⟩ (G n)
          obtain ⟨p0, p1, p2⟩ := hC_get G n hn7
          have HN : Hid (∀ W, Blk W B (hC G) 104 → W.cell? ⟨B, n * 3, none⟩ = some (.int .i64 (G n).dst) ∧ W.cell? ⟨B, n * 3 + 1, none⟩ = some (.int .i64 (G n).far) ∧ W.cell? ⟨B, n * 3 + 2, none⟩ = some (.int .i64 (G n).nxt)) :=
            fun W hW => ⟨(hW.cell _).trans p0, (hW.cell _).trans p1, (hW.cell _).trans p2⟩
          clear p0 p1 p2 HSt h1 h2 h3 hfl hcb
          generalize betB ⟨n, (G b).far + C b n, (G b).nxt⟩ (G n) = bt at HS2 HBT
          simp only at HBT
          generalize hff : (G b).far + C b n = ff at HS2 HBT hwr
          generalize (G b).far = bf at b1 h1' hff hwr
          generalize C b n = cbn at r1 h2' hff hwr
          generalize (G b).nxt = bx at b2 HS2 HBT
          generalize (G n).dst = nd at HN HBT
          generalize (G n).far = nf at HN HBT
          generalize (G n).nxt = nx at HN HBT
          have hwr2 : IntKind.i64.wrap (bf + cbn) = ff := by rw [hff]; exact hwr
          have d0 : wr.drew.cell? ⟨B, b * 3 + 1, none⟩ = some (.int .i64 bf) := b1
          have d1 : wr.drew.cell? ⟨B, b * 3 + 2, none⟩ = some (.int .i64 bx) := b2
          have d2 : wr.drew.cell? ⟨C0, b * 7 + n, none⟩ = some (.int .i64 cbn) := r1
          have lB : B < wr.heap.size := Blk.lt HG.out
          have lC : C0 < wr.heap.size := Blk.lt Hc0.out
          have kz := below_alloc wr (.cells #[.int .i64 0, .int .i64 0, .int .i64 0] 73)
          have e0 := (kz.cell (p := ⟨B, b * 3 + 1, none⟩) lB).trans b1
          have e1 := (kz.cell (p := ⟨B, b * 3 + 2, none⟩) lB).trans b2
          have e2 := (kz.cell (p := ⟨C0, b * 7 + n, none⟩) lC).trans r1
          clear hff hwr kz
          go_upto_region 8 with fail
          clear h1' h2' h3'
          go_region
          all_goals
            obtain ⟨W3, hW3⟩ : ∃ W3, (wr.alloc (.cells #[.int .i64 (n : Int), .int .i64 ff, .int .i64 bx] 73)).drew = W3 := ⟨_, rfl⟩
            have k3 : Below wr.heap.size wr W3 := by rw [← hW3]; exact below_drewN (below_alloc _ _) 1
            have hY : Blk W3 wr.heap.size #[.int .i64 (n : Int), .int .i64 ff, .int .i64 bx] 73 := by rw [← hW3]; exact Blk.drewN (Blk.new wr _ _) 1
            obtain ⟨Y, hYe⟩ : ∃ Y, wr.heap.size = Y := ⟨_, rfl⟩
            have hG3 := Blk.below HG.out k3
            have Hc3 : Hid _ := Blk.below Hc0.out k3
            have HB3 : Hid (w.grownBy W3 (some B)) := ⟨k3.os.trans HB.out.os, k3.tape.trans HB.out.tape, k3.output.trans HB.out.output, Nat.le_trans HB.out.size k3.size, fun i hi hne => (k3.block i (Nat.lt_of_lt_of_le hi HB.out.size)).trans (HB.out.block i hi hne)⟩
            have HYB : Hid (B < Y ∧ C0 < Y) := by show _ ∧ _; rw [← hYe]; exact ⟨lB, lC⟩
            rw [hYe] at hY
            have HY : Hid _ := hY
            have HG3 : Hid _ := hG3
            have HF : Hid (∀ W, Below W3.heap.size W3 W → (W.cell? ⟨Y, 0, none⟩ = some (.int .i64 (n : Int)) ∧ W.cell? ⟨Y, 1, none⟩ = some (.int .i64 ff) ∧ W.cell? ⟨Y, 2, none⟩ = some (.int .i64 bx)) ∧ W.cell? ⟨B, n * 3, none⟩ = some (.int .i64 nd) ∧ W.cell? ⟨B, n * 3 + 1, none⟩ = some (.int .i64 nf) ∧ W.cell? ⟨B, n * 3 + 2, none⟩ = some (.int .i64 nx)) := by
              intro W hW
              have q := Blk.below HY.out hW
              exact ⟨⟨Blk.cell q 0, Blk.cell q 1, Blk.cell q 2⟩, HN.out W (Blk.below HG3.out hW)⟩
            have KD : Below W3.heap.size W3 W3.drew := below_drewN (Below.refl _ _) 1
            have F0 := HF.out _ KD
            rw [hW3, hYe]
            clear hW3 k3 hYe hG3 hY d0 d1 d2 e0 e1 e2 b0 b1 b2 r1 lB lC hwr2
            go_wp2_with (fail)
            go_region_held3 (fun x => (x.cell? ⟨Y, 0, none⟩ = some (.int .i64 (n : Int)) ∧ x.cell? ⟨Y, 1, none⟩ = some (.int .i64 ff) ∧ x.cell? ⟨Y, 2, none⟩ = some (.int .i64 bx)) ∧ x.cell? ⟨B, n * 3, none⟩ = some (.int .i64 nd) ∧ x.cell? ⟨B, n * 3 + 1, none⟩ = some (.int .i64 nf) ∧ x.cell? ⟨B, n * 3 + 2, none⟩ = some (.int .i64 nx))
              (first | assumption | exact F0 | exact F1)
              ((go_at_call 73; refine (HBT _).mono ?_; rintro e w5 ⟨rfl, k5⟩; have F1 := HF.out _ (below_chain KD k5)))
            all_goals
              have k35 := below_chain KD k5
              have hG5 := Blk.below HG3.out k35
              have HG5 : Hid _ := hG5
              have Hc5 : Hid _ := Blk.below Hc3.out k35
              have HB5 : Hid (w.grownBy w5 (some B)) := ⟨k35.os.trans HB3.out.os, k35.tape.trans HB3.out.tape, k35.output.trans HB3.out.output, Nat.le_trans HB3.out.size k35.size, fun i hi hne => (k35.block i (Nat.lt_of_lt_of_le hi HB3.out.size)).trans (HB3.out.block i hi hne)⟩
              obtain ⟨⟨y0, y1, y2⟩, g0, g1, g2⟩ := F1
              have f0 := hG5.frozen (n * 3)
              have f1 := hG5.frozen (n * 3 + 1)
              have f2 := hG5.frozen (n * 3 + 2)
              have lB := hG5.lt
              clear HF HN HBT F0 k5 KD k35 hG5
              cases bt
              · have HS3 : Hid (rowF C r b Hb (n + 1) = G) := by show _ = _; rw [HS2.out]; simp
                go_wp2_with (fail)
                go_roundw
                case rel => exact ⟨n + 1, by omega, by go_num, by rw [HS3.out]; exact HG5.out, Hc5.out, HB5.out⟩
                case measure => simp [intOf]; omega
              · have HS3 : Hid (rowF C r b Hb (n + 1) = updH G n ⟨n, ff, bx⟩) := by show _ = _; rw [HS2.out]; simp
                go_wp2_with (fail)
                go_region
                all_goals
                  go_wp2_with (fail)
                  go_roundw
                  case rel =>
                    have hne : C0 ≠ B := by have := HB5.out.size; omega
                    refine ⟨n + 1, by omega, by go_num, ?_, Blk.other (Blk.other (Blk.other Hc5.out hne _) hne _) hne _, grown_drew (grownBy_setC (grownBy_setC (grownBy_setC HB5.out _ _) _ _) _ _)⟩
                    rw [HS3.out, ← hC_set _ n _ hn7]
                    exact Blk.set (Blk.set (Blk.set HG5.out _ _) _ _) _ _
                  case measure => simp [intOf]; omega
        · have hn7' : ¬ (n : Int) < 7 := by omega
          have hne : n = 7 := by omega
          have HG : Hid _ := hG
          have Hc0 : Hid _ := hc0
          have HB : Hid _ := hbel
          clear hG hc0 hbel
          go_wp2_with (fail)
          go_roundw
          case rel => exact ⟨b + 1, by omega, by go_num, by rw [HRow.out, ← hne]; exact HG.out, Hc0.out, HB.out⟩
          case measure => simp [intOf]; omega
    · have hb7' : ¬ (b : Int) < 7 := by omega
      have hbe : b = 7 := by omega
      have HG : Hid (Blk wr B (hC (goF C r H 7)) 104) := by rw [← hbe]; exact hG
      have HB : Hid _ := hbel
      clear hG hc0 hbel hbe
      go_wp2_with (fail)
      first | go_end0 | refine bodyPost_ret (results_none rfl _ _ _) rfl ?_
      exact ⟨rfl, HG.out, HB.out⟩
end Go.Proofs.Ytielnomhdahciaa
