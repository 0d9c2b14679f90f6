/-
  Hops: how far others are, and by whom.
-/
import Derived.Test.YtielnomhdahciaaWaysEdge
import Derived.Test.YtielnomhdahciaaWaysGo
import Derived.Test.YtielnomhdahciaaWaysList
namespace Go.Proofs.Ytielnomhdahciaa
open Go.RowKit St

/-- Six rounds. -/
def roundsF (C : Grid) (r : Nat) : Nat → Nat → HP
  | 0 => firstF C r 7
  | k + 1 => goF C r (roundsF C r k) 7
def hopsL (C : Grid) (r : Nat) : List HP := lstF (roundsF C r 6) 7
theorem roundsF_far {C : Grid} (r : Nat) (hC : ∀ x y, 0 ≤ C x y ∧ C x y ≤ 20) : ∀ k, FarLe (roundsF C r k) (20 + 980 * k)
  | 0 => fun n => by
    simp only [roundsF, firstF]
    have := hC r n
    split
    · simp only; omega
    · simp [HP.zero]
  | k + 1 => fun n => by
    have := (roundsF_far r hC k).go (r := r) hC 7 n
    simp only [roundsF]
    push_cast at this ⊢
    omega
theorem bothG_range {C : Grid} (hC : ∀ x y, 0 ≤ C x y ∧ C x y ≤ 20) : ∀ x y, 0 ≤ bothG C x y ∧ bothG C x y ≤ 20 := by
  intro x y
  have := hC x y
  simp only [bothG]
  split <;> omega
theorem hops_bad (a : Option Addr) (n cap : Nat) (root : Int) (w : World) (h : root < 1 ∨ 6 < root) :
    Calls Try.prog 37 #[.slice a n cap, .int .i64 root] w fun e w' => e = .returned (.slice none 0 0) ∧ w = w' := by
  have main : ∀ Q : Prop, (root < 1 → Q) → (¬ root < 1 → 6 < root → Q) → Q := fun Q q1 q2 => by
    by_cases e : root < 1
    · exact q1 e
    · exact q2 e (by omega)
  refine main _ ?_ ?_ <;> clear main
  all_goals
    intros
    go_enter Try.func37, Try.ntmps37
    go_wp2_with (fail)
    go_ret
    exact ⟨rfl, rfl⟩

set_option maxRecDepth 100000 in
set_option maxHeartbeats 8000000 in
theorem hops_any (a : Option Addr) (n cap : Nat) (S : Nat → SV) (E : Nat → List Opt) (r : Nat) (w : World) (h : StsR w a n S E) (hn : n ≤ 1000) (hok : ∀ j, j < n → stF (S j).own (S j).seq (E j) = 0) (hr1 : 1 ≤ r) (hr6 : r ≤ 6) :
    Calls Try.prog 37 #[.slice a n cap, .int .i64 (r : Int)] w fun e w' => ∃ b c, e = .returned (.slice b (hopsL (bothG (tellF S E n)) r).length c) ∧ HsR w' b (hopsL (bothG (tellF S E n)) r).length (hopsL (bothG (tellF S E n)) r) ∧ Below w.heap.size w w' := by
  have htl := told_any a n cap S E w h hn hok
  have hz := zeroCosts
  have hz2 := zeroHops
  have hrg := bothG_range (tellF_range S E n hok)
  have HRG : Hid _ := hrg
  have r1 : ¬ (r : Int) < 1 := by omega
  have r2 : ¬ 6 < (r : Int) := by omega
  obtain ⟨Z, hZ⟩ : ∃ Z, gC (fun _ _ => 0) = Z := ⟨_, rfl⟩
  obtain ⟨Z2, hZ2⟩ : ∃ Z2, hC (fun _ => HP.zero) = Z2 := ⟨_, rfl⟩
  have zs : Z.size = 49 := by rw [← hZ]; exact gC_size _
  have zs2 : Z2.size = 21 := by rw [← hZ2]; exact hC_size _
  rw [hZ] at hz
  rw [hZ2] at hz2
  clear hZ hZ2 hrg hok
  go_enter Try.func37, Try.ntmps37
  go_wp2_with (fail)
  refine htl.mono ?_
  rintro e w1 ⟨rfl, k1⟩
  have hbw := both_any (tellF S E n) w1
  obtain ⟨C, hCe⟩ : ∃ C, bothG (tellF S E n) = C := ⟨_, rfl⟩
  rw [hCe] at hbw HRG
  have HCe : Hid _ := hCe
  clear htl hCe
  go_wp2_with (fail)
  refine hbw.mono ?_
  rintro e w2 ⟨rfl, k2⟩
  have hb2 := below_chain k1 k2
  clear hbw k1 k2
  have gs : (gC C).size = 49 := gC_size _
  have g1 : (gC C).all (·.oneCell') = true := gC_one _
  have hi1 : (Try.prog.info? 100).map (·.size) = some (gC C).size := by rw [gs]; exact size100
  have hsz : Z.size = (gC C).size := by rw [gs, zs]
  have hB : Blk (w2.alloc (.cells Z 100)) w2.heap.size Z 100 := Blk.new _ _ _
  have hB2 : Blk ((w2.alloc (.cells Z 100)).setRow w2.heap.size (gC C)) w2.heap.size (gC C) 100 := hB.setRow
  have Hb3 : Hid (Below w.heap.size w ((w2.alloc (.cells Z 100)).setRow w2.heap.size (gC C))) := below_setRow (hb2.alloc hb2.size _) hb2.size _
  have hfi := first_any C r (by omega) ((w2.alloc (.cells Z 100)).setRow w2.heap.size (gC C))
  have HB2 : Hid _ := hB2
  have Hs2 : Hid _ := hb2.size
  clear hb2
  go_wp2_with (first
    | refine wpList_load_blk _ rfl (.tmp 5) 100 rfl w2.heap.size (gC C) _ _ rfl hB2 Try.underlying100 hi1 ?_
    | refine wpList_store_blk _ rfl (.tmp 5) (.tmp 15) 100 rfl w2.heap.size Z (gC C) rfl rfl hB hsz hi1 g1 ?_)
  refine hfi.mono ?_
  rintro e w3 ⟨rfl, k3⟩
  have hX3 := Blk.below HB2.out k3
  have hb3 := below_chain Hb3.out k3
  obtain ⟨X, hXe⟩ : ∃ X, w2.heap.size = X := ⟨_, rfl⟩
  have HsX : Hid (w.heap.size ≤ X) := by show _ ≤ _; rw [← hXe]; exact Hs2.out
  rw [hXe] at hX3
  rw [hXe]
  have HLX : Hid (X < w3.heap.size) := hX3.lt
  clear hfi hB hB2 HB2 Hb3 k3 Hs2 hXe hi1 hsz
  obtain ⟨F, hF⟩ : ∃ F, hC (firstF C r 7) = F := ⟨_, rfl⟩
  have fs : F.size = 21 := by rw [← hF]; exact hC_size _
  have f1 : F.all (·.oneCell') = true := by rw [← hF]; exact hC_one _
  have hi2 : (Try.prog.info? 104).map (·.size) = some F.size := by rw [fs]; exact size104
  have hsz2 : Z2.size = F.size := by rw [fs, zs2]
  rw [hF]
  have hB : Blk (w3.alloc (.cells Z2 104)) w3.heap.size Z2 104 := Blk.new _ _ _
  have hY4 : Blk ((w3.alloc (.cells Z2 104)).setRow w3.heap.size F) w3.heap.size F 104 := hB.setRow
  have hX4 : Blk ((w3.alloc (.cells Z2 104)).setRow w3.heap.size F) X (gC C) 100 := (hX3.below (below_alloc _ _)).otherRow (by have := HLX.out; omega)
  have Hb4 : Hid (Below w.heap.size w ((w3.alloc (.cells Z2 104)).setRow w3.heap.size F)) := below_setRow (hb3.alloc hb3.size _) hb3.size _
  have HY4 : Hid (Blk ((w3.alloc (.cells Z2 104)).setRow w3.heap.size F) w3.heap.size (hC (roundsF C r 0)) 104) := by show Blk _ _ (hC (firstF C r 7)) _; rw [hF]; exact hY4
  have HX4 : Hid _ := hX4
  have HS3 : Hid _ := hb3.size
  clear hb3 hF hX3
  go_wp2_with (first
    | refine wpList_store_blk _ rfl (.tmp 6) (.tmp 18) 104 rfl w3.heap.size Z2 F rfl rfl hB hsz2 hi2 f1 ?_)
  obtain ⟨Y, hYe⟩ : ∃ Y, w3.heap.size = Y := ⟨_, rfl⟩
  rw [hYe] at HY4 HX4 Hb4 HLX HS3
  rw [hYe]
  clear hYe hB hY4 hX4 hi2 hsz2 fs f1
  obtain ⟨W4, hW4⟩ : ∃ W4, (w3.alloc (.cells Z2 104)).setRow Y F = W4 := ⟨_, rfl⟩
  rw [hW4] at HY4 HX4 Hb4
  rw [hW4]
  clear hW4
  have HRF := roundsF_far r HRG.out
  have HRFh : Hid _ := HRF
  clear HRF
  go_loopw [19] (fun v wr => ∃ k : Nat, k ≤ 6 ∧ v = .int .i64 k ∧ Blk wr X (gC C) 100 ∧ Blk wr Y (hC (roundsF C r k)) 104 ∧ Below w.heap.size w wr) (fun v _ => 6 - (intOf v).toNat)
  case atStart => exact ⟨0, by omega, rfl, HX4.out, HY4.out, Hb4.out⟩
  case round =>
    clear HX4 HY4 Hb4
    obtain ⟨k, hk, rfl, hX, hY, hbel⟩ := hrel
    by_cases hk6 : k < 6
    · have hk6' : (k : Int) < 6 := by omega
      have hi1 : (Try.prog.info? 100).map (·.size) = some (gC C).size := by rw [gs]; exact size100
      have hgo := goOn_any C r (by omega) (roundsF C r k) Y (20 + 980 * k) wr hY HRG.out (HRFh.out k) (by omega)
      have HX : Hid _ := hX
      have HB : Hid _ := hbel
      clear hY hbel
      go_wp2_with (first
        | refine wpList_load_blk _ rfl (.tmp 5) 100 rfl X (gC C) _ _ rfl hX Try.underlying100 hi1 ?_)
      refine hgo.mono ?_
      rintro e w5 ⟨rfl, hY5, hg5⟩
      have hXl := Blk.lt HX.out
      have HX5 : Hid (Blk w5 X (gC C) 100) := Blk.keep HX.out (hg5.block X hXl (fun e => by have := HLX.out; simp at e; omega))
      have HY5 : Hid _ := hY5
      have HB5 : Hid (Below w.heap.size w w5) := ⟨hg5.os.trans HB.out.os, hg5.tape.trans HB.out.tape, hg5.output.trans HB.out.output, Nat.le_trans HB.out.size hg5.size, fun i hi => (hg5.block i (Nat.lt_of_lt_of_le hi HB.out.size) (fun e => by have := HS3.out; simp at e; omega)).trans (HB.out.block i hi)⟩
      clear hgo hY5 hg5 hX hi1
      go_wp2_with (fail)
      go_roundw
      case rel => exact ⟨k + 1, by omega, by go_num, HX5.out, HY5.out, HB5.out⟩
      case measure => simp [intOf]; omega
    · have hk6' : ¬ (k : Int) < 6 := by omega
      have hke : k = 6 := by omega
      have hli := list_any (roundsF C r k) Y wr hY
      have HL : Hid (lstF (roundsF C r k) 7 = hopsL (bothG (tellF S E n)) r) := by show _ = _; rw [HCe.out, hke]; rfl
      rw [HL.out] at hli
      clear hX hY hke HL
      go_wp2_with (fail)
      refine hli.mono ?_
      rintro e w5 ⟨ra, rc, rfl, hR, k5⟩
      have HR : Hid _ := hR
      have HB : Hid _ := below_chain hbel k5
      clear hli hR k5 hbel
      go_wp2_with (fail)
      go_ret
      first | exact ⟨_, _, rfl, HR.out, HB.out⟩ | exact ⟨_, ⟨_, rfl⟩, HR.out, HB.out⟩
end Go.Proofs.Ytielnomhdahciaa
