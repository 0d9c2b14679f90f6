/-
  WaysFirst WaysGo WaysHops
-/
import Derived.Test.YtieklnlbljejdaaGreatDoorG16
import Derived.Test.YtieklnlbljejdaaGreatDoorG18
import Derived.BigQuiet
namespace Go.Proofs.YtieklnlbljejdaaGreatDoor
open Go.RowKit St
def firstF (C : Grid) (r n : Nat) : Nat → HP := fun x => if x < n ∧ 0 < C r x then ⟨x, C r x, x⟩ else HP.zero
theorem hC_congr {H K : Nat → HP} (h : ∀ x, x < 7 → H x = K x) : hC H = hC K := by
 apply Array.ext_getElem?
 intro i
 by_cases hi : i < 21
 · rw [hC_at _ i hi, hC_at _ i hi]
   unfold hopAt
   rw [h (i / 3) (by omega)]
 · rw [Array.getElem?_eq_none (by rw [hC_size]; omega), Array.getElem?_eq_none (by rw [hC_size]; omega)]
theorem firstF_yes (C : Grid) (r n : Nat) (h : 0 < C r n) : hC (firstF C r (n + 1)) = hC (updH (firstF C r n) n ⟨n, C r n, n⟩) := by
 refine hC_congr fun x hx => ?_
 simp only [firstF, updH]
 by_cases e : x = n
 · subst e
   rw [if_pos ⟨by omega, h⟩, if_pos rfl]
 · rw [if_neg e]
   by_cases h2 : x < n ∧ 0 < C r x
   · rw [if_pos h2, if_pos ⟨by omega, h2.2⟩]
   · rw [if_neg h2, if_neg (fun e2 => h2 ⟨by omega, e2.2⟩)]
theorem firstF_no (C : Grid) (r n : Nat) (h : ¬ 0 < C r n) : hC (firstF C r (n + 1)) = hC (firstF C r n) := by
 refine hC_congr fun x hx => ?_
 simp only [firstF]
 by_cases e : x = n
 · subst e
   rw [if_neg (fun e2 => h e2.2), if_neg (fun e2 => h e2.2)]
 · by_cases h2 : x < n ∧ 0 < C r x
   · rw [if_pos h2, if_pos ⟨by omega, h2.2⟩]
   · rw [if_neg h2, if_neg (fun e2 => h2 ⟨by omega, e2.2⟩)]
set_option maxRecDepth 100000 in
set_option maxHeartbeats 4000000 in
theorem first_any (C : Grid) (r : Nat) (hr : r < 7) (w : World) :
 Calls Tryz.prog 164 #[.agg (gC C), .int .i64 (r : Int)] w fun e w' => e = .returned (.agg (hC (firstF C r 7))) ∧ Below w.heap.size w w' := by
 have hz := zeroHops
 obtain ⟨Z, hZ⟩ : ∃ Z, hC (fun _ => HP.zero) = Z := ⟨_, rfl⟩
 rw [hZ] at hz
 obtain ⟨c, hc⟩ : ∃ c, gC C = c := ⟨_, rfl⟩
 rw [hc]
 have hr7 : (r : Int) < 7 := by omega
 go_enter Tryz.func164, Tryz.ntmps164
 go_wp2_with (fail)
 obtain ⟨W0, hW0⟩ : ∃ W0, ((w.alloc (.cells c 256)).alloc (.cells Z 259)).alloc (.cells Z 259) = W0 := ⟨_, rfl⟩
 have hb0 : Below w.heap.size w W0 := by rw [← hW0]; exact ((below_alloc _ _).alloc (by simp) _).alloc (by simp; omega) _
 have hB0 : Blk W0 w.heap.size c 256 := by rw [← hW0]; exact ((Blk.new w c _).below (below_alloc _ _)).below (below_alloc _ _)
 have hB1 : Blk W0 (w.heap.size + 1) Z 259 := by rw [← hW0]; exact (Blk.newN _ Z _ _ (by simp)).below (below_alloc _ _)
 have hB2 : Blk W0 (w.heap.size + 2) (hC (firstF C r 0)) 259 := by
  rw [← hW0]
  have : hC (firstF C r 0) = Z := by rw [← hZ]; exact hC_congr fun x _ => by simp [firstF]
  rw [this]
  exact Blk.newN _ _ _ _ (by simp)
 rw [hW0]
 clear hW0
 obtain ⟨C0, hC0⟩ : ∃ C0, w.heap.size = C0 := ⟨_, rfl⟩
 have hl0 : w.heap.size ≤ C0 := by omega
 rw [hC0] at hB0 hB1 hB2
 rw [hC0]
 clear hC0
 go_loopw [8] (fun v wr => ∃ n : Nat, n ≤ 7 ∧ v = .int .i64 n ∧ Blk wr (C0 + 2) (hC (firstF C r n)) 259 ∧ Blk wr C0 c 256 ∧ Blk wr (C0 + 1) Z 259 ∧ Below w.heap.size w wr) (fun v _ => 7 - (intOf v).toNat)
 case atStart => exact ⟨0, by omega, rfl, hB2, hB0, hB1, hb0⟩
 case round =>
  clear hB0 hB1 hB2 hb0
  obtain ⟨n, hn, rfl, hG, hc0, hZ0, hbel⟩ := hrel
  by_cases hn7 : n < 7
  · have hn7' : (n : Int) < 7 := by omega
    have r1 : wr.cell? ⟨C0, r * 7 + n, none⟩ = some (.int .i64 (C r n)) := (hc0.cell _).trans (by rw [← hc]; exact gC_get C r n hr hn7)
    obtain ⟨q0, q1, q2⟩ := hC_get (firstF C r n) n hn7
    have s0 := (hG.cell (n * 3)).trans q0
    have s1 := (hG.cell (n * 3 + 1)).trans q1
    have s2 := (hG.cell (n * 3 + 2)).trans q2
    have f0 := hG.frozen (n * 3)
    have f1 := hG.frozen (n * 3 + 1)
    have f2 := hG.frozen (n * 3 + 2)
    have lG := hG.lt
    have HG : Hid _ := hG
    have Hc0 : Hid _ := hc0
    have HZ0 : Hid _ := hZ0
    have HB : Hid _ := hbel
    clear hG hc0 hZ0 hbel q0 q1 q2
    have HY := firstF_yes C r n
    have HN := firstF_no C r n
    have HYy : Hid _ := HY
    have HNn : Hid _ := HN
    clear HY HN
    by_cases hpos : 0 < C r n
    · go_wp2_with (fail)
      go_roundw
      case rel =>
       refine ⟨n + 1, by omega, by go_num, ?_, Blk.other (Blk.other (Blk.other Hc0.out (by omega) _) (by omega) _) (by omega) _, Blk.other (Blk.other (Blk.other HZ0.out (by omega) _) (by omega) _) (by omega) _, Below.setCell (Below.setCell (Below.setCell HB.out (by show w.heap.size ≤ C0 + 2; omega) _) (by show w.heap.size ≤ C0 + 2; omega) _) (by show w.heap.size ≤ C0 + 2; omega) _⟩
       rw [HYy.out hpos, ← hC_set _ n _ hn7]
       exact Blk.set (Blk.set (Blk.set HG.out _ _) _ _) _ _
      case measure => simp [intOf]; omega
    · go_wp2_with (fail)
      go_roundw
      case rel => exact ⟨n + 1, by omega, by go_num, by rw [HNn.out hpos]; exact HG.out, Hc0.out, HZ0.out, HB.out⟩
      case measure => simp [intOf]; omega
  · have hn7' : ¬ (n : Int) < 7 := by omega
    have hne : n = 7 := by omega
    obtain ⟨g, hg⟩ : ∃ g, hC (firstF C r n) = g := ⟨_, rfl⟩
    have gs : g.size = 21 := by rw [← hg]; exact hC_size _
    have g1 : g.all (·.oneCell') = true := by rw [← hg]; exact hC_one _
    have zs : Z.size = 21 := by rw [← hZ]; exact hC_size _
    have HGE : Hid (g = hC (firstF C r 7)) := by show _ = _; rw [← hg, hne]
    rw [hg] at hG
    have hR : Blk (wr.setRow (C0 + 1) g) (C0 + 1) g 259 := hZ0.setRow
    have l6 := run_loadVar_row (P := Tryz.prog) (wr.setRow (C0 + 1) g) (C0 + 1) 259 259 g (0, 0) _ hR Tryz.underlying259 rfl (by rw [gs]; exact size104)
    have HBE : Hid (Below w.heap.size w (wr.setRow (C0 + 1) g)) := below_setRow hbel (by omega) g
    have hi1 : (Tryz.prog.info? 259).map (·.size) = some g.size := by rw [gs]; exact size104
    have hsz : Z.size = g.size := by rw [gs, zs]
    clear hR hg hZ hbel hc0 hne
    go_wp2_with (first
     | refine wpList_load_blk _ rfl (.tmp 5) 259 rfl (C0 + 2) g _ _ rfl hG Tryz.underlying259 hi1 ?_
     | refine wpList_store_blk _ rfl (.tmp 4) (.tmp 25) 259 rfl (C0 + 1) Z g rfl rfl hZ0 hsz hi1 g1 ?_)
    refine bodyPost_ret (v := .agg g) (by simp [results, Tryz.results164, asAddr, l6]) rfl ?_
    exact ⟨by rw [HGE.out], HBE.out⟩
def betB (a b : HP) : Bool := b.far == 0 || decide (a.far < b.far) || (a.far == b.far && decide (a.nxt < b.nxt))
set_option maxRecDepth 100000 in
set_option maxHeartbeats 2000000 in
theorem wbetter_any (a b : HP) (w : World) :
 Calls Tryz.prog 205 #[.agg #[.int .i64 a.dst, .int .i64 a.far, .int .i64 a.nxt], .agg #[.int .i64 b.dst, .int .i64 b.far, .int .i64 b.nxt]] w fun e w' => e = .returned (.bool (betB a b)) ∧ Below w.heap.size w w' := by
 obtain ⟨a0, a1, a2⟩ := a
 obtain ⟨b0, b1, b2⟩ := b
 simp only
 have hb0 : Below w.heap.size w ((w.alloc (.cells #[.int .i64 a0, .int .i64 a1, .int .i64 a2] 98)).alloc (.cells #[.int .i64 b0, .int .i64 b1, .int .i64 b2] 98)) := (below_alloc _ _).alloc (by simp) _
 have HV : Hid (betB ⟨a0, a1, a2⟩ ⟨b0, b1, b2⟩ = (b1 == 0 || decide (a1 < b1) || (a1 == b1 && decide (a2 < b2)))) := rfl
 by_cases h0 : (b1 == 0) = true
 · have HV2 : Hid (betB ⟨a0, a1, a2⟩ ⟨b0, b1, b2⟩ = true) := by show _ = _; rw [HV.out, h0]; rfl
   go_enter Tryz.func205, Tryz.ntmps205
   go_wp2_with (fail)
   rw [HV2.out]
   go_ret
   exact ⟨rfl, hb0⟩
 have h0' : (b1 == 0) = false := by simpa using h0
 by_cases h1 : a1 < b1
 · have HV2 : Hid (betB ⟨a0, a1, a2⟩ ⟨b0, b1, b2⟩ = true) := by show _ = _; rw [HV.out, decide_eq_true h1]; simp
   go_enter Tryz.func205, Tryz.ntmps205
   go_wp2_with (fail)
   rw [HV2.out]
   go_ret
   exact ⟨rfl, hb0⟩
 by_cases h2 : (a1 == b1) = true
 · have HV2 : Hid (betB ⟨a0, a1, a2⟩ ⟨b0, b1, b2⟩ = decide (a2 < b2)) := by show _ = _; rw [HV.out, h0', decide_eq_false h1, h2]; simp
   rw [HV2.out]
   go_enter Tryz.func205, Tryz.ntmps205
   go_wp2_with (fail)
   go_ret
   exact ⟨rfl, hb0⟩
 have h2' : (a1 == b1) = false := by simpa using h2
 have HV2 : Hid (betB ⟨a0, a1, a2⟩ ⟨b0, b1, b2⟩ = false) := by show _ = _; rw [HV.out, h0', decide_eq_false h1, h2']; simp
 go_enter Tryz.func205, Tryz.ntmps205
 go_wp2_with (fail)
 rw [HV2.out]
 go_ret
 exact ⟨rfl, hb0⟩
end Go.Proofs.YtieklnlbljejdaaGreatDoor

namespace Go.Proofs.YtieklnlbljejdaaGreatDoor
open Go.RowKit St
def stepH (C : Grid) (r b n : Nat) (H : Nat → HP) : Nat → HP :=
 if (H b).far = 0 ∨ C b n = 0 ∨ n = r then H
 else if betB ⟨n, (H b).far + C b n, (H b).nxt⟩ (H n) = true then updH H n ⟨n, (H b).far + C b n, (H b).nxt⟩ else H
def rowF (C : Grid) (r b : Nat) (H : Nat → HP) : Nat → Nat → HP
 | 0 => H
 | n + 1 => stepH C r b n (rowF C r b H n)
def goF (C : Grid) (r : Nat) (H : Nat → HP) : Nat → Nat → HP
 | 0 => H
 | b + 1 => rowF C r b (goF C r H b) 7
def FarLe (H : Nat → HP) (m : Int) : Prop := ∀ n, 0 ≤ (H n).far ∧ (H n).far ≤ m
theorem FarLe.step {C : Grid} {r b n : Nat} {H : Nat → HP} {m : Int} (h : FarLe H m) (hC : ∀ x y, 0 ≤ C x y ∧ C x y ≤ 20) : FarLe (stepH C r b n H) (m + 20) := by
 intro x
 have hx := h x
 have hb := h b
 have hc := hC b n
 unfold stepH
 split
 · omega
 · split
   · simp only [updH]
     split
     · simp only
       omega
     · omega
   · omega
theorem FarLe.row {C : Grid} {r b : Nat} {H : Nat → HP} {m : Int} (h : FarLe H m) (hC : ∀ x y, 0 ≤ C x y ∧ C x y ≤ 20) : ∀ n, FarLe (rowF C r b H n) (m + 20 * n)
 | 0 => fun x => by have := h x; simp only [rowF]; omega
 | n + 1 => fun x => by
   have := (FarLe.step (C := C) (r := r) (b := b) (n := n) (FarLe.row (r := r) (b := b) h hC n) hC) x
   simp only [rowF]
   push_cast
   omega
theorem FarLe.go {C : Grid} {r : Nat} {H : Nat → HP} {m : Int} (h : FarLe H m) (hC : ∀ x y, 0 ≤ C x y ∧ C x y ≤ 20) : ∀ b, FarLe (goF C r H b) (m + 140 * b)
 | 0 => fun x => by have := h x; simp only [goF]; omega
 | b + 1 => fun x => by
   have := (FarLe.row (C := C) (r := r) (b := b) (FarLe.go (r := r) h hC b) hC 7) x
   simp only [goF]
   push_cast at this ⊢
   omega
theorem grown_drew {a w : World} {o : Option Nat} (h : a.grownBy w o) : a.grownBy w.drew o := ⟨h.os, h.tape, h.output, h.size, h.block⟩
set_option maxRecDepth 100000 in
set_option maxHeartbeats 8000000 in
theorem goOn_any (C : Grid) (r : Nat) (hr : r < 7) (H : Nat → HP) (B : Nat) (m : Int) (w : World) (hB : Blk w B (hC H) 259) (hC20 : ∀ x y, 0 ≤ C x y ∧ C x y ≤ 20) (hm : FarLe H m) (hm2 : m ≤ 1000000) :
 Calls Tryz.prog 165 #[.pointer (some ⟨B, 0, none⟩), .agg (gC C), .int .i64 (r : Int)] w fun e w' => e = .returned (.tuple #[]) ∧ Blk w' B (hC (goF C r H 7)) 259 ∧ w.grownBy w' (some B) := by
 obtain ⟨c, hc⟩ : ∃ c, gC C = c := ⟨_, rfl⟩
 rw [hc]
 have hr7 : (r : Int) < 7 := by omega
 go_enter Tryz.func165, Tryz.ntmps165
 go_wp2_with (fail)
 obtain ⟨W0, hW0⟩ : ∃ W0, w.alloc (.cells c 256) = W0 := ⟨_, rfl⟩
 have hk0 : Below w.heap.size w W0 := by rw [← hW0]; exact below_alloc _ _
 have hb0 : w.grownBy W0 (some B) := ⟨hk0.os, hk0.tape, hk0.output, hk0.size, fun i hi _ => hk0.block i hi⟩
 have hB0 : Blk W0 w.heap.size c 256 := by rw [← hW0]; exact Blk.new w c _
 have hB1 : Blk W0 B (hC (goF C r H 0)) 259 := hB.below hk0
 have hBC : B < w.heap.size := hB.lt
 rw [hW0]
 clear hW0 hk0 hB
 obtain ⟨C0, hC0⟩ : ∃ C0, w.heap.size = C0 := ⟨_, rfl⟩
 have hl0 : w.heap.size ≤ C0 := by omega
 rw [hC0] at hB0 hBC
 rw [hC0]
 clear hC0
 have HFL := fun b => hm.go (r := r) hC20 b
 have HM : Hid _ := HFL
 clear HFL hm
 go_loopw [9] (fun v wr => ∃ b : Nat, b ≤ 7 ∧ v = .int .i64 b ∧ Blk wr B (hC (goF C r H b)) 259 ∧ Blk wr C0 c 256 ∧ w.grownBy wr (some B)) (fun v _ => 7 - (intOf v).toNat)
 case atStart => exact ⟨0, by omega, rfl, hB1, hB0, hb0⟩
 case round =>
  clear hB0 hB1 hb0
  obtain ⟨b, hb, rfl, hG, hc0, hbel⟩ := hrel
  by_cases hb7 : b < 7
  · have hb7' : (b : Int) < 7 := by omega
    have HG : Hid _ := hG
    have Hc0 : Hid _ := hc0
    have HB : Hid _ := hbel
    have HRow : Hid (goF C r H (b + 1) = rowF C r b (goF C r H b) 7) := rfl
    have hmb := HM.out b
    clear hG hc0 hbel
    obtain ⟨Hb, hHb⟩ : ∃ Hb, goF C r H b = Hb := ⟨_, rfl⟩
    rw [hHb] at HG HRow hmb
    have HMB : Hid (∀ n, FarLe (rowF C r b Hb n) (m + 140 * b + 20 * n)) := fun n => hmb.row hC20 n
    clear hmb hHb
    go_wp2_with (fail)
    go_loopw [12] (fun v wr => ∃ n : Nat, n ≤ 7 ∧ v = .int .i64 n ∧ Blk wr B (hC (rowF C r b Hb n)) 259 ∧ Blk wr C0 c 256 ∧ w.grownBy wr (some B)) (fun v _ => 7 - (intOf v).toNat)
    case atStart => exact ⟨0, by omega, rfl, HG.out, Hc0.out, HB.out⟩
    case round =>
     clear HG Hc0 HB
     obtain ⟨n, hn, rfl, hG, hc0, hbel⟩ := hrel
     by_cases hn7 : n < 7
     · have hn7' : (n : Int) < 7 := by omega
       have HSt : Hid (rowF C r b Hb (n + 1) = stepH C r b n (rowF C r b Hb n)) := rfl
       have hfl := HMB.out n b
       obtain ⟨G, hGe⟩ : ∃ G, rowF C r b Hb n = G := ⟨_, rfl⟩
       rw [hGe] at hG HSt hfl
       clear hGe
       have r1 : wr.cell? ⟨C0, b * 7 + n, none⟩ = some (.int .i64 (C b n)) := (hc0.cell _).trans (by rw [← hc]; exact gC_get C b n hb7 hn7)
       obtain ⟨p0, p1, p2⟩ := hC_get G b hb7
       have b0 := (hG.cell (b * 3)).trans p0
       have b1 := (hG.cell (b * 3 + 1)).trans p1
       have b2 := (hG.cell (b * 3 + 2)).trans p2
       clear p0 p1 p2
       have HG : Hid _ := hG
       have Hc0 : Hid _ := hc0
       have HB : Hid _ := hbel
       clear hG hc0 hbel
       by_cases h1 : (G b).far = 0
       · have h1' : ((G b).far == 0) = true := by simpa using h1
         have HS2 : Hid (rowF C r b Hb (n + 1) = G) := by show _ = _; rw [HSt.out, stepH, if_pos (.inl h1)]
         generalize (G b).far = bf at b1 h1'
         clear h1
         go_wp2_with (fail)
         go_roundw
         case rel => exact ⟨n + 1, by omega, by go_num, by rw [HS2.out]; exact HG.out, Hc0.out, HB.out⟩
         case measure => simp [intOf]; omega
       have h1' : ((G b).far == 0) = false := by simpa using h1
       by_cases h2 : C b n = 0
       · have h2' : (C b n == 0) = true := by simpa using h2
         have HS2 : Hid (rowF C r b Hb (n + 1) = G) := by show _ = _; rw [HSt.out, stepH, if_pos (.inr (.inl h2))]
         generalize (G b).far = bf at b1 h1'
         generalize C b n = cbn at r1 h2'
         clear h1 h2
         go_wp2_with (fail)
         go_roundw
         case rel => exact ⟨n + 1, by omega, by go_num, by rw [HS2.out]; exact HG.out, Hc0.out, HB.out⟩
         case measure => simp [intOf]; omega
       have h2' : (C b n == 0) = false := by simpa using h2
       by_cases h3 : n = r
       · have h3' : ((n : Int) == (r : Int)) = true := by simp [h3]
         have HS2 : Hid (rowF C r b Hb (n + 1) = G) := by show _ = _; rw [HSt.out, stepH, if_pos (.inr (.inr h3))]
         generalize (G b).far = bf at b1 h1'
         generalize C b n = cbn at r1 h2'
         clear h1 h2 h3
         go_wp2_with (fail)
         go_roundw
         case rel => exact ⟨n + 1, by omega, by go_num, by rw [HS2.out]; exact HG.out, Hc0.out, HB.out⟩
         case measure => simp [intOf]; omega
       have h3' : ((n : Int) == (r : Int)) = false := by
        have : ¬ (n : Int) = (r : Int) := by omega
        simpa using this
       have HS2 : Hid (rowF C r b Hb (n + 1) = if betB ⟨n, (G b).far + C b n, (G b).nxt⟩ (G n) = true then updH G n ⟨n, (G b).far + C b n, (G b).nxt⟩ else G) := by
        show _ = _
        rw [HSt.out, stepH, if_neg (by simp [h1, h2, h3])]
       have hcb := hC20 b n
       have hwr : IntKind.i64.wrap ((G b).far + C b n) = (G b).far + C b n := IntWalk.i64_in _ ⟨by omega, by omega⟩
       have HBT := wbetter_any ⟨n, (G b).far + C b n, (G b).nxt⟩ (G n)
       obtain ⟨p0, p1, p2⟩ := hC_get G n hn7
       have HN : Hid (∀ W, Blk W B (hC G) 259 → W.cell? ⟨B, n * 3, none⟩ = some (.int .i64 (G n).dst) ∧ W.cell? ⟨B, n * 3 + 1, none⟩ = some (.int .i64 (G n).far) ∧ W.cell? ⟨B, n * 3 + 2, none⟩ = some (.int .i64 (G n).nxt)) :=
        fun W hW => ⟨(hW.cell _).trans p0, (hW.cell _).trans p1, (hW.cell _).trans p2⟩
       clear p0 p1 p2 HSt h1 h2 h3 hfl hcb
       generalize betB ⟨n, (G b).far + C b n, (G b).nxt⟩ (G n) = bt at HS2 HBT
       simp only at HBT
       generalize hff : (G b).far + C b n = ff at HS2 HBT hwr
       generalize (G b).far = bf at b1 h1' hff hwr
       generalize C b n = cbn at r1 h2' hff hwr
       generalize (G b).nxt = bx at b2 HS2 HBT
       generalize (G n).dst = nd at HN HBT
       generalize (G n).far = nf at HN HBT
       generalize (G n).nxt = nx at HN HBT
       have hwr2 : IntKind.i64.wrap (bf + cbn) = ff := by rw [hff]; exact hwr
       have d0 : wr.drew.cell? ⟨B, b * 3 + 1, none⟩ = some (.int .i64 bf) := b1
       have d1 : wr.drew.cell? ⟨B, b * 3 + 2, none⟩ = some (.int .i64 bx) := b2
       have d2 : wr.drew.cell? ⟨C0, b * 7 + n, none⟩ = some (.int .i64 cbn) := r1
       have lB : B < wr.heap.size := Blk.lt HG.out
       have lC : C0 < wr.heap.size := Blk.lt Hc0.out
       have kz := below_alloc wr (.cells #[.int .i64 0, .int .i64 0, .int .i64 0] 98)
       have e0 := (kz.cell (p := ⟨B, b * 3 + 1, none⟩) lB).trans b1
       have e1 := (kz.cell (p := ⟨B, b * 3 + 2, none⟩) lB).trans b2
       have e2 := (kz.cell (p := ⟨C0, b * 7 + n, none⟩) lC).trans r1
       clear hff hwr kz
       go_upto_region 8 with fail
       clear h1' h2' h3'
       go_region
       all_goals
        obtain ⟨W3, hW3⟩ : ∃ W3, (wr.alloc (.cells #[.int .i64 (n : Int), .int .i64 ff, .int .i64 bx] 98)).drew = W3 := ⟨_, rfl⟩
        have k3 : Below wr.heap.size wr W3 := by rw [← hW3]; exact below_drewN (below_alloc _ _) 1
        have hY : Blk W3 wr.heap.size #[.int .i64 (n : Int), .int .i64 ff, .int .i64 bx] 98 := by rw [← hW3]; exact Blk.drewN (Blk.new wr _ _) 1
        obtain ⟨Y, hYe⟩ : ∃ Y, wr.heap.size = Y := ⟨_, rfl⟩
        have hG3 := Blk.below HG.out k3
        have Hc3 : Hid _ := Blk.below Hc0.out k3
        have HB3 : Hid (w.grownBy W3 (some B)) := ⟨k3.os.trans HB.out.os, k3.tape.trans HB.out.tape, k3.output.trans HB.out.output, Nat.le_trans HB.out.size k3.size, fun i hi hne => (k3.block i (Nat.lt_of_lt_of_le hi HB.out.size)).trans (HB.out.block i hi hne)⟩
        have HYB : Hid (B < Y ∧ C0 < Y) := by show _ ∧ _; rw [← hYe]; exact ⟨lB, lC⟩
        rw [hYe] at hY
        have HY : Hid _ := hY
        have HG3 : Hid _ := hG3
        have HF : Hid (∀ W, Below W3.heap.size W3 W → (W.cell? ⟨Y, 0, none⟩ = some (.int .i64 (n : Int)) ∧ W.cell? ⟨Y, 1, none⟩ = some (.int .i64 ff) ∧ W.cell? ⟨Y, 2, none⟩ = some (.int .i64 bx)) ∧ W.cell? ⟨B, n * 3, none⟩ = some (.int .i64 nd) ∧ W.cell? ⟨B, n * 3 + 1, none⟩ = some (.int .i64 nf) ∧ W.cell? ⟨B, n * 3 + 2, none⟩ = some (.int .i64 nx)) := by
         intro W hW
         have q := Blk.below HY.out hW
         exact ⟨⟨Blk.cell q 0, Blk.cell q 1, Blk.cell q 2⟩, HN.out W (Blk.below HG3.out hW)⟩
        have KD : Below W3.heap.size W3 W3.drew := below_drewN (Below.refl _ _) 1
        have F0 := HF.out _ KD
        rw [hW3, hYe]
        clear hW3 k3 hYe hG3 hY d0 d1 d2 e0 e1 e2 b0 b1 b2 r1 lB lC hwr2
        go_wp2_with (fail)
        go_region_held3 (fun x => (x.cell? ⟨Y, 0, none⟩ = some (.int .i64 (n : Int)) ∧ x.cell? ⟨Y, 1, none⟩ = some (.int .i64 ff) ∧ x.cell? ⟨Y, 2, none⟩ = some (.int .i64 bx)) ∧ x.cell? ⟨B, n * 3, none⟩ = some (.int .i64 nd) ∧ x.cell? ⟨B, n * 3 + 1, none⟩ = some (.int .i64 nf) ∧ x.cell? ⟨B, n * 3 + 2, none⟩ = some (.int .i64 nx))
         (first | assumption | exact F0 | exact F1)
         ((go_at_call 205; refine (HBT _).mono ?_; rintro e w5 ⟨rfl, k5⟩; have F1 := HF.out _ (below_chain KD k5)))
        all_goals
         have k35 := below_chain KD k5
         have hG5 := Blk.below HG3.out k35
         have HG5 : Hid _ := hG5
         have Hc5 : Hid _ := Blk.below Hc3.out k35
         have HB5 : Hid (w.grownBy w5 (some B)) := ⟨k35.os.trans HB3.out.os, k35.tape.trans HB3.out.tape, k35.output.trans HB3.out.output, Nat.le_trans HB3.out.size k35.size, fun i hi hne => (k35.block i (Nat.lt_of_lt_of_le hi HB3.out.size)).trans (HB3.out.block i hi hne)⟩
         obtain ⟨⟨y0, y1, y2⟩, g0, g1, g2⟩ := F1
         have f0 := hG5.frozen (n * 3)
         have f1 := hG5.frozen (n * 3 + 1)
         have f2 := hG5.frozen (n * 3 + 2)
         have lB := hG5.lt
         clear HF HN HBT F0 k5 KD k35 hG5
         cases bt
         · have HS3 : Hid (rowF C r b Hb (n + 1) = G) := by show _ = _; rw [HS2.out]; simp
           go_wp2_with (fail)
           go_roundw
           case rel => exact ⟨n + 1, by omega, by go_num, by rw [HS3.out]; exact HG5.out, Hc5.out, HB5.out⟩
           case measure => simp [intOf]; omega
         · have HS3 : Hid (rowF C r b Hb (n + 1) = updH G n ⟨n, ff, bx⟩) := by show _ = _; rw [HS2.out]; simp
           go_wp2_with (fail)
           go_region
           all_goals
            go_wp2_with (fail)
            go_roundw
            case rel =>
             have hne : C0 ≠ B := by have := HB5.out.size; omega
             refine ⟨n + 1, by omega, by go_num, ?_, Blk.other (Blk.other (Blk.other Hc5.out hne _) hne _) hne _, grown_drew (grownBy_setC (grownBy_setC (grownBy_setC HB5.out _ _) _ _) _ _)⟩
             rw [HS3.out, ← hC_set _ n _ hn7]
             exact Blk.set (Blk.set (Blk.set HG5.out _ _) _ _) _ _
            case measure => simp [intOf]; omega
     · have hn7' : ¬ (n : Int) < 7 := by omega
       have hne : n = 7 := by omega
       have HG : Hid _ := hG
       have Hc0 : Hid _ := hc0
       have HB : Hid _ := hbel
       clear hG hc0 hbel
       go_wp2_with (fail)
       go_roundw
       case rel => exact ⟨b + 1, by omega, by go_num, by rw [HRow.out, ← hne]; exact HG.out, Hc0.out, HB.out⟩
       case measure => simp [intOf]; omega
  · have hb7' : ¬ (b : Int) < 7 := by omega
    have hbe : b = 7 := by omega
    have HG : Hid (Blk wr B (hC (goF C r H 7)) 259) := by rw [← hbe]; exact hG
    have HB : Hid _ := hbel
    clear hG hc0 hbel hbe
    go_wp2_with (fail)
    first | go_end0 | refine bodyPost_ret (results_none rfl _ _ _) rfl ?_
    exact ⟨rfl, HG.out, HB.out⟩
end Go.Proofs.YtieklnlbljejdaaGreatDoor

namespace Go.Proofs.YtieklnlbljejdaaGreatDoor
open Go.RowKit St
def roundsF (C : Grid) (r : Nat) : Nat → Nat → HP
 | 0 => firstF C r 7
 | k + 1 => goF C r (roundsF C r k) 7
def hopsL (C : Grid) (r : Nat) : List HP := lstF (roundsF C r 6) 7
theorem roundsF_far {C : Grid} (r : Nat) (hC : ∀ x y, 0 ≤ C x y ∧ C x y ≤ 20) : ∀ k, FarLe (roundsF C r k) (20 + 980 * k)
 | 0 => fun n => by
   simp only [roundsF, firstF]
   have := hC r n
   split
   · simp only; omega
   · simp [HP.zero]
 | k + 1 => fun n => by
   have := (roundsF_far r hC k).go (r := r) hC 7 n
   simp only [roundsF]
   push_cast at this ⊢
   omega
theorem bothG_range {C : Grid} (hC : ∀ x y, 0 ≤ C x y ∧ C x y ≤ 20) : ∀ x y, 0 ≤ bothG C x y ∧ bothG C x y ≤ 20 := by
 intro x y
 have := hC x y
 simp only [bothG]
 split <;> omega
set_option maxRecDepth 100000 in
set_option maxHeartbeats 8000000 in
theorem hops_any (a : Option Addr) (n cap : Nat) (S : Nat → SV) (E : Nat → List Opt) (r : Nat) (w : World) (h : StsR w a n S E) (hn : n ≤ 1000) (hok : ∀ j, j < n → stF (S j).own (S j).seq (E j) = 0) (hr1 : 1 ≤ r) (hr6 : r ≤ 6) :
 Calls Tryz.prog 116 #[.slice a n cap, .int .i64 (r : Int)] w fun e w' => ∃ b c, e = .returned (.slice b (hopsL (bothG (tellF S E n)) r).length c) ∧ HsR w' b (hopsL (bothG (tellF S E n)) r).length (hopsL (bothG (tellF S E n)) r) ∧ Below w.heap.size w w' := by
 have htl := wtold_any a n cap S E w h hn hok
 have hz := zeroCosts
 have hz2 := zeroHops
 have hrg := bothG_range (tellF_range S E n hok)
 have HRG : Hid _ := hrg
 have r1 : ¬ (r : Int) < 1 := by omega
 have r2 : ¬ 6 < (r : Int) := by omega
 obtain ⟨Z, hZ⟩ : ∃ Z, gC (fun _ _ => 0) = Z := ⟨_, rfl⟩
 obtain ⟨Z2, hZ2⟩ : ∃ Z2, hC (fun _ => HP.zero) = Z2 := ⟨_, rfl⟩
 have zs : Z.size = 49 := by rw [← hZ]; exact gC_size _
 have zs2 : Z2.size = 21 := by rw [← hZ2]; exact hC_size _
 rw [hZ] at hz
 rw [hZ2] at hz2
 clear hZ hZ2 hrg hok
 go_enter Tryz.func116, Tryz.ntmps116
 go_wp2_with (fail)
 refine htl.mono ?_
 rintro e w1 ⟨rfl, k1⟩
 have hbw := both_any (tellF S E n) w1
 obtain ⟨C, hCe⟩ : ∃ C, bothG (tellF S E n) = C := ⟨_, rfl⟩
 rw [hCe] at hbw HRG
 have HCe : Hid _ := hCe
 clear htl hCe
 go_wp2_with (fail)
 refine hbw.mono ?_
 rintro e w2 ⟨rfl, k2⟩
 have hb2 := below_chain k1 k2
 clear hbw k1 k2
 have gs : (gC C).size = 49 := gC_size _
 have g1 : (gC C).all (·.oneCell') = true := gC_one _
 have hi1 : (Tryz.prog.info? 256).map (·.size) = some (gC C).size := by rw [gs]; exact size100
 have hsz : Z.size = (gC C).size := by rw [gs, zs]
 have hB : Blk (w2.alloc (.cells Z 256)) w2.heap.size Z 256 := Blk.new _ _ _
 have hB2 : Blk ((w2.alloc (.cells Z 256)).setRow w2.heap.size (gC C)) w2.heap.size (gC C) 256 := hB.setRow
 have Hb3 : Hid (Below w.heap.size w ((w2.alloc (.cells Z 256)).setRow w2.heap.size (gC C))) := below_setRow (hb2.alloc hb2.size _) hb2.size _
 have hfi := first_any C r (by omega) ((w2.alloc (.cells Z 256)).setRow w2.heap.size (gC C))
 have HB2 : Hid _ := hB2
 have Hs2 : Hid _ := hb2.size
 clear hb2
 go_wp2_with (first
  | refine wpList_load_blk _ rfl (.tmp 5) 256 rfl w2.heap.size (gC C) _ _ rfl hB2 Tryz.underlying256 hi1 ?_
  | refine wpList_store_blk _ rfl (.tmp 5) (.tmp 15) 256 rfl w2.heap.size Z (gC C) rfl rfl hB hsz hi1 g1 ?_)
 refine hfi.mono ?_
 rintro e w3 ⟨rfl, k3⟩
 have hX3 := Blk.below HB2.out k3
 have hb3 := below_chain Hb3.out k3
 obtain ⟨X, hXe⟩ : ∃ X, w2.heap.size = X := ⟨_, rfl⟩
 have HsX : Hid (w.heap.size ≤ X) := by show _ ≤ _; rw [← hXe]; exact Hs2.out
 rw [hXe] at hX3
 rw [hXe]
 have HLX : Hid (X < w3.heap.size) := hX3.lt
 clear hfi hB hB2 HB2 Hb3 k3 Hs2 hXe hi1 hsz
 obtain ⟨F, hF⟩ : ∃ F, hC (firstF C r 7) = F := ⟨_, rfl⟩
 have fs : F.size = 21 := by rw [← hF]; exact hC_size _
 have f1 : F.all (·.oneCell') = true := by rw [← hF]; exact hC_one _
 have hi2 : (Tryz.prog.info? 259).map (·.size) = some F.size := by rw [fs]; exact size104
 have hsz2 : Z2.size = F.size := by rw [fs, zs2]
 rw [hF]
 have hB : Blk (w3.alloc (.cells Z2 259)) w3.heap.size Z2 259 := Blk.new _ _ _
 have hY4 : Blk ((w3.alloc (.cells Z2 259)).setRow w3.heap.size F) w3.heap.size F 259 := hB.setRow
 have hX4 : Blk ((w3.alloc (.cells Z2 259)).setRow w3.heap.size F) X (gC C) 256 := (hX3.below (below_alloc _ _)).otherRow (by have := HLX.out; omega)
 have Hb4 : Hid (Below w.heap.size w ((w3.alloc (.cells Z2 259)).setRow w3.heap.size F)) := below_setRow (hb3.alloc hb3.size _) hb3.size _
 have HY4 : Hid (Blk ((w3.alloc (.cells Z2 259)).setRow w3.heap.size F) w3.heap.size (hC (roundsF C r 0)) 259) := by show Blk _ _ (hC (firstF C r 7)) _; rw [hF]; exact hY4
 have HX4 : Hid _ := hX4
 have HS3 : Hid _ := hb3.size
 clear hb3 hF hX3
 go_wp2_with (first
  | refine wpList_store_blk _ rfl (.tmp 6) (.tmp 18) 259 rfl w3.heap.size Z2 F rfl rfl hB hsz2 hi2 f1 ?_)
 obtain ⟨Y, hYe⟩ : ∃ Y, w3.heap.size = Y := ⟨_, rfl⟩
 rw [hYe] at HY4 HX4 Hb4 HLX HS3
 rw [hYe]
 clear hYe hB hY4 hX4 hi2 hsz2 fs f1
 obtain ⟨W4, hW4⟩ : ∃ W4, (w3.alloc (.cells Z2 259)).setRow Y F = W4 := ⟨_, rfl⟩
 rw [hW4] at HY4 HX4 Hb4
 rw [hW4]
 clear hW4
 have HRF := roundsF_far r HRG.out
 have HRFh : Hid _ := HRF
 clear HRF
 go_loopw [19] (fun v wr => ∃ k : Nat, k ≤ 6 ∧ v = .int .i64 k ∧ Blk wr X (gC C) 256 ∧ Blk wr Y (hC (roundsF C r k)) 259 ∧ Below w.heap.size w wr) (fun v _ => 6 - (intOf v).toNat)
 case atStart => exact ⟨0, by omega, rfl, HX4.out, HY4.out, Hb4.out⟩
 case round =>
  clear HX4 HY4 Hb4
  obtain ⟨k, hk, rfl, hX, hY, hbel⟩ := hrel
  by_cases hk6 : k < 6
  · have hk6' : (k : Int) < 6 := by omega
    have hi1 : (Tryz.prog.info? 256).map (·.size) = some (gC C).size := by rw [gs]; exact size100
    have hgo := goOn_any C r (by omega) (roundsF C r k) Y (20 + 980 * k) wr hY HRG.out (HRFh.out k) (by omega)
    have HX : Hid _ := hX
    have HB : Hid _ := hbel
    clear hY hbel
    go_wp2_with (first
     | refine wpList_load_blk _ rfl (.tmp 5) 256 rfl X (gC C) _ _ rfl hX Tryz.underlying256 hi1 ?_)
    refine hgo.mono ?_
    rintro e w5 ⟨rfl, hY5, hg5⟩
    have hXl := Blk.lt HX.out
    have HX5 : Hid (Blk w5 X (gC C) 256) := Blk.keep HX.out (hg5.block X hXl (fun e => by have := HLX.out; simp at e; omega))
    have HY5 : Hid _ := hY5
    have HB5 : Hid (Below w.heap.size w w5) := ⟨hg5.os.trans HB.out.os, hg5.tape.trans HB.out.tape, hg5.output.trans HB.out.output, Nat.le_trans HB.out.size hg5.size, fun i hi => (hg5.block i (Nat.lt_of_lt_of_le hi HB.out.size) (fun e => by have := HS3.out; simp at e; omega)).trans (HB.out.block i hi)⟩
    clear hgo hY5 hg5 hX hi1
    go_wp2_with (fail)
    go_roundw
    case rel => exact ⟨k + 1, by omega, by go_num, HX5.out, HY5.out, HB5.out⟩
    case measure => simp [intOf]; omega
  · have hk6' : ¬ (k : Int) < 6 := by omega
    have hke : k = 6 := by omega
    have hli := list_any (roundsF C r k) Y wr hY
    have HL : Hid (lstF (roundsF C r k) 7 = hopsL (bothG (tellF S E n)) r) := by show _ = _; rw [HCe.out, hke]; rfl
    rw [HL.out] at hli
    clear hX hY hke HL
    go_wp2_with (fail)
    refine hli.mono ?_
    rintro e w5 ⟨ra, rc, rfl, hR, k5⟩
    have HR : Hid _ := hR
    have HB : Hid _ := below_chain hbel k5
    clear hli hR k5 hbel
    go_wp2_with (fail)
    go_ret
    first | exact ⟨_, _, rfl, HR.out, HB.out⟩ | exact ⟨_, ⟨_, rfl⟩, HR.out, HB.out⟩
end Go.Proofs.YtieklnlbljejdaaGreatDoor
