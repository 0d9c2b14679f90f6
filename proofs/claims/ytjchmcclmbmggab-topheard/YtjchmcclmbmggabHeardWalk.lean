/-
  'TopHeard' returns true at all numbers, and changes nothing that was there.
-/
import Derived.Test.YtjchmcclmbmggabHelloWalk
namespace Go.Proofs.Ytjchmcclmbmggab
open Go.RowKit
namespace topHeard

def both (a b : Int) : Nat → Peer × Peer
  | 0 => ((0, false, 0), (0, false, 0))
  | k + 1 => (hearP a b (hearP b a (both a b k).1.1).1, hearP b a (both a b k).1.1)
theorem both_two (a b : Int) (hab : a ≠ b) : both a b 2 = ((b, true, 4), (a, true, 4)) := by
  have h1 : ¬ b = a := fun e => hab e.symm
  simp [both, hearP, hab, h1]
def ticks (p : Peer) : Nat → Peer
  | 0 => p
  | k + 1 => tickP (ticks p k)
theorem ticks_at (b : Int) : ∀ k : Nat, ticks (b, true, 4) k = if k < 4 then (b, true, 4 - (k : Int)) else (0, false, 0)
  | 0 => rfl
  | k + 1 => by
    rw [ticks, ticks_at b k]
    by_cases h : k + 1 < 4
    · rw [if_pos (by omega), if_pos h]
      simp only [tickP]
      rw [if_neg (by omega)]
      congr 2
      push_cast
      omega
    · rw [if_neg h]
      split
      · simp only [tickP]
        rw [if_pos (by omega)]
      · rfl
theorem and_mask (a : Int) : ∃ m : Nat, m ≤ 7 ∧ bits .and .i64 a 7 = (m : Int) := by
  have e : (BitVec.ofInt 64 a &&& BitVec.ofInt 64 7).toNat ≤ 7 := by
    rw [BitVec.toNat_and]
    exact Nat.and_le_right
  refine ⟨(BitVec.ofInt 64 a &&& BitVec.ofInt 64 7).toNat, e, ?_⟩
  show IntKind.i64.wrap ((BitVec.ofInt 64 a &&& BitVec.ofInt 64 7).toNat : Int) = _
  rw [IntKind.wrap_i64]
  omega
theorem ticks_le (p : Peer) (h0 : 0 ≤ p.2.2) (h1 : p.2.2 ≤ 4) : ∀ k, 0 ≤ (ticks p k).2.2 ∧ (ticks p k).2.2 ≤ 4
  | 0 => ⟨h0, h1⟩
  | k + 1 => by
    have ih := ticks_le p h0 h1 k
    simp only [ticks, tickP]
    split <;> simp <;> omega

set_option maxRecDepth 100000 in
set_option maxHeartbeats 4000000 in
theorem walk (a b t : Int) (w : World) : Calls Try.prog 8 #[.int .i64 a, .int .i64 b, .int .i64 t] w fun e w' => e = .returned (.bool true) ∧ Below w.heap.size w w' := by
  have hz := zeroPeer
  have hz2 := zeroHello
  have h1 := hear_any 0 0 1 2 0 false w
  have e1 : hearP 1 2 0 = (2, false, 4) := by decide
  rw [e1] at h1
  clear e1
  have first : ∀ w1 : World, Below w.heap.size w w1 → Below w.heap.size w (w1.alloc (.cells #[.int .i64 2, .bool false, .int .i64 4] 49)) := fun w1 h => h.alloc h.size _
  by_cases hbad : a < 1 ∨ 6 < a ∨ b < 1 ∨ 6 < b ∨ a = b
  · have main : ∀ (Q : Prop), (a < 1 → Q) → (¬ a < 1 → 6 < a → Q) → (¬ a < 1 → ¬ 6 < a → b < 1 → Q) → (¬ a < 1 → ¬ 6 < a → ¬ b < 1 → 6 < b → Q) → (¬ a < 1 → ¬ 6 < a → ¬ b < 1 → ¬ 6 < b → (a == b) = true → Q) → Q := by
      intro Q q1 q2 q3 q4 q5
      by_cases h1 : a < 1
      · exact q1 h1
      · by_cases h2 : 6 < a
        · exact q2 h1 h2
        · by_cases h3 : b < 1
          · exact q3 h1 h2 h3
          · by_cases h4 : 6 < b
            · exact q4 h1 h2 h3 h4
            · exact q5 h1 h2 h3 h4 (by simp; omega)
    clear hbad
    refine main _ ?_ ?_ ?_ ?_ ?_ <;> clear main
    all_goals
      intros
      go_enter Try.func8, Try.ntmps8
      go_wp2_with (fail)
      refine h1.mono ?_
      rintro e w1 ⟨rfl, hb1⟩
      have hf := first w1 hb1
      clear h1
      go_wp2_with (fail)
      go_ret
      exact ⟨rfl, hf⟩
  · have a1 : ¬ a < 1 := by omega
    have a2 : ¬ 6 < a := by omega
    have b1 : ¬ b < 1 := by omega
    have b2 : ¬ 6 < b := by omega
    have hab : (a == b) = false := by simp; omega
    have h2 := both_two a b (by omega)
    have H2 : Hid _ := h2
    clear h2 hbad
    go_enter Try.func8, Try.ntmps8
    go_wp2_with (fail)
    refine h1.mono ?_
    rintro e w1 ⟨rfl, hb1⟩
    have hf := first w1 hb1
    clear h1 first
    go_wp2_with (fail)
    obtain ⟨W0, hW0⟩ : ∃ W0, ((w1.alloc (.cells #[.int .i64 2, .bool false, .int .i64 4] 49)).alloc (.cells #[.int .i64 0, .bool false, .int .i64 0] 49)).alloc (.cells #[.int .i64 0, .bool false, .int .i64 0] 49) = W0 := ⟨_, rfl⟩
    have hb0 : Below w.heap.size w W0 := by
      rw [← hW0]
      exact (hf.alloc hf.size _).alloc (Nat.le_trans hf.size (by simp)) _
    have hx0 : Blk W0 (w1.heap.size + 1) (Peer.c (0, false, 0)) 49 := by
      rw [← hW0]
      refine Blk.below ?_ (below_alloc _ _)
      exact Blk.newN _ _ _ _ (by simp)
    have hy0 : Blk W0 (w1.heap.size + 1 + 1) (Peer.c (0, false, 0)) 49 := by
      rw [← hW0]
      exact Blk.newN _ _ _ _ (by simp)
    have hxw : w.heap.size ≤ w1.heap.size + 1 := Nat.le_succ_of_le hb1.size
    rw [hW0]
    clear hW0 hf
    obtain ⟨X, hX⟩ : ∃ X, w1.heap.size + 1 = X := ⟨_, rfl⟩
    rw [hX] at hx0 hy0 hxw
    rw [hX]
    clear hX hb1
    go_loopw [10] (fun i wr => ∃ k : Nat, k ≤ 2 ∧ i = .int .i64 k ∧ Blk wr X (both a b k).1.c 49 ∧ Blk wr (X + 1) (both a b k).2.c 49 ∧ Below w.heap.size w wr) (fun i _ => 2 - (intOf i).toNat)
    case atStart => exact ⟨0, by omega, rfl, hx0, hy0, hb0⟩
    case round =>
      obtain ⟨k, hk, rfl, hx, hy, hbel⟩ := hrel
      clear hx0 hy0 hb0
      by_cases hlt : k < 2
      · have hlt' : (k : Int) < 2 := by omega
        have HB : Hid (both a b (k + 1) = (hearP a b (hearP b a (both a b k).1.1).1, hearP b a (both a b k).1.1)) := rfl
        generalize both a b k = P at hx hy HB
        obtain ⟨⟨x0, x1, x2⟩, ⟨y0, y1, y2⟩⟩ := P
        have lx := hx.lt
        have ly := hy.lt
        have cx0 : wr.cell? ⟨X, 0, none⟩ = some (.int .i64 x0) := hx.cell 0
        have cx1 : wr.cell? ⟨X, 1, none⟩ = some (.bool x1) := hx.cell 1
        have cx2 : wr.cell? ⟨X, 2, none⟩ = some (.int .i64 x2) := hx.cell 2
        have cy0 : wr.cell? ⟨X + 1, 0, none⟩ = some (.int .i64 y0) := hy.cell 0
        have cy1 : wr.cell? ⟨X + 1, 1, none⟩ = some (.bool y1) := hy.cell 1
        have cy2 : wr.cell? ⟨X + 1, 2, none⟩ = some (.int .i64 y2) := hy.cell 2
        go_upto_region 11 with fail
        obtain ⟨Y', hY'⟩ : ∃ Y' : Peer, hearP b a x0 = Y' := ⟨_, rfl⟩
        go_cut [] (fun wx => Blk wx X (Peer.c (x0, x1, x2)) 49 ∧ Blk wx (X + 1) Y'.c 49 ∧ Below w.heap.size w wx)
        case first =>
          have HY : Hid (hearP b a x0 = Y') := hY'
          clear hY'
          go_region_with (first
            | (go_at_call 26; refine (says_any x0 x2 a x1 _).mono ?_; rintro e w2 ⟨rfl, k2⟩
               have dy0 : w2.cell? ⟨X + 1, 0, none⟩ = some (.int .i64 y0) := (k2.cell (p := ⟨X + 1, 0, none⟩) ly).trans cy0
               have dy1 : w2.cell? ⟨X + 1, 1, none⟩ = some (.bool y1) := (k2.cell (p := ⟨X + 1, 1, none⟩) ly).trans cy1
               have dy2 : w2.cell? ⟨X + 1, 2, none⟩ = some (.int .i64 y2) := (k2.cell (p := ⟨X + 1, 2, none⟩) ly).trans cy2
               have l2 : X + 1 < w2.heap.size := World.block_lt_of_cell? w2 _ dy0)
            | (go_at_call 22; refine (hear_any y0 y2 b a x0 y1 _).mono ?_; rintro e w3 ⟨rfl, k3⟩; rw [HY.out]
               have k23 : Below wr.heap.size wr w3 := below_chain (below_chain (below_drew (Below.refl _ _)) k2) k3
               have b3 := hy.below k23
               have ey0 : w3.cell? ⟨X + 1, 0, none⟩ = some (.int .i64 y0) := b3.cell 0
               have ey1 : w3.cell? ⟨X + 1, 1, none⟩ = some (.bool y1) := b3.cell 1
               have ey2 : w3.cell? ⟨X + 1, 2, none⟩ = some (.int .i64 y2) := b3.cell 2
               have f3 := b3.frozen
               have l3 : X + 1 < w3.heap.size := b3.lt))
          all_goals
            go_wp2_with (fail)
            go_meet
            refine ⟨?_, ?_, ?_⟩
            · exact (((hx.below k23).other (by omega) _).other (by omega) _).other (by omega) _
            · exact ((b3.set 0 _).set 1 _).set 2 _
            · exact (((below_chain hbel k23).setCell (by show _ ≤ X + 1; omega) _).setCell (by show _ ≤ X + 1; omega) _).setCell (by show _ ≤ X + 1; omega) _
        case rest =>
          clear hx hy hbel lx ly cx0 cx1 cx2 cy0 cy1 cy2
          obtain ⟨hx, hy, hbel⟩ := hcut
          obtain ⟨y0', y1', y2'⟩ := Y'
          have lx := hx.lt
          have ly := hy.lt
          have cx0 : wc.cell? ⟨X, 0, none⟩ = some (.int .i64 x0) := hx.cell 0
          have cx1 : wc.cell? ⟨X, 1, none⟩ = some (.bool x1) := hx.cell 1
          have cx2 : wc.cell? ⟨X, 2, none⟩ = some (.int .i64 x2) := hx.cell 2
          have cy0 : wc.cell? ⟨X + 1, 0, none⟩ = some (.int .i64 y0') := hy.cell 0
          have cy1 : wc.cell? ⟨X + 1, 1, none⟩ = some (.bool y1') := hy.cell 1
          have cy2 : wc.cell? ⟨X + 1, 2, none⟩ = some (.int .i64 y2') := hy.cell 2
          have HY : Hid (hearP b a x0 = (y0', y1', y2')) := hY'
          clear hY'
          obtain ⟨W4, rfl⟩ : ∃ W4, W4 = wc := ⟨_, rfl⟩
          obtain ⟨X', hX'⟩ : ∃ X' : Peer, hearP a b y0' = X' := ⟨_, rfl⟩
          have HX : Hid (hearP a b y0' = X') := hX'
          clear hX'
          have HE : Hid (both a b (k + 1) = (X', (y0', y1', y2'))) := by
            show _ = _
            rw [HB.out]
            show (hearP a b (hearP b a x0).1, hearP b a x0) = _
            rw [HY.out, HX.out]
          go_upto_region 12 with fail
          go_region_with (first
            | (go_at_call 26; refine (says_any y0' y2' b y1' _).mono ?_; rintro e w2 ⟨rfl, k2⟩
               have dy0 : w2.cell? ⟨X, 0, none⟩ = some (.int .i64 x0) := (k2.cell (p := ⟨X, 0, none⟩) lx).trans cx0
               have dy1 : w2.cell? ⟨X, 1, none⟩ = some (.bool x1) := (k2.cell (p := ⟨X, 1, none⟩) lx).trans cx1
               have dy2 : w2.cell? ⟨X, 2, none⟩ = some (.int .i64 x2) := (k2.cell (p := ⟨X, 2, none⟩) lx).trans cx2
               have l2 : X < w2.heap.size := World.block_lt_of_cell? w2 _ dy0)
            | (go_at_call 22; refine (hear_any x0 x2 a b y0' x1 _).mono ?_; rintro e w3 ⟨rfl, k3⟩; rw [HX.out]
               have k23 : Below W4.heap.size W4 w3 := below_chain (below_chain (below_drew (Below.refl _ _)) k2) k3
               have b3 := hx.below k23
               have ey0 : w3.cell? ⟨X, 0, none⟩ = some (.int .i64 x0) := b3.cell 0
               have ey1 : w3.cell? ⟨X, 1, none⟩ = some (.bool x1) := b3.cell 1
               have ey2 : w3.cell? ⟨X, 2, none⟩ = some (.int .i64 x2) := b3.cell 2
               have f3 := b3.frozen
               have l3 : X < w3.heap.size := b3.lt))
          all_goals
            have hx3 : Blk (((w3.setCell ⟨X, 0, none⟩ (.int .i64 X'.1)).setCell ⟨X, 1, none⟩ (.bool X'.2.1)).setCell ⟨X, 2, none⟩ (.int .i64 X'.2.2)) X X'.c 49 := ((b3.set 0 _).set 1 _).set 2 _
            have hy3 : Blk (((w3.setCell ⟨X, 0, none⟩ (.int .i64 X'.1)).setCell ⟨X, 1, none⟩ (.bool X'.2.1)).setCell ⟨X, 2, none⟩ (.int .i64 X'.2.2)) (X + 1) (Peer.c (y0', y1', y2')) 49 := (((hy.below k23).other (by omega) _).other (by omega) _).other (by omega) _
            have hb3 : Below w.heap.size w (((w3.setCell ⟨X, 0, none⟩ (.int .i64 X'.1)).setCell ⟨X, 1, none⟩ (.bool X'.2.1)).setCell ⟨X, 2, none⟩ (.int .i64 X'.2.2)) := (((below_chain hbel k23).setCell (by show _ ≤ X; omega) _).setCell (by show _ ≤ X; omega) _).setCell (by show _ ≤ X; omega) _
            go_wp2_with (fail)
            go_roundw
            case rel => exact ⟨k + 1, by omega, by go_num, by rw [HE.out]; exact hx3, by rw [HE.out]; exact hy3, hb3⟩
            case measure => simp [intOf]; omega
      · have hk2 : k = 2 := by omega
        subst hk2
        rw [H2.out] at hx hy
        obtain ⟨W5, rfl⟩ : ∃ W5, W5 = wr := ⟨_, rfl⟩
        have lx := hx.lt
        have ly := hy.lt
        have cx0 : W5.cell? ⟨X, 0, none⟩ = some (.int .i64 b) := hx.cell 0
        have cx1 : W5.cell? ⟨X, 1, none⟩ = some (.bool true) := hx.cell 1
        have cx2 : W5.cell? ⟨X, 2, none⟩ = some (.int .i64 4) := hx.cell 2
        have cy0 : W5.cell? ⟨X + 1, 0, none⟩ = some (.int .i64 a) := hy.cell 0
        have cy1 : W5.cell? ⟨X + 1, 1, none⟩ = some (.bool true) := hy.cell 1
        have haa : (a != a) = false := by simp
        have hbb : (b != b) = false := by simp
        obtain ⟨n, hn, hand⟩ := and_mask t
        go_wp2_with (fail)
        clear cx0 cx1 cx2 cy0 cy1 hy ly lx haa hbb
        go_loopw [12] (fun i wr => ∃ k : Nat, k ≤ n ∧ i = .int .i64 k ∧ Blk wr X (ticks (b, true, 4) k).c 49 ∧ Below w.heap.size w wr) (fun i _ => n - (intOf i).toNat)
        case atStart => exact ⟨0, by omega, rfl, hx, hbel⟩
        case round =>
          clear hx hbel
          obtain ⟨k, hk, rfl, hx, hbel⟩ := hrel
          have hlx := hx.lt
          have hle := ticks_le (b, true, 4) (show (0 : Int) ≤ 4 by decide) (show (4 : Int) ≤ 4 by decide) k
          by_cases hlt : k < n
          · have hlt' : (k : Int) < (n : Int) := by omega
            have HT : Hid (ticks (b, true, 4) (k + 1) = tickP (ticks (b, true, 4) k)) := rfl
            generalize ticks (b, true, 4) k = P at hx HT hle
            obtain ⟨p0, p1, p2⟩ := P
            have c0 : wr.cell? ⟨X, 0, none⟩ = some (.int .i64 p0) := hx.cell 0
            have c1 : wr.cell? ⟨X, 1, none⟩ = some (.bool p1) := hx.cell 1
            have c2 : wr.cell? ⟨X, 2, none⟩ = some (.int .i64 p2) := hx.cell 2
            have hc := tick_any p0 p2 p1 wr hle.1 (by have := hle.2; simp at this; omega)
            obtain ⟨Q, hQ⟩ : ∃ Q, tickP (p0, p1, p2) = Q := ⟨_, rfl⟩
            rw [hQ] at hc
            have HQ : Hid (tickP (p0, p1, p2) = Q) := hQ
            clear hQ hle
            go_wp2_with (fail)
            refine hc.mono ?_
            rintro e w3 ⟨rfl, k3⟩
            have b3 := hx.below k3
            have ey0 : w3.cell? ⟨X, 0, none⟩ = some (.int .i64 p0) := b3.cell 0
            have ey1 : w3.cell? ⟨X, 1, none⟩ = some (.bool p1) := b3.cell 1
            have ey2 : w3.cell? ⟨X, 2, none⟩ = some (.int .i64 p2) := b3.cell 2
            have f3 := b3.frozen
            have l3 : X < w3.heap.size := b3.lt
            have hx3 : Blk (((w3.setCell ⟨X, 0, none⟩ (.int .i64 Q.1)).setCell ⟨X, 1, none⟩ (.bool Q.2.1)).setCell ⟨X, 2, none⟩ (.int .i64 Q.2.2)) X Q.c 49 := ((b3.set 0 _).set 1 _).set 2 _
            have hb3 : Below w.heap.size w (((w3.setCell ⟨X, 0, none⟩ (.int .i64 Q.1)).setCell ⟨X, 1, none⟩ (.bool Q.2.1)).setCell ⟨X, 2, none⟩ (.int .i64 Q.2.2)) := (((below_chain hbel k3).setCell (by show _ ≤ X; omega) _).setCell (by show _ ≤ X; omega) _).setCell (by show _ ≤ X; omega) _
            clear hc b3 hx c0 c1 c2
            go_wp2_with (fail)
            go_roundw
            case rel => exact ⟨k + 1, by omega, by go_num, by rw [HT.out, HQ.out]; exact hx3, hb3⟩
            case measure => simp [intOf]; omega
          · have hkn : k = n := by omega
            subst hkn
            rw [ticks_at] at hx
            clear hle
            by_cases h4 : (4 : Int) ≤ (k : Int)
            · rw [if_neg (by omega)] at hx
              have c0 : wr.cell? ⟨X, 0, none⟩ = some (.int .i64 0) := hx.cell 0
              have c1 : wr.cell? ⟨X, 1, none⟩ = some (.bool false) := hx.cell 1
              clear hx
              go_wp2_with (fail)
              go_ret
              exact ⟨rfl, hbel⟩
            · rw [if_pos (by omega)] at hx
              have c0 : wr.cell? ⟨X, 0, none⟩ = some (.int .i64 b) := hx.cell 0
              have c1 : wr.cell? ⟨X, 1, none⟩ = some (.bool true) := hx.cell 1
              have hb0 : (b == 0) = false := by simp; omega
              have hb1 : (0 : Int) < b := by omega
              clear hx
              go_wp2_with (fail)
              go_ret
              exact ⟨by first | rfl | (simp; omega), hbel⟩
end topHeard
end Go.Proofs.Ytjchmcclmbmggab
