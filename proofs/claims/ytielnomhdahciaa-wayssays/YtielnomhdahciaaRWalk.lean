/-
  walk: all ways on from a router.
-/
import Derived.Test.YtielnomhdahciaaRWays
import Derived.Deep.DeepCutAuto
namespace Go.Proofs.Ytielnomhdahciaa
open Go.RowKit St

theorem pc_le {C : Grid} {r : Nat} (hC : ∀ x y, C x y ≤ 20) : ∀ p : List Nat, pc C r p ≤ 20 * p.length
  | [] => by simp [pc]
  | [n] => by simp only [pc]; have := hC r n; simpa using this
  | n :: m :: l => by
    have := pc_le (r := r) hC (m :: l)
    have h2 := hC m n
    simp only [pc, List.length_cons] at this ⊢
    push_cast at this ⊢
    omega
theorem Pre.far_le {C : Grid} {r : Nat} {p : List Nat} {at' : Nat} {far by' : Int} {bn : Nat → Bool} (h : Pre C r p at' far by' bn) (hC : ∀ x y, 0 ≤ C x y ∧ C x y ≤ 20) (hp : p.length ≤ 7) : 0 ≤ far ∧ far ≤ 140 := by
  rcases h.way with ⟨_, _, rfl, _⟩ | ⟨h1, _, rfl, _⟩
  · exact ⟨Int.le_refl _, by decide⟩
  · have h2 := okP_pos (fun x y => (hC x y).1) p h1
    have h3 := pc_le (r := r) (fun x y => (hC x y).2) p
    omega

set_option maxRecDepth 100000 in
set_option maxHeartbeats 8000000 in
theorem rwalk_any (a : Option Addr) (n cap : Nat) (r : Nat) (w0 : World) (C : Grid) (B : Nat) (hB0 : w0.heap.size ≤ B)
    (HED : Hid (∀ (u v : Nat) W, Below w0.heap.size w0 W → Calls Try.prog 42 #[.slice a n cap, .int .i64 (u : Int), .int .i64 (v : Int)] W fun e w' => e = .returned (.int .i64 (C u v)) ∧ Below W.heap.size W w'))
    (hC20 : ∀ x y, 0 ≤ C x y ∧ C x y ≤ 20) (HI : Hid (∀ u v, 0 < C u v → (1 ≤ u ∧ u ≤ 6) ∧ 1 ≤ v ∧ v ≤ 6)) :
    ∀ (d : Nat) (p : List Nat) (at' : Nat) (far by' : Int) (bn : Nat → Bool) (G : Nat → HP) (w : World), p.length + d = 7 → at' < 7 → Pre C r p at' far by' bn → RS C r G → Blk w B (hC G) 103 → Below w0.heap.size w0 w →
    Calls Try.prog 64 #[.slice a n cap, .int .i64 (at' : Int), .int .i64 far, .int .i64 by', .agg (bC bn), .pointer (some ⟨B, 0, none⟩)] w fun e w' => e = .returned (.tuple #[]) ∧
      (∃ G', Blk w' B (hC G') 103 ∧ RS C r G' ∧ MLe G' G ∧ ∀ x q, Ext C r p x q → Dom C r G' q) ∧ w.grownBy w' (some B) := by
  intro d
  induction d with
  | zero =>
    intro p at' far by' bn G w hlen hat hP _ _ _
    exfalso
    have hno : ∀ x ∈ p, x ∈ (List.range 7).erase r := by
      intro x hx
      rcases hP.way with ⟨rfl, _⟩ | ⟨h1, _⟩
      · cases hx
      · have := ok_lt h1 x hx
        exact (List.mem_erase_of_ne this.2).2 (List.mem_range.2 this.1)
    have h1 := len_nat p _ hP.nd hno
    rcases hP.way with ⟨rfl, _⟩ | ⟨h2, h3, _⟩
    · simp at hlen
    · have hr : r < 7 ∨ ¬ r < 7 := by omega
      rcases hr with hr | hr
      · rw [List.length_erase_of_mem (List.mem_range.2 hr), List.length_range] at h1
        omega
      · have := fst_edge p h2
        have := HI.out _ _ this.1
        omega
  | succ d ih =>
    intro p at' far by' bn G w hlen hat hP hG hB hbw
    have HIH : Hid _ := ih
    clear ih
    have HPr : Hid _ := hP
    have HG : Hid _ := hG
    obtain ⟨hf0, hf1⟩ := hP.far_le hC20 (by omega)
    clear hP hG
    have ha7 : (at' : Int) < 7 := by omega
    obtain ⟨c, hc⟩ : ∃ c, bC bn = c := ⟨_, rfl⟩
    rw [hc]
    have hBl := hB.lt
    obtain ⟨N, hNe⟩ : ∃ N, w.heap.size = N := ⟨_, rfl⟩
    obtain ⟨W1, hW1⟩ : ∃ W1, w.alloc (.cells c 79) = W1 := ⟨_, rfl⟩
    have k1 : Below w.heap.size w W1 := by rw [← hW1]; exact below_alloc _ _
    have hN : Blk W1 N (bC bn) 79 := by rw [← hW1, hc]; exact Blk.newN _ _ _ _ hNe
    have hB1 := hB.below k1
    have n0 := (hN.cell at').trans (bC_get bn at' hat)
    have n1 := hN.frozen at'
    have lN := hN.lt
    have HN2 : Hid (Blk (W1.setCell ⟨N, at', none⟩ (.bool true)) N (bC (updB bn at')) 79) := by show Blk _ _ _ _; rw [← bC_set]; exact hN.set at' _
    have HBN : Hid (B < N) := by show _ < _; omega
    have HB2 : Hid (Blk (W1.setCell ⟨N, at', none⟩ (.bool true)) B (hC G) 103) := hB1.other (by omega) _
    have HG2 : Hid (w.grownBy (W1.setCell ⟨N, at', none⟩ (.bool true)) (some B)) := by
      have k2 : Below w.heap.size w (W1.setCell ⟨N, at', none⟩ (.bool true)) := Below.setCell k1 (by show w.heap.size ≤ N; omega) _
      exact ⟨k2.os, k2.tape, k2.output, k2.size, fun i hi _ => k2.block i hi⟩
    have HW1 : Hid _ := hW1
    have HNe : Hid _ := hNe
    have HBW : Hid _ := hbw
    clear hc hNe hW1 k1 hN hB1 hB hBl hbw
    go_enter Try.func64, Try.ntmps64
    go_upto_region 1 with fail
    rw [HW1.out, HNe.out]
    go_wp2_with (fail)
    obtain ⟨W2, hW2⟩ : ∃ W2, W1.setCell ⟨N, at', none⟩ (.bool true) = W2 := ⟨_, rfl⟩
    rw [hW2] at HN2 HB2 HG2
    rw [hW2]
    clear hW2 n0 n1 lN
    go_loopw [12] (fun v wr => ∃ (m : Nat) (G' : Nat → HP), 1 ≤ m ∧ m ≤ 7 ∧ v = .int .i64 m ∧ (RS C r G' ∧ MLe G' G ∧ ∀ x q, x < m → Ext C r p x q → Dom C r G' q) ∧ Blk wr B (hC G') 103 ∧ Blk wr N (bC (updB bn at')) 79 ∧ w.grownBy wr (some B)) (fun v _ => 7 - (intOf v).toNat)
    case atStart =>
      refine ⟨1, G, by omega, by omega, rfl, ⟨HG.out, MLe.refl _, fun x q hx hq => ?_⟩, HB2.out, HN2.out, HG2.out⟩
      have hx0 : x = 0 := by omega
      subst hx0
      have h1 := hC20 at' 0
      have : C at' 0 = 0 := by
        by_cases h2 : 0 < C at' 0
        · have := HI.out _ _ h2
          omega
        · omega
      exact absurd hq (HPr.out.none 0 (.inl this) q)
    case round =>
      clear HB2 HN2 HG2
      obtain ⟨m, G', hm1, hm7, rfl, hS, hB, hN, hgr⟩ := hrel
      have HS : Hid _ := hS
      clear hS
      by_cases hm6 : m ≤ 6
      · have hm6' : (m : Int) ≤ 6 := by omega
        have hm7' : (m : Int) < 7 := by omega
        have he := HED.out at' m wr (below_grown HBW.out hgr hB0)
        have HB : Hid _ := hB
        have HN : Hid _ := hN
        have HGr : Hid _ := hgr
        clear hB hN hgr
        go_wp2_with (fail)
        refine he.mono ?_
        rintro e w5 ⟨rfl, k5⟩
        have hN5 := Blk.below HN.out k5
        have hB5 := Blk.below HB.out k5
        have nb := (hN5.cell m).trans (bC_get (updB bn at') m (by omega))
        have HN5 : Hid _ := hN5
        have HG5 : Hid (w.grownBy w5 (some B)) := ⟨k5.os.trans HGr.out.os, k5.tape.trans HGr.out.tape, k5.output.trans HGr.out.output, Nat.le_trans HGr.out.size k5.size, fun i hi hne => (k5.block i (Nat.lt_of_lt_of_le hi HGr.out.size)).trans (HGr.out.block i hi hne)⟩
        have HNo : Hid (C at' m = 0 ∨ updB bn at' m = true → ∀ x q, x < m + 1 → Ext C r p x q → Dom C r G' q) := by
          intro hh x q hx hq
          by_cases e : x = m
          · subst e
            exact absurd hq (HPr.out.none x hh q)
          · exact HS.out.2.2 x q (by omega) hq
        obtain ⟨p0, p1, p2⟩ := hC_get G' m (by omega)
        have b0 := (hB5.cell (m * 3)).trans p0
        have b1 := (hB5.cell (m * 3 + 1)).trans p1
        have b2 := (hB5.cell (m * 3 + 2)).trans p2
        have HB5 : Hid _ := hB5
        clear he k5 hN5 hB5 p0 p1 p2 HB HN HGr
        have hcr := hC20 at' m
        by_cases hz : C at' m = 0
        · have hz' : (C at' m == 0) = true := by simpa using hz
          have HNo2 : Hid _ := HNo.out (.inl hz)
          generalize C at' m = cm at hz' ⊢
          go_wp2_with (fail)
          go_roundw
          case rel => exact ⟨m + 1, G', by omega, by omega, by go_num, ⟨HS.out.1, HS.out.2.1, HNo2.out⟩, HB5.out, HN5.out, HG5.out⟩
          case measure => simp [intOf]; omega
        have hz' : (C at' m == 0) = false := by simpa using hz
        cases hbm : updB bn at' m with
        | true =>
          rw [hbm] at nb
          have HNo2 : Hid _ := HNo.out (.inr hbm)
          generalize C at' m = cm at hz' ⊢
          go_wp2_with (fail)
          go_roundw
          case rel => exact ⟨m + 1, G', by omega, by omega, by go_num, ⟨HS.out.1, HS.out.2.1, HNo2.out⟩, HB5.out, HN5.out, HG5.out⟩
          case measure => simp [intOf]; omega
        | false =>
          rw [hbm] at nb
          have hpos : 0 < C at' m := by omega
          have HPn : Hid _ := HPr.out.next m (by omega) hpos hbm
          have HPs : Hid _ := HPr.out.step m hm1 (by omega) hpos hbm
          obtain ⟨nx, hnx⟩ : ∃ nx, (if by' = 0 then (m : Int) else by') = nx := ⟨_, rfl⟩
          rw [hnx] at HPn HPs
          have HNX : Hid _ := hnx
          have hzo := HS.out.1.z m
          have hwy := HS.out.1.s.way m
          have hnn := HS.out.1.s.nn m
          obtain ⟨cm, hcm⟩ : ∃ cm, C at' m = cm := ⟨_, rfl⟩
          rw [hcm] at hz' HPn HPs hcr hpos
          rw [hcm]
          have HW : Hid ((G' m).dst = 0 ↔ (G' m).far = 0) := by
            constructor
            · intro e
              by_cases h9 : 0 < (G' m).far
              · have := (hwy h9).1
                omega
              · omega
            · intro e
              rw [hzo e]
              rfl
          have HBT : Hid (betB ⟨(m : Int), far + cm, nx⟩ (G' m) = true ↔ (G' m).far = 0 ∨ far + cm < (G' m).far ∨ (far + cm = (G' m).far ∧ nx < (G' m).nxt)) := betB_iff _ _
          have HU : Hid (betB ⟨(m : Int), far + cm, nx⟩ (G' m) = true → RS C r (updH G' m ⟨(m : Int), far + cm, nx⟩) ∧ MLe (updH G' m ⟨(m : Int), far + cm, nx⟩) G' ∧ Dom C r (updH G' m ⟨(m : Int), far + cm, nx⟩) (m :: p)) := by
            intro hb
            obtain ⟨a1, a2, a3, a4⟩ := HPn.out
            have h8 := upd_rs HS.out.1 m (m :: p) a1 rfl (fun x y => (hC20 x y).1)
            rw [a3, a4] at h8
            refine ⟨h8, upd_mono m _ (by simp only; omega) hb, fun x hx => ?_⟩
            have : m = x := by simpa using hx
            subst this
            simp only [updH, if_true, a3, a4]
            exact ⟨by omega, LEp.rfl' _⟩
          have HV : Hid (¬ betB ⟨(m : Int), far + cm, nx⟩ (G' m) = true → Dom C r G' (m :: p)) := by
            intro hb x hx
            obtain ⟨a1, a2, a3, a4⟩ := HPn.out
            have : m = x := by simpa using hx
            subst this
            rw [HBT.out] at hb
            rw [a3, a4]
            refine ⟨by omega, ?_⟩
            simp only [LEp, HP.v]
            omega
          clear hzo hwy hcm hnx hz hbm
          by_cases hby : by' = 0
          · have hby' : (by' == 0) = true := by simpa using hby
            have hE : nx = (m : Int) := by rw [← HNX.out, if_pos hby]
            subst hE
            clear hby
            obtain ⟨qd, hqd⟩ : ∃ qd, (G' m).dst = qd := ⟨_, rfl⟩
            obtain ⟨qf, hqf⟩ : ∃ qf, (G' m).far = qf := ⟨_, rfl⟩
            obtain ⟨qx, hqx⟩ : ∃ qx, (G' m).nxt = qx := ⟨_, rfl⟩
            rw [hqd] at b0 HW
            rw [hqf] at b1 HW HBT
            rw [hqx] at b2 HBT
            obtain ⟨W6, hW6⟩ : ∃ W6, w5.alloc (.cells #[.int .i64 qd, .int .i64 qf, .int .i64 qx] 73) = W6 := ⟨_, rfl⟩
            have k6 : Below w5.heap.size w5 W6 := by rw [← hW6]; exact below_alloc _ _
            have hY : Blk W6 w5.heap.size #[.int .i64 qd, .int .i64 qf, .int .i64 qx] 73 := by rw [← hW6]; exact Blk.new _ _ _
            have HW6 : Hid _ := hW6
            have hB6 := Blk.below HB5.out k6
            have HN6 : Hid _ := Blk.below HN5.out k6
            have HG6 : Hid (w.grownBy W6 (some B)) := ⟨k6.os.trans HG5.out.os, k6.tape.trans HG5.out.tape, k6.output.trans HG5.out.output, Nat.le_trans HG5.out.size k6.size, fun i hi hne => (k6.block i (Nat.lt_of_lt_of_le hi HG5.out.size)).trans (HG5.out.block i hi hne)⟩
            have y0 : W6.cell? ⟨w5.heap.size, 0, none⟩ = some (.int .i64 qd) := hY.cell 0
            have y1 : W6.cell? ⟨w5.heap.size, 1, none⟩ = some (.int .i64 qf) := hY.cell 1
            have y2 : W6.cell? ⟨w5.heap.size, 2, none⟩ = some (.int .i64 qx) := hY.cell 2
            have ly := hY.lt
            have f0 := hB6.frozen (m * 3)
            have f1 := hB6.frozen (m * 3 + 1)
            have f2 := hB6.frozen (m * 3 + 2)
            have g0 := (k6.cell (p := ⟨B, m * 3, none⟩) (Blk.lt HB5.out)).trans b0
            have g1 := (k6.cell (p := ⟨B, m * 3 + 1, none⟩) (Blk.lt HB5.out)).trans b1
            have g2 := (k6.cell (p := ⟨B, m * 3 + 2, none⟩) (Blk.lt HB5.out)).trans b2
            have lB := hB6.lt
            have HB6 : Hid _ := hB6
            clear hW6 k6 hY hqd hqf hqx hB6 HN5 HG5 HB5 hnn
            go_upto_region 11 with fail
            rw [HW6.out]
            clear b0 b1 b2 nb hz'
            have HY1 : Hid (betB ⟨(m : Int), far + cm, (m : Int)⟩ (G' m) = true → (∃ G1, Blk (((W6.setCell ⟨B, m * 3, none⟩ (.int .i64 (m : Int))).setCell ⟨B, m * 3 + 1, none⟩ (.int .i64 (far + cm))).setCell ⟨B, m * 3 + 2, none⟩ (.int .i64 (m : Int))) B (hC G1) 103 ∧ RS C r G1 ∧ MLe G1 G' ∧ Dom C r G1 (m :: p)) ∧ Blk (((W6.setCell ⟨B, m * 3, none⟩ (.int .i64 (m : Int))).setCell ⟨B, m * 3 + 1, none⟩ (.int .i64 (far + cm))).setCell ⟨B, m * 3 + 2, none⟩ (.int .i64 (m : Int))) N (bC (updB bn at')) 79 ∧ w.grownBy (((W6.setCell ⟨B, m * 3, none⟩ (.int .i64 (m : Int))).setCell ⟨B, m * 3 + 1, none⟩ (.int .i64 (far + cm))).setCell ⟨B, m * 3 + 2, none⟩ (.int .i64 (m : Int))) (some B)) := by
              intro hb
              obtain ⟨u1, u2, u3⟩ := HU.out hb
              have hne : N ≠ B := by have := HBN.out; omega
              refine ⟨⟨_, ?_, u1, u2, u3⟩, Blk.other (Blk.other (Blk.other HN6.out hne _) hne _) hne _, grownBy_setC (grownBy_setC (grownBy_setC HG6.out _ _) _ _) _ _⟩
              rw [← hC_set G' m ⟨(m : Int), far + cm, (m : Int)⟩ (by omega)]
              exact Blk.set (Blk.set (Blk.set HB6.out _ _) _ _) _ _
            have HNo : Hid (¬ betB ⟨(m : Int), far + cm, (m : Int)⟩ (G' m) = true → (∃ G1, Blk W6 B (hC G1) 103 ∧ RS C r G1 ∧ MLe G1 G' ∧ Dom C r G1 (m :: p)) ∧ Blk W6 N (bC (updB bn at')) 79 ∧ w.grownBy W6 (some B)) :=
              fun hb => ⟨⟨G', HB6.out, HS.out.1, MLe.refl _, HV.out hb⟩, HN6.out, HG6.out⟩
            clear HN6 HG6 HB6 HU HV HPn
            by_cases c1 : qd = 0
            · have c1' : (qd == 0) = true := by simpa using c1
              obtain ⟨⟨G1, hB1, hR1, hM1, hD1⟩, hN1, hgr1⟩ := HY1.out (HBT.out.2 (.inl (HW.out.1 c1)))
              obtain ⟨W7, hW7⟩ : ∃ W7, (((W6.setCell ⟨B, m * 3, none⟩ (.int .i64 (m : Int))).setCell ⟨B, m * 3 + 1, none⟩ (.int .i64 (far + cm))).setCell ⟨B, m * 3 + 2, none⟩ (.int .i64 (m : Int))) = W7 := ⟨_, rfl⟩
              rw [hW7] at hB1 hN1 hgr1
              have hcall := HIH.out (m :: p) m (far + cm) (m : Int) (updB bn at') G1 W7 (by simp; omega) (by omega) HPs.out hR1 hB1 (below_grown HBW.out hgr1 hB0)
              have hN1' : Blk W7 N (bC (updB bn at')) 79 := hN1
              have hi7 : (Try.prog.info? 79).map (·.size) = some (bC (updB bn at')).size := by rw [bC_size]; exact sizeB
              have HM1 : Hid _ := hM1
              have HD1 : Hid _ := hD1
              have HN1 : Hid _ := hN1
              have HGr1 : Hid _ := hgr1
              have HW7 : Hid _ := hW7
              clear hB1 hR1 hM1 hD1 hN1 hgr1 hW7 HNo HY1 HBT HW c1
              obtain ⟨bb, hbb⟩ : ∃ bb, bC (updB bn at') = bb := ⟨_, rfl⟩
              rw [hbb] at hcall hN1' hi7
              have HBB : Hid _ := hbb
              clear hbb
              go_upto_region 13 with fail
              rw [HW7.out]
              go_wp2_with (first
                | refine wpList_load_blk _ rfl (.tmp 10) 79 rfl N bb _ _ rfl hN1' Try.underlying79 hi7 ?_)
              refine hcall.mono ?_
              rintro e w8 ⟨rfl, ⟨G2, hB8, hR8, hM8, hD8⟩, hgr8⟩
              have hN8 : Blk w8 N (bC (updB bn at')) 79 := Blk.keep HN1.out (hgr8.block N (Blk.lt HN1.out) (fun e => by have := HBN.out; simp at e; omega))
              have HAll : Hid (RS C r G2 ∧ MLe G2 G ∧ ∀ x q, x < m + 1 → Ext C r p x q → Dom C r G2 q) := by
                refine ⟨hR8, hM8.trans (MLe.trans HM1.out HS.out.2.1), fun x q hx hq => ?_⟩
                by_cases ex : x = m
                · subst ex
                  obtain ⟨q1, q2, e, rfl⟩ := hq
                  rcases List.eq_nil_or_concat e with rfl | ⟨e', y, he'⟩
                  · exact Dom.mono HD1.out hM8
                  · rw [List.concat_eq_append] at he'
                    subst he'
                    exact hD8 y _ ⟨q1, q2, e', by simp⟩
                · exact Dom.mono (Dom.mono (HS.out.2.2 x q (by omega) hq) HM1.out) hM8
              have HB8 : Hid _ := hB8
              have HN8 : Hid _ := hN8
              have HG8 : Hid (w.grownBy w8 (some B)) := ⟨hgr8.os.trans HGr1.out.os, hgr8.tape.trans HGr1.out.tape, hgr8.output.trans HGr1.out.output, Nat.le_trans HGr1.out.size hgr8.size, fun i hi hne => (hgr8.block i (Nat.lt_of_lt_of_le hi HGr1.out.size) hne).trans (HGr1.out.block i hi hne)⟩
              clear hcall hB8 hR8 hM8 hD8 hgr8 hN8 hN1' hi7
              go_wp2_with (fail)
              go_roundw
              case rel => exact ⟨m + 1, G2, by omega, by omega, by go_num, HAll.out, HB8.out, HN8.out, HG8.out⟩
              case measure => simp [intOf]; omega
            · have c1' : (qd == 0) = false := by simpa using c1
              have hqf : ¬ qf = 0 := fun e => c1 (HW.out.2 e)
              by_cases c2 : far + cm < qf
              · obtain ⟨⟨G1, hB1, hR1, hM1, hD1⟩, hN1, hgr1⟩ := HY1.out (HBT.out.2 (.inr (.inl c2)))
                obtain ⟨W7, hW7⟩ : ∃ W7, (((W6.setCell ⟨B, m * 3, none⟩ (.int .i64 (m : Int))).setCell ⟨B, m * 3 + 1, none⟩ (.int .i64 (far + cm))).setCell ⟨B, m * 3 + 2, none⟩ (.int .i64 (m : Int))) = W7 := ⟨_, rfl⟩
                rw [hW7] at hB1 hN1 hgr1
                have hcall := HIH.out (m :: p) m (far + cm) (m : Int) (updB bn at') G1 W7 (by simp; omega) (by omega) HPs.out hR1 hB1 (below_grown HBW.out hgr1 hB0)
                have hN1' : Blk W7 N (bC (updB bn at')) 79 := hN1
                have hi7 : (Try.prog.info? 79).map (·.size) = some (bC (updB bn at')).size := by rw [bC_size]; exact sizeB
                have HM1 : Hid _ := hM1
                have HD1 : Hid _ := hD1
                have HN1 : Hid _ := hN1
                have HGr1 : Hid _ := hgr1
                have HW7 : Hid _ := hW7
                clear hB1 hR1 hM1 hD1 hN1 hgr1 hW7 HNo HY1 HBT HW c1 hqf
                obtain ⟨bb, hbb⟩ : ∃ bb, bC (updB bn at') = bb := ⟨_, rfl⟩
                rw [hbb] at hcall hN1' hi7
                have HBB : Hid _ := hbb
                clear hbb
                go_upto_region 13 with fail
                rw [HW7.out]
                go_wp2_with (first
                  | refine wpList_load_blk _ rfl (.tmp 10) 79 rfl N bb _ _ rfl hN1' Try.underlying79 hi7 ?_)
                refine hcall.mono ?_
                rintro e w8 ⟨rfl, ⟨G2, hB8, hR8, hM8, hD8⟩, hgr8⟩
                have hN8 : Blk w8 N (bC (updB bn at')) 79 := Blk.keep HN1.out (hgr8.block N (Blk.lt HN1.out) (fun e => by have := HBN.out; simp at e; omega))
                have HAll : Hid (RS C r G2 ∧ MLe G2 G ∧ ∀ x q, x < m + 1 → Ext C r p x q → Dom C r G2 q) := by
                  refine ⟨hR8, hM8.trans (MLe.trans HM1.out HS.out.2.1), fun x q hx hq => ?_⟩
                  by_cases ex : x = m
                  · subst ex
                    obtain ⟨q1, q2, e, rfl⟩ := hq
                    rcases List.eq_nil_or_concat e with rfl | ⟨e', y, he'⟩
                    · exact Dom.mono HD1.out hM8
                    · rw [List.concat_eq_append] at he'
                      subst he'
                      exact hD8 y _ ⟨q1, q2, e', by simp⟩
                  · exact Dom.mono (Dom.mono (HS.out.2.2 x q (by omega) hq) HM1.out) hM8
                have HB8 : Hid _ := hB8
                have HN8 : Hid _ := hN8
                have HG8 : Hid (w.grownBy w8 (some B)) := ⟨hgr8.os.trans HGr1.out.os, hgr8.tape.trans HGr1.out.tape, hgr8.output.trans HGr1.out.output, Nat.le_trans HGr1.out.size hgr8.size, fun i hi hne => (hgr8.block i (Nat.lt_of_lt_of_le hi HGr1.out.size) hne).trans (HGr1.out.block i hi hne)⟩
                clear hcall hB8 hR8 hM8 hD8 hgr8 hN8 hN1' hi7
                go_wp2_with (fail)
                go_roundw
                case rel => exact ⟨m + 1, G2, by omega, by omega, by go_num, HAll.out, HB8.out, HN8.out, HG8.out⟩
                case measure => simp [intOf]; omega
              · by_cases c3 : far + cm = qf
                · have c3' : (far + cm == qf) = true := by simpa using c3
                  by_cases c4 : (m : Int) < qx
                  · obtain ⟨⟨G1, hB1, hR1, hM1, hD1⟩, hN1, hgr1⟩ := HY1.out (HBT.out.2 (.inr (.inr ⟨c3, c4⟩)))
                    obtain ⟨W7, hW7⟩ : ∃ W7, (((W6.setCell ⟨B, m * 3, none⟩ (.int .i64 (m : Int))).setCell ⟨B, m * 3 + 1, none⟩ (.int .i64 (far + cm))).setCell ⟨B, m * 3 + 2, none⟩ (.int .i64 (m : Int))) = W7 := ⟨_, rfl⟩
                    rw [hW7] at hB1 hN1 hgr1
                    have hcall := HIH.out (m :: p) m (far + cm) (m : Int) (updB bn at') G1 W7 (by simp; omega) (by omega) HPs.out hR1 hB1 (below_grown HBW.out hgr1 hB0)
                    have hN1' : Blk W7 N (bC (updB bn at')) 79 := hN1
                    have hi7 : (Try.prog.info? 79).map (·.size) = some (bC (updB bn at')).size := by rw [bC_size]; exact sizeB
                    have HM1 : Hid _ := hM1
                    have HD1 : Hid _ := hD1
                    have HN1 : Hid _ := hN1
                    have HGr1 : Hid _ := hgr1
                    have HW7 : Hid _ := hW7
                    clear hB1 hR1 hM1 hD1 hN1 hgr1 hW7 HNo HY1 HBT HW c1 hqf c3
                    obtain ⟨bb, hbb⟩ : ∃ bb, bC (updB bn at') = bb := ⟨_, rfl⟩
                    rw [hbb] at hcall hN1' hi7
                    have HBB : Hid _ := hbb
                    clear hbb
                    go_upto_region 13 with fail
                    rw [HW7.out]
                    go_wp2_with (first
                      | refine wpList_load_blk _ rfl (.tmp 10) 79 rfl N bb _ _ rfl hN1' Try.underlying79 hi7 ?_)
                    refine hcall.mono ?_
                    rintro e w8 ⟨rfl, ⟨G2, hB8, hR8, hM8, hD8⟩, hgr8⟩
                    have hN8 : Blk w8 N (bC (updB bn at')) 79 := Blk.keep HN1.out (hgr8.block N (Blk.lt HN1.out) (fun e => by have := HBN.out; simp at e; omega))
                    have HAll : Hid (RS C r G2 ∧ MLe G2 G ∧ ∀ x q, x < m + 1 → Ext C r p x q → Dom C r G2 q) := by
                      refine ⟨hR8, hM8.trans (MLe.trans HM1.out HS.out.2.1), fun x q hx hq => ?_⟩
                      by_cases ex : x = m
                      · subst ex
                        obtain ⟨q1, q2, e, rfl⟩ := hq
                        rcases List.eq_nil_or_concat e with rfl | ⟨e', y, he'⟩
                        · exact Dom.mono HD1.out hM8
                        · rw [List.concat_eq_append] at he'
                          subst he'
                          exact hD8 y _ ⟨q1, q2, e', by simp⟩
                      · exact Dom.mono (Dom.mono (HS.out.2.2 x q (by omega) hq) HM1.out) hM8
                    have HB8 : Hid _ := hB8
                    have HN8 : Hid _ := hN8
                    have HG8 : Hid (w.grownBy w8 (some B)) := ⟨hgr8.os.trans HGr1.out.os, hgr8.tape.trans HGr1.out.tape, hgr8.output.trans HGr1.out.output, Nat.le_trans HGr1.out.size hgr8.size, fun i hi hne => (hgr8.block i (Nat.lt_of_lt_of_le hi HGr1.out.size) hne).trans (HGr1.out.block i hi hne)⟩
                    clear hcall hB8 hR8 hM8 hD8 hgr8 hN8 hN1' hi7
                    go_wp2_with (fail)
                    go_roundw
                    case rel => exact ⟨m + 1, G2, by omega, by omega, by go_num, HAll.out, HB8.out, HN8.out, HG8.out⟩
                    case measure => simp [intOf]; omega
                  · obtain ⟨⟨G1, hB1, hR1, hM1, hD1⟩, hN1, hgr1⟩ := HNo.out (fun hb => by have := HBT.out.1 hb; omega)
                    obtain ⟨W7, hW7⟩ : ∃ W7, W6 = W7 := ⟨_, rfl⟩
                    rw [hW7] at hB1 hN1 hgr1
                    have hcall := HIH.out (m :: p) m (far + cm) (m : Int) (updB bn at') G1 W7 (by simp; omega) (by omega) HPs.out hR1 hB1 (below_grown HBW.out hgr1 hB0)
                    have hN1' : Blk W7 N (bC (updB bn at')) 79 := hN1
                    have hi7 : (Try.prog.info? 79).map (·.size) = some (bC (updB bn at')).size := by rw [bC_size]; exact sizeB
                    have HM1 : Hid _ := hM1
                    have HD1 : Hid _ := hD1
                    have HN1 : Hid _ := hN1
                    have HGr1 : Hid _ := hgr1
                    have HW7 : Hid _ := hW7
                    clear hB1 hR1 hM1 hD1 hN1 hgr1 hW7 HNo HY1 HBT HW c1 hqf c3
                    obtain ⟨bb, hbb⟩ : ∃ bb, bC (updB bn at') = bb := ⟨_, rfl⟩
                    rw [hbb] at hcall hN1' hi7
                    have HBB : Hid _ := hbb
                    clear hbb
                    go_upto_region 13 with fail
                    rw [HW7.out]
                    go_wp2_with (first
                      | refine wpList_load_blk _ rfl (.tmp 10) 79 rfl N bb _ _ rfl hN1' Try.underlying79 hi7 ?_)
                    refine hcall.mono ?_
                    rintro e w8 ⟨rfl, ⟨G2, hB8, hR8, hM8, hD8⟩, hgr8⟩
                    have hN8 : Blk w8 N (bC (updB bn at')) 79 := Blk.keep HN1.out (hgr8.block N (Blk.lt HN1.out) (fun e => by have := HBN.out; simp at e; omega))
                    have HAll : Hid (RS C r G2 ∧ MLe G2 G ∧ ∀ x q, x < m + 1 → Ext C r p x q → Dom C r G2 q) := by
                      refine ⟨hR8, hM8.trans (MLe.trans HM1.out HS.out.2.1), fun x q hx hq => ?_⟩
                      by_cases ex : x = m
                      · subst ex
                        obtain ⟨q1, q2, e, rfl⟩ := hq
                        rcases List.eq_nil_or_concat e with rfl | ⟨e', y, he'⟩
                        · exact Dom.mono HD1.out hM8
                        · rw [List.concat_eq_append] at he'
                          subst he'
                          exact hD8 y _ ⟨q1, q2, e', by simp⟩
                      · exact Dom.mono (Dom.mono (HS.out.2.2 x q (by omega) hq) HM1.out) hM8
                    have HB8 : Hid _ := hB8
                    have HN8 : Hid _ := hN8
                    have HG8 : Hid (w.grownBy w8 (some B)) := ⟨hgr8.os.trans HGr1.out.os, hgr8.tape.trans HGr1.out.tape, hgr8.output.trans HGr1.out.output, Nat.le_trans HGr1.out.size hgr8.size, fun i hi hne => (hgr8.block i (Nat.lt_of_lt_of_le hi HGr1.out.size) hne).trans (HGr1.out.block i hi hne)⟩
                    clear hcall hB8 hR8 hM8 hD8 hgr8 hN8 hN1' hi7
                    go_wp2_with (fail)
                    go_roundw
                    case rel => exact ⟨m + 1, G2, by omega, by omega, by go_num, HAll.out, HB8.out, HN8.out, HG8.out⟩
                    case measure => simp [intOf]; omega
                · have c3' : (far + cm == qf) = false := by simpa using c3
                  obtain ⟨⟨G1, hB1, hR1, hM1, hD1⟩, hN1, hgr1⟩ := HNo.out (fun hb => by have := HBT.out.1 hb; omega)
                  obtain ⟨W7, hW7⟩ : ∃ W7, W6 = W7 := ⟨_, rfl⟩
                  rw [hW7] at hB1 hN1 hgr1
                  have hcall := HIH.out (m :: p) m (far + cm) (m : Int) (updB bn at') G1 W7 (by simp; omega) (by omega) HPs.out hR1 hB1 (below_grown HBW.out hgr1 hB0)
                  have hN1' : Blk W7 N (bC (updB bn at')) 79 := hN1
                  have hi7 : (Try.prog.info? 79).map (·.size) = some (bC (updB bn at')).size := by rw [bC_size]; exact sizeB
                  have HM1 : Hid _ := hM1
                  have HD1 : Hid _ := hD1
                  have HN1 : Hid _ := hN1
                  have HGr1 : Hid _ := hgr1
                  have HW7 : Hid _ := hW7
                  clear hB1 hR1 hM1 hD1 hN1 hgr1 hW7 HNo HY1 HBT HW c1 hqf c3
                  obtain ⟨bb, hbb⟩ : ∃ bb, bC (updB bn at') = bb := ⟨_, rfl⟩
                  rw [hbb] at hcall hN1' hi7
                  have HBB : Hid _ := hbb
                  clear hbb
                  go_upto_region 13 with fail
                  rw [HW7.out]
                  go_wp2_with (first
                    | refine wpList_load_blk _ rfl (.tmp 10) 79 rfl N bb _ _ rfl hN1' Try.underlying79 hi7 ?_)
                  refine hcall.mono ?_
                  rintro e w8 ⟨rfl, ⟨G2, hB8, hR8, hM8, hD8⟩, hgr8⟩
                  have hN8 : Blk w8 N (bC (updB bn at')) 79 := Blk.keep HN1.out (hgr8.block N (Blk.lt HN1.out) (fun e => by have := HBN.out; simp at e; omega))
                  have HAll : Hid (RS C r G2 ∧ MLe G2 G ∧ ∀ x q, x < m + 1 → Ext C r p x q → Dom C r G2 q) := by
                    refine ⟨hR8, hM8.trans (MLe.trans HM1.out HS.out.2.1), fun x q hx hq => ?_⟩
                    by_cases ex : x = m
                    · subst ex
                      obtain ⟨q1, q2, e, rfl⟩ := hq
                      rcases List.eq_nil_or_concat e with rfl | ⟨e', y, he'⟩
                      · exact Dom.mono HD1.out hM8
                      · rw [List.concat_eq_append] at he'
                        subst he'
                        exact hD8 y _ ⟨q1, q2, e', by simp⟩
                    · exact Dom.mono (Dom.mono (HS.out.2.2 x q (by omega) hq) HM1.out) hM8
                  have HB8 : Hid _ := hB8
                  have HN8 : Hid _ := hN8
                  have HG8 : Hid (w.grownBy w8 (some B)) := ⟨hgr8.os.trans HGr1.out.os, hgr8.tape.trans HGr1.out.tape, hgr8.output.trans HGr1.out.output, Nat.le_trans HGr1.out.size hgr8.size, fun i hi hne => (hgr8.block i (Nat.lt_of_lt_of_le hi HGr1.out.size) hne).trans (HGr1.out.block i hi hne)⟩
                  clear hcall hB8 hR8 hM8 hD8 hgr8 hN8 hN1' hi7
                  go_wp2_with (fail)
                  go_roundw
                  case rel => exact ⟨m + 1, G2, by omega, by omega, by go_num, HAll.out, HB8.out, HN8.out, HG8.out⟩
                  case measure => simp [intOf]; omega
          · have hby' : (by' == 0) = false := by simpa using hby
            have hE : nx = by' := by rw [← HNX.out, if_neg hby]
            subst hE
            clear hby
            obtain ⟨qd, hqd⟩ : ∃ qd, (G' m).dst = qd := ⟨_, rfl⟩
            obtain ⟨qf, hqf⟩ : ∃ qf, (G' m).far = qf := ⟨_, rfl⟩
            obtain ⟨qx, hqx⟩ : ∃ qx, (G' m).nxt = qx := ⟨_, rfl⟩
            rw [hqd] at b0 HW
            rw [hqf] at b1 HW HBT
            rw [hqx] at b2 HBT
            obtain ⟨W6, hW6⟩ : ∃ W6, w5.alloc (.cells #[.int .i64 qd, .int .i64 qf, .int .i64 qx] 73) = W6 := ⟨_, rfl⟩
            have k6 : Below w5.heap.size w5 W6 := by rw [← hW6]; exact below_alloc _ _
            have hY : Blk W6 w5.heap.size #[.int .i64 qd, .int .i64 qf, .int .i64 qx] 73 := by rw [← hW6]; exact Blk.new _ _ _
            have HW6 : Hid _ := hW6
            have hB6 := Blk.below HB5.out k6
            have HN6 : Hid _ := Blk.below HN5.out k6
            have HG6 : Hid (w.grownBy W6 (some B)) := ⟨k6.os.trans HG5.out.os, k6.tape.trans HG5.out.tape, k6.output.trans HG5.out.output, Nat.le_trans HG5.out.size k6.size, fun i hi hne => (k6.block i (Nat.lt_of_lt_of_le hi HG5.out.size)).trans (HG5.out.block i hi hne)⟩
            have y0 : W6.cell? ⟨w5.heap.size, 0, none⟩ = some (.int .i64 qd) := hY.cell 0
            have y1 : W6.cell? ⟨w5.heap.size, 1, none⟩ = some (.int .i64 qf) := hY.cell 1
            have y2 : W6.cell? ⟨w5.heap.size, 2, none⟩ = some (.int .i64 qx) := hY.cell 2
            have ly := hY.lt
            have f0 := hB6.frozen (m * 3)
            have f1 := hB6.frozen (m * 3 + 1)
            have f2 := hB6.frozen (m * 3 + 2)
            have g0 := (k6.cell (p := ⟨B, m * 3, none⟩) (Blk.lt HB5.out)).trans b0
            have g1 := (k6.cell (p := ⟨B, m * 3 + 1, none⟩) (Blk.lt HB5.out)).trans b1
            have g2 := (k6.cell (p := ⟨B, m * 3 + 2, none⟩) (Blk.lt HB5.out)).trans b2
            have lB := hB6.lt
            have HB6 : Hid _ := hB6
            clear hW6 k6 hY hqd hqf hqx hB6 HN5 HG5 HB5 hnn
            go_upto_region 11 with fail
            rw [HW6.out]
            clear b0 b1 b2 nb hz'
            have HY1 : Hid (betB ⟨(m : Int), far + cm, nx⟩ (G' m) = true → (∃ G1, Blk (((W6.setCell ⟨B, m * 3, none⟩ (.int .i64 (m : Int))).setCell ⟨B, m * 3 + 1, none⟩ (.int .i64 (far + cm))).setCell ⟨B, m * 3 + 2, none⟩ (.int .i64 nx)) B (hC G1) 103 ∧ RS C r G1 ∧ MLe G1 G' ∧ Dom C r G1 (m :: p)) ∧ Blk (((W6.setCell ⟨B, m * 3, none⟩ (.int .i64 (m : Int))).setCell ⟨B, m * 3 + 1, none⟩ (.int .i64 (far + cm))).setCell ⟨B, m * 3 + 2, none⟩ (.int .i64 nx)) N (bC (updB bn at')) 79 ∧ w.grownBy (((W6.setCell ⟨B, m * 3, none⟩ (.int .i64 (m : Int))).setCell ⟨B, m * 3 + 1, none⟩ (.int .i64 (far + cm))).setCell ⟨B, m * 3 + 2, none⟩ (.int .i64 nx)) (some B)) := by
              intro hb
              obtain ⟨u1, u2, u3⟩ := HU.out hb
              have hne : N ≠ B := by have := HBN.out; omega
              refine ⟨⟨_, ?_, u1, u2, u3⟩, Blk.other (Blk.other (Blk.other HN6.out hne _) hne _) hne _, grownBy_setC (grownBy_setC (grownBy_setC HG6.out _ _) _ _) _ _⟩
              rw [← hC_set G' m ⟨(m : Int), far + cm, nx⟩ (by omega)]
              exact Blk.set (Blk.set (Blk.set HB6.out _ _) _ _) _ _
            have HNo : Hid (¬ betB ⟨(m : Int), far + cm, nx⟩ (G' m) = true → (∃ G1, Blk W6 B (hC G1) 103 ∧ RS C r G1 ∧ MLe G1 G' ∧ Dom C r G1 (m :: p)) ∧ Blk W6 N (bC (updB bn at')) 79 ∧ w.grownBy W6 (some B)) :=
              fun hb => ⟨⟨G', HB6.out, HS.out.1, MLe.refl _, HV.out hb⟩, HN6.out, HG6.out⟩
            clear HN6 HG6 HB6 HU HV HPn
            by_cases c1 : qd = 0
            · have c1' : (qd == 0) = true := by simpa using c1
              obtain ⟨⟨G1, hB1, hR1, hM1, hD1⟩, hN1, hgr1⟩ := HY1.out (HBT.out.2 (.inl (HW.out.1 c1)))
              obtain ⟨W7, hW7⟩ : ∃ W7, (((W6.setCell ⟨B, m * 3, none⟩ (.int .i64 (m : Int))).setCell ⟨B, m * 3 + 1, none⟩ (.int .i64 (far + cm))).setCell ⟨B, m * 3 + 2, none⟩ (.int .i64 nx)) = W7 := ⟨_, rfl⟩
              rw [hW7] at hB1 hN1 hgr1
              have hcall := HIH.out (m :: p) m (far + cm) nx (updB bn at') G1 W7 (by simp; omega) (by omega) HPs.out hR1 hB1 (below_grown HBW.out hgr1 hB0)
              have hN1' : Blk W7 N (bC (updB bn at')) 79 := hN1
              have hi7 : (Try.prog.info? 79).map (·.size) = some (bC (updB bn at')).size := by rw [bC_size]; exact sizeB
              have HM1 : Hid _ := hM1
              have HD1 : Hid _ := hD1
              have HN1 : Hid _ := hN1
              have HGr1 : Hid _ := hgr1
              have HW7 : Hid _ := hW7
              clear hB1 hR1 hM1 hD1 hN1 hgr1 hW7 HNo HY1 HBT HW c1
              obtain ⟨bb, hbb⟩ : ∃ bb, bC (updB bn at') = bb := ⟨_, rfl⟩
              rw [hbb] at hcall hN1' hi7
              have HBB : Hid _ := hbb
              clear hbb
              go_upto_region 13 with fail
              rw [HW7.out]
              go_wp2_with (first
                | refine wpList_load_blk _ rfl (.tmp 10) 79 rfl N bb _ _ rfl hN1' Try.underlying79 hi7 ?_)
              refine hcall.mono ?_
              rintro e w8 ⟨rfl, ⟨G2, hB8, hR8, hM8, hD8⟩, hgr8⟩
              have hN8 : Blk w8 N (bC (updB bn at')) 79 := Blk.keep HN1.out (hgr8.block N (Blk.lt HN1.out) (fun e => by have := HBN.out; simp at e; omega))
              have HAll : Hid (RS C r G2 ∧ MLe G2 G ∧ ∀ x q, x < m + 1 → Ext C r p x q → Dom C r G2 q) := by
                refine ⟨hR8, hM8.trans (MLe.trans HM1.out HS.out.2.1), fun x q hx hq => ?_⟩
                by_cases ex : x = m
                · subst ex
                  obtain ⟨q1, q2, e, rfl⟩ := hq
                  rcases List.eq_nil_or_concat e with rfl | ⟨e', y, he'⟩
                  · exact Dom.mono HD1.out hM8
                  · rw [List.concat_eq_append] at he'
                    subst he'
                    exact hD8 y _ ⟨q1, q2, e', by simp⟩
                · exact Dom.mono (Dom.mono (HS.out.2.2 x q (by omega) hq) HM1.out) hM8
              have HB8 : Hid _ := hB8
              have HN8 : Hid _ := hN8
              have HG8 : Hid (w.grownBy w8 (some B)) := ⟨hgr8.os.trans HGr1.out.os, hgr8.tape.trans HGr1.out.tape, hgr8.output.trans HGr1.out.output, Nat.le_trans HGr1.out.size hgr8.size, fun i hi hne => (hgr8.block i (Nat.lt_of_lt_of_le hi HGr1.out.size) hne).trans (HGr1.out.block i hi hne)⟩
              clear hcall hB8 hR8 hM8 hD8 hgr8 hN8 hN1' hi7
              go_wp2_with (fail)
              go_roundw
              case rel => exact ⟨m + 1, G2, by omega, by omega, by go_num, HAll.out, HB8.out, HN8.out, HG8.out⟩
              case measure => simp [intOf]; omega
            · have c1' : (qd == 0) = false := by simpa using c1
              have hqf : ¬ qf = 0 := fun e => c1 (HW.out.2 e)
              by_cases c2 : far + cm < qf
              · obtain ⟨⟨G1, hB1, hR1, hM1, hD1⟩, hN1, hgr1⟩ := HY1.out (HBT.out.2 (.inr (.inl c2)))
                obtain ⟨W7, hW7⟩ : ∃ W7, (((W6.setCell ⟨B, m * 3, none⟩ (.int .i64 (m : Int))).setCell ⟨B, m * 3 + 1, none⟩ (.int .i64 (far + cm))).setCell ⟨B, m * 3 + 2, none⟩ (.int .i64 nx)) = W7 := ⟨_, rfl⟩
                rw [hW7] at hB1 hN1 hgr1
                have hcall := HIH.out (m :: p) m (far + cm) nx (updB bn at') G1 W7 (by simp; omega) (by omega) HPs.out hR1 hB1 (below_grown HBW.out hgr1 hB0)
                have hN1' : Blk W7 N (bC (updB bn at')) 79 := hN1
                have hi7 : (Try.prog.info? 79).map (·.size) = some (bC (updB bn at')).size := by rw [bC_size]; exact sizeB
                have HM1 : Hid _ := hM1
                have HD1 : Hid _ := hD1
                have HN1 : Hid _ := hN1
                have HGr1 : Hid _ := hgr1
                have HW7 : Hid _ := hW7
                clear hB1 hR1 hM1 hD1 hN1 hgr1 hW7 HNo HY1 HBT HW c1 hqf
                obtain ⟨bb, hbb⟩ : ∃ bb, bC (updB bn at') = bb := ⟨_, rfl⟩
                rw [hbb] at hcall hN1' hi7
                have HBB : Hid _ := hbb
                clear hbb
                go_upto_region 13 with fail
                rw [HW7.out]
                go_wp2_with (first
                  | refine wpList_load_blk _ rfl (.tmp 10) 79 rfl N bb _ _ rfl hN1' Try.underlying79 hi7 ?_)
                refine hcall.mono ?_
                rintro e w8 ⟨rfl, ⟨G2, hB8, hR8, hM8, hD8⟩, hgr8⟩
                have hN8 : Blk w8 N (bC (updB bn at')) 79 := Blk.keep HN1.out (hgr8.block N (Blk.lt HN1.out) (fun e => by have := HBN.out; simp at e; omega))
                have HAll : Hid (RS C r G2 ∧ MLe G2 G ∧ ∀ x q, x < m + 1 → Ext C r p x q → Dom C r G2 q) := by
                  refine ⟨hR8, hM8.trans (MLe.trans HM1.out HS.out.2.1), fun x q hx hq => ?_⟩
                  by_cases ex : x = m
                  · subst ex
                    obtain ⟨q1, q2, e, rfl⟩ := hq
                    rcases List.eq_nil_or_concat e with rfl | ⟨e', y, he'⟩
                    · exact Dom.mono HD1.out hM8
                    · rw [List.concat_eq_append] at he'
                      subst he'
                      exact hD8 y _ ⟨q1, q2, e', by simp⟩
                  · exact Dom.mono (Dom.mono (HS.out.2.2 x q (by omega) hq) HM1.out) hM8
                have HB8 : Hid _ := hB8
                have HN8 : Hid _ := hN8
                have HG8 : Hid (w.grownBy w8 (some B)) := ⟨hgr8.os.trans HGr1.out.os, hgr8.tape.trans HGr1.out.tape, hgr8.output.trans HGr1.out.output, Nat.le_trans HGr1.out.size hgr8.size, fun i hi hne => (hgr8.block i (Nat.lt_of_lt_of_le hi HGr1.out.size) hne).trans (HGr1.out.block i hi hne)⟩
                clear hcall hB8 hR8 hM8 hD8 hgr8 hN8 hN1' hi7
                go_wp2_with (fail)
                go_roundw
                case rel => exact ⟨m + 1, G2, by omega, by omega, by go_num, HAll.out, HB8.out, HN8.out, HG8.out⟩
                case measure => simp [intOf]; omega
              · by_cases c3 : far + cm = qf
                · have c3' : (far + cm == qf) = true := by simpa using c3
                  by_cases c4 : nx < qx
                  · obtain ⟨⟨G1, hB1, hR1, hM1, hD1⟩, hN1, hgr1⟩ := HY1.out (HBT.out.2 (.inr (.inr ⟨c3, c4⟩)))
                    obtain ⟨W7, hW7⟩ : ∃ W7, (((W6.setCell ⟨B, m * 3, none⟩ (.int .i64 (m : Int))).setCell ⟨B, m * 3 + 1, none⟩ (.int .i64 (far + cm))).setCell ⟨B, m * 3 + 2, none⟩ (.int .i64 nx)) = W7 := ⟨_, rfl⟩
                    rw [hW7] at hB1 hN1 hgr1
                    have hcall := HIH.out (m :: p) m (far + cm) nx (updB bn at') G1 W7 (by simp; omega) (by omega) HPs.out hR1 hB1 (below_grown HBW.out hgr1 hB0)
                    have hN1' : Blk W7 N (bC (updB bn at')) 79 := hN1
                    have hi7 : (Try.prog.info? 79).map (·.size) = some (bC (updB bn at')).size := by rw [bC_size]; exact sizeB
                    have HM1 : Hid _ := hM1
                    have HD1 : Hid _ := hD1
                    have HN1 : Hid _ := hN1
                    have HGr1 : Hid _ := hgr1
                    have HW7 : Hid _ := hW7
                    clear hB1 hR1 hM1 hD1 hN1 hgr1 hW7 HNo HY1 HBT HW c1 hqf c3
                    obtain ⟨bb, hbb⟩ : ∃ bb, bC (updB bn at') = bb := ⟨_, rfl⟩
                    rw [hbb] at hcall hN1' hi7
                    have HBB : Hid _ := hbb
                    clear hbb
                    go_upto_region 13 with fail
                    rw [HW7.out]
                    go_wp2_with (first
                      | refine wpList_load_blk _ rfl (.tmp 10) 79 rfl N bb _ _ rfl hN1' Try.underlying79 hi7 ?_)
                    refine hcall.mono ?_
                    rintro e w8 ⟨rfl, ⟨G2, hB8, hR8, hM8, hD8⟩, hgr8⟩
                    have hN8 : Blk w8 N (bC (updB bn at')) 79 := Blk.keep HN1.out (hgr8.block N (Blk.lt HN1.out) (fun e => by have := HBN.out; simp at e; omega))
                    have HAll : Hid (RS C r G2 ∧ MLe G2 G ∧ ∀ x q, x < m + 1 → Ext C r p x q → Dom C r G2 q) := by
                      refine ⟨hR8, hM8.trans (MLe.trans HM1.out HS.out.2.1), fun x q hx hq => ?_⟩
                      by_cases ex : x = m
                      · subst ex
                        obtain ⟨q1, q2, e, rfl⟩ := hq
                        rcases List.eq_nil_or_concat e with rfl | ⟨e', y, he'⟩
                        · exact Dom.mono HD1.out hM8
                        · rw [List.concat_eq_append] at he'
                          subst he'
                          exact hD8 y _ ⟨q1, q2, e', by simp⟩
                      · exact Dom.mono (Dom.mono (HS.out.2.2 x q (by omega) hq) HM1.out) hM8
                    have HB8 : Hid _ := hB8
                    have HN8 : Hid _ := hN8
                    have HG8 : Hid (w.grownBy w8 (some B)) := ⟨hgr8.os.trans HGr1.out.os, hgr8.tape.trans HGr1.out.tape, hgr8.output.trans HGr1.out.output, Nat.le_trans HGr1.out.size hgr8.size, fun i hi hne => (hgr8.block i (Nat.lt_of_lt_of_le hi HGr1.out.size) hne).trans (HGr1.out.block i hi hne)⟩
                    clear hcall hB8 hR8 hM8 hD8 hgr8 hN8 hN1' hi7
                    go_wp2_with (fail)
                    go_roundw
                    case rel => exact ⟨m + 1, G2, by omega, by omega, by go_num, HAll.out, HB8.out, HN8.out, HG8.out⟩
                    case measure => simp [intOf]; omega
                  · obtain ⟨⟨G1, hB1, hR1, hM1, hD1⟩, hN1, hgr1⟩ := HNo.out (fun hb => by have := HBT.out.1 hb; omega)
                    obtain ⟨W7, hW7⟩ : ∃ W7, W6 = W7 := ⟨_, rfl⟩
                    rw [hW7] at hB1 hN1 hgr1
                    have hcall := HIH.out (m :: p) m (far + cm) nx (updB bn at') G1 W7 (by simp; omega) (by omega) HPs.out hR1 hB1 (below_grown HBW.out hgr1 hB0)
                    have hN1' : Blk W7 N (bC (updB bn at')) 79 := hN1
                    have hi7 : (Try.prog.info? 79).map (·.size) = some (bC (updB bn at')).size := by rw [bC_size]; exact sizeB
                    have HM1 : Hid _ := hM1
                    have HD1 : Hid _ := hD1
                    have HN1 : Hid _ := hN1
                    have HGr1 : Hid _ := hgr1
                    have HW7 : Hid _ := hW7
                    clear hB1 hR1 hM1 hD1 hN1 hgr1 hW7 HNo HY1 HBT HW c1 hqf c3
                    obtain ⟨bb, hbb⟩ : ∃ bb, bC (updB bn at') = bb := ⟨_, rfl⟩
                    rw [hbb] at hcall hN1' hi7
                    have HBB : Hid _ := hbb
                    clear hbb
                    go_upto_region 13 with fail
                    rw [HW7.out]
                    go_wp2_with (first
                      | refine wpList_load_blk _ rfl (.tmp 10) 79 rfl N bb _ _ rfl hN1' Try.underlying79 hi7 ?_)
                    refine hcall.mono ?_
                    rintro e w8 ⟨rfl, ⟨G2, hB8, hR8, hM8, hD8⟩, hgr8⟩
                    have hN8 : Blk w8 N (bC (updB bn at')) 79 := Blk.keep HN1.out (hgr8.block N (Blk.lt HN1.out) (fun e => by have := HBN.out; simp at e; omega))
                    have HAll : Hid (RS C r G2 ∧ MLe G2 G ∧ ∀ x q, x < m + 1 → Ext C r p x q → Dom C r G2 q) := by
                      refine ⟨hR8, hM8.trans (MLe.trans HM1.out HS.out.2.1), fun x q hx hq => ?_⟩
                      by_cases ex : x = m
                      · subst ex
                        obtain ⟨q1, q2, e, rfl⟩ := hq
                        rcases List.eq_nil_or_concat e with rfl | ⟨e', y, he'⟩
                        · exact Dom.mono HD1.out hM8
                        · rw [List.concat_eq_append] at he'
                          subst he'
                          exact hD8 y _ ⟨q1, q2, e', by simp⟩
                      · exact Dom.mono (Dom.mono (HS.out.2.2 x q (by omega) hq) HM1.out) hM8
                    have HB8 : Hid _ := hB8
                    have HN8 : Hid _ := hN8
                    have HG8 : Hid (w.grownBy w8 (some B)) := ⟨hgr8.os.trans HGr1.out.os, hgr8.tape.trans HGr1.out.tape, hgr8.output.trans HGr1.out.output, Nat.le_trans HGr1.out.size hgr8.size, fun i hi hne => (hgr8.block i (Nat.lt_of_lt_of_le hi HGr1.out.size) hne).trans (HGr1.out.block i hi hne)⟩
                    clear hcall hB8 hR8 hM8 hD8 hgr8 hN8 hN1' hi7
                    go_wp2_with (fail)
                    go_roundw
                    case rel => exact ⟨m + 1, G2, by omega, by omega, by go_num, HAll.out, HB8.out, HN8.out, HG8.out⟩
                    case measure => simp [intOf]; omega
                · have c3' : (far + cm == qf) = false := by simpa using c3
                  obtain ⟨⟨G1, hB1, hR1, hM1, hD1⟩, hN1, hgr1⟩ := HNo.out (fun hb => by have := HBT.out.1 hb; omega)
                  obtain ⟨W7, hW7⟩ : ∃ W7, W6 = W7 := ⟨_, rfl⟩
                  rw [hW7] at hB1 hN1 hgr1
                  have hcall := HIH.out (m :: p) m (far + cm) nx (updB bn at') G1 W7 (by simp; omega) (by omega) HPs.out hR1 hB1 (below_grown HBW.out hgr1 hB0)
                  have hN1' : Blk W7 N (bC (updB bn at')) 79 := hN1
                  have hi7 : (Try.prog.info? 79).map (·.size) = some (bC (updB bn at')).size := by rw [bC_size]; exact sizeB
                  have HM1 : Hid _ := hM1
                  have HD1 : Hid _ := hD1
                  have HN1 : Hid _ := hN1
                  have HGr1 : Hid _ := hgr1
                  have HW7 : Hid _ := hW7
                  clear hB1 hR1 hM1 hD1 hN1 hgr1 hW7 HNo HY1 HBT HW c1 hqf c3
                  obtain ⟨bb, hbb⟩ : ∃ bb, bC (updB bn at') = bb := ⟨_, rfl⟩
                  rw [hbb] at hcall hN1' hi7
                  have HBB : Hid _ := hbb
                  clear hbb
                  go_upto_region 13 with fail
                  rw [HW7.out]
                  go_wp2_with (first
                    | refine wpList_load_blk _ rfl (.tmp 10) 79 rfl N bb _ _ rfl hN1' Try.underlying79 hi7 ?_)
                  refine hcall.mono ?_
                  rintro e w8 ⟨rfl, ⟨G2, hB8, hR8, hM8, hD8⟩, hgr8⟩
                  have hN8 : Blk w8 N (bC (updB bn at')) 79 := Blk.keep HN1.out (hgr8.block N (Blk.lt HN1.out) (fun e => by have := HBN.out; simp at e; omega))
                  have HAll : Hid (RS C r G2 ∧ MLe G2 G ∧ ∀ x q, x < m + 1 → Ext C r p x q → Dom C r G2 q) := by
                    refine ⟨hR8, hM8.trans (MLe.trans HM1.out HS.out.2.1), fun x q hx hq => ?_⟩
                    by_cases ex : x = m
                    · subst ex
                      obtain ⟨q1, q2, e, rfl⟩ := hq
                      rcases List.eq_nil_or_concat e with rfl | ⟨e', y, he'⟩
                      · exact Dom.mono HD1.out hM8
                      · rw [List.concat_eq_append] at he'
                        subst he'
                        exact hD8 y _ ⟨q1, q2, e', by simp⟩
                    · exact Dom.mono (Dom.mono (HS.out.2.2 x q (by omega) hq) HM1.out) hM8
                  have HB8 : Hid _ := hB8
                  have HN8 : Hid _ := hN8
                  have HG8 : Hid (w.grownBy w8 (some B)) := ⟨hgr8.os.trans HGr1.out.os, hgr8.tape.trans HGr1.out.tape, hgr8.output.trans HGr1.out.output, Nat.le_trans HGr1.out.size hgr8.size, fun i hi hne => (hgr8.block i (Nat.lt_of_lt_of_le hi HGr1.out.size) hne).trans (HGr1.out.block i hi hne)⟩
                  clear hcall hB8 hR8 hM8 hD8 hgr8 hN8 hN1' hi7
                  go_wp2_with (fail)
                  go_roundw
                  case rel => exact ⟨m + 1, G2, by omega, by omega, by go_num, HAll.out, HB8.out, HN8.out, HG8.out⟩
                  case measure => simp [intOf]; omega
      · have hm6' : ¬ (m : Int) ≤ 6 := by omega
        have HR : Hid (∃ G', Blk wr B (hC G') 103 ∧ RS C r G' ∧ MLe G' G ∧ ∀ x q, Ext C r p x q → Dom C r G' q) := by
          refine ⟨G', hB, HS.out.1, HS.out.2.1, fun x q hq => HS.out.2.2 x q ?_ hq⟩
          obtain ⟨q1, _, e, rfl⟩ := hq
          have := (ok_lt q1 x (by simp)).1
          omega
        have HGr : Hid _ := hgr
        clear hB hN hgr
        go_wp2_with (fail)
        first | go_end0 | refine bodyPost_ret (results_none rfl _ _ _) rfl ?_
        exact ⟨rfl, HR.out, HGr.out⟩
end Go.Proofs.Ytielnomhdahciaa
