/-
  'TopOpened' returns true at all numbers, and changes nothing that was there.
-/
import Derived.Test.YtakckdeadchflabDoorOpenedBase
import Derived.Test.YtakckdeadchflabDoorIntsIn
namespace Go.Proofs.YtakckdeadchflabDoor
open Go.RowKit
namespace topOpened

/-- Both are Opened, and nothing is on its way. -/
def Both (w0 w : World) (N : Nat) (X : Nat → Prop) (Bl Bm : Nat) (a b x y : Int) : Prop :=
  ∃ (i j : Int) (va : Value), 0 ≤ i ∧ i ≤ 255 ∧ 0 ≤ j ∧ j ≤ 255 ∧ Pair w0 w N X Bl Bm (opened a b x i) va [] (opened x y a j) nilV []
section
variable {a b x y : Int} {N : Nat} {X : Nat → Prop} {Bl Bm : Nat} {w0 : World}
theorem talk_to {sa sb : LS} {va vb : Value} {pa pb : List PV} {oa ob : List APkt} {w : World} (h : Pair w0 w N X Bl Bm sa va pa sb vb pb) (hoa : pa.map PV.abs = oa) (hob : pb.map PV.abs = ob) (hok : talkOk 8 sa oa sb ob) (i j : Int) (hi : 0 ≤ i ∧ i ≤ 255) (hj : 0 ≤ j ∧ j ≤ 255) (hF : talkF 8 sa oa sb ob = (opened a b x i, [], opened x y a j, [])) :
    Calls Tryd.prog 7 #[.pointer (some ⟨Bl, 0, none⟩), .pointer (some ⟨Bm, 0, none⟩), .int .i64 8] w fun e w' => e = .returned (.tuple #[]) ∧ Both w0 w' N X Bl Bm a b x y := by
  subst hoa hob
  refine (talk_any 8 (by decide) N X Bl Bm sa va pa sb vb pb w0 w h hok _ hF).mono ?_
  rintro e w' ⟨rfl, sa', va', pa', sb', vb', pb', hP, hE, hn⟩
  simp only [Prod.mk.injEq] at hE
  obtain ⟨rfl, h1, rfl, h2⟩ := hE
  have hpa := List.map_eq_nil_iff.1 h1
  have hpb := List.map_eq_nil_iff.1 h2
  subst hpa hpb
  have hv := hn (by decide)
  subst hv
  exact ⟨rfl, i, j, va', hi.1, hi.2, hj.1, hj.2, hP⟩
theorem do_a {ev : Int} (hev : ev = 0 ∨ ev = 1 ∨ ev = 2 ∨ ev = 3) {sa sb : LS} {va : Value} {pa : List PV} {w : World} (h : Pair w0 w N X Bl Bm sa va pa sb nilV []) (hb : Bd sa 100) (hn : pa.length ≤ 50) (hf : (stepI sa.st ev).2.2 = 0) :
    Calls Tryd.prog 9 #[.pointer (some ⟨Bl, 0, none⟩), .int .i64 ev] w fun e w' => e = .returned .nilIface ∧ ∃ va' qs, Pair w0 w' N X Bl Bm (comeS sa ev) va' (pa ++ qs) sb nilV [] ∧ qs.map PV.abs = comeO sa ev (0, 0, []) := by
  refine (do_rep ev hev Bl X sa va pa w h.tab h.a hb hn hf).mono ?_
  rintro e w' ⟨rfl, hW⟩
  exact ⟨rfl, pair_a h rfl hW⟩
theorem do_b {ev : Int} (hev : ev = 0 ∨ ev = 1 ∨ ev = 2 ∨ ev = 3) {sa sb : LS} {va vb : Value} {pa pb : List PV} {w : World} (h : Pair w0 w N X Bl Bm sa va pa sb vb pb) (hb : Bd sb 100) (hn : pb.length ≤ 50) (hf : (stepI sb.st ev).2.2 = 0) :
    Calls Tryd.prog 9 #[.pointer (some ⟨Bm, 0, none⟩), .int .i64 ev] w fun e w' => e = .returned .nilIface ∧ ∃ vb' qs, Pair w0 w' N X Bl Bm sa va pa (comeS sb ev) vb' (pb ++ qs) ∧ qs.map PV.abs = comeO sb ev (0, 0, []) := by
  refine (do_rep ev hev Bm X sb vb pb w h.tab h.b hb hn hf).mono ?_
  rintro e w' ⟨rfl, hW⟩
  exact ⟨rfl, pair_b h hW⟩
end
set_option maxRecDepth 100000 in
set_option maxHeartbeats 16000000 in
theorem walk_in (a b x y : Int) (ha' : Option Addr) (nh ch : Nat) (hs : List Int) (w : World) (hT : TabOk w) (hh : IntsR w ha' nh hs) (hn5 : nh ≤ 5) (ha : Nums a b) (hx : Nums x y) (hne : b ≠ y) :
    Calls Tryd.prog 3 #[.int .i64 a, .int .i64 b, .int .i64 x, .int .i64 y, .slice ha' nh ch] w fun e w' => e = .returned (.bool true) ∧ Below w.heap.size w w' := by
  have h0 := hT.lt
  have hby : (b == y) = false := by simpa using hne
  have n1 : (x != x) = false := by simp
  have n2 : (a != a) = false := by simp
  have hn5' : ¬ (5 : Int) < (nh : Int) := by omega
  go_enter Tryd.func3, Tryd.ntmps3
  go_wp2_with (fail)
  refine (end_rep (fun _ => False) 90 7 w hT ⟨by decide, by decide, by decide, by decide⟩ (fun k hk => hk.elim)).mono ?_
  rintro e w1 ⟨B0, v0, p0, rfl, R0, _, hB0, _, hb1⟩
  have hT1 := hT.below hb1
  go_wp2_with (fail)
  refine (state_rep B0 _ _ _ _ _ R0).mono ?_
  rintro e y1 ⟨rfl, rfl⟩
  simp only [asking]
  clear R0
  go_wp2_with (fail)
  refine (end_rep (fun _ => False) a b w1 hT1 ha (fun k hk => hk.elim)).mono ?_
  rintro e w2 ⟨Bl, vl, pl, rfl, Rl, ol, hBl, hvl, hb2⟩
  have hT2 := hT1.below hb2
  have hlBl := Rl.lk.lt
  go_wp2_with (fail)
  refine (end_rep (fun k => k = Bl) x y w2 hT2 hx (fun k hk => by subst hk; exact hlBl)).mono ?_
  rintro e w3 ⟨Bm, vm, pm, rfl, Rm, om, hBm, hvm, hb3⟩
  have hlBm := Rm.lk.lt
  obtain ⟨X, hX⟩ : ∃ X : Nat → Prop, (fun k => k = Bl ∨ k = Bm) = X := ⟨_, rfl⟩
  have hXl : X Bl := by rw [← hX]; exact .inl rfl
  have hXo : ∀ k, X k → k = Bl ∨ k = Bm := by rw [← hX]; exact fun k hk => hk
  rw [hX] at Rm
  have P0 : Pair w w3 w.heap.size X Bl Bm (asking a b 1) vl pl (asking x y 1) vm pm :=
    ⟨Rl.widen hb3 hXl (fun k hk => by rcases hXo k hk with rfl | rfl
                                      · exact Nat.lt_of_lt_of_le hlBl hb3.size
                                      · exact hlBm) (fun k hk hx2 => by rcases hXo k hx2 with rfl | rfl
                                                                        · exact .inr rfl
                                                                        · omega), Rm, by omega,
      fun k hk e => by have := Rl.row.lt k hk; have := hvm k e; omega, fun p hp k hk e => by have := ((Rl.pk p hp).far k hk).2.2; have := hvm k e; omega,
      fun k hk => Nat.le_trans hb1.size (hvl k hk), fun k hk => Nat.le_trans (Nat.le_trans hb1.size hb2.size) (hvm k hk), h0, Nat.le_trans hb1.size hBl, Nat.le_trans (Nat.le_trans hb1.size hb2.size) hBm, hT2.below hb3, below_chain (below_chain hb1 hb2) hb3, Nat.le_refl _⟩
  have T0 := talk_to P0 ol om (both_ok ha hx hne (by decide) (by decide) (by decide) (by decide)) 1 1 ⟨by decide, by decide⟩ ⟨by decide, by decide⟩ (both_F ha hx)
  clear P0 Rl Rm ol om hX hXo hb1 hb2 hb3 hT1 hT2 hvl hvm
  go_wp2_with (fail)
  refine T0.mono ?_
  rintro e w4 ⟨rfl, hBoth⟩
  clear T0
  obtain ⟨i', j', va', i1', i2', j1', j2', P'⟩ := hBoth
  go_wp2_with (fail)
  refine (state_rep Bl X _ _ _ _ P'.a).mono ?_
  rintro e y1 ⟨rfl, rfl⟩
  go_wp2_with (fail)
  refine (state_rep Bm X _ _ _ _ P'.b).mono ?_
  rintro e y1 ⟨rfl, rfl⟩
  go_wp2_with (fail)
  refine (size_rep Bl X _ _ _ _ P'.a).mono ?_
  rintro e y1 ⟨rfl, rfl⟩
  simp only [opened]
  go_wp2_with (fail)
  refine (size_rep Bm X _ _ _ _ P'.b).mono ?_
  rintro e y1 ⟨rfl, rfl⟩
  simp only [opened]
  have HB : Hid (Both w w4 w.heap.size X Bl Bm a b x y) := ⟨i', j', va', i1', i2', j1', j2', P'⟩
  clear P' i1' i2' j1' j2'
  go_wp2_with (fail)
  go_loopw [15] (fun ix wr => ∃ k : Nat, k ≤ nh ∧ ix = .int .i64 k ∧ Both w wr w.heap.size X Bl Bm a b x y) (fun ix _ => nh - (intOf ix).toNat)
  case atStart => exact ⟨0, Nat.zero_le _, rfl, HB.out⟩
  case round =>
    clear HB
    obtain ⟨k, hk, rfl, i, j, va, i1, i2, j1, j2, P⟩ := hrel
    obtain ⟨V, rfl⟩ : ∃ V, V = wr := ⟨_, rfl⟩
    have k1 : 0 ≤ (i + 1) % 256 ∧ (i + 1) % 256 ≤ 255 := by omega
    have k2 : 0 ≤ (j + 1) % 256 ∧ (j + 1) % 256 ≤ 255 := by omega
    by_cases hlt : k < nh
    · have hlt' : (k : Int) < (nh : Int) := by omega
      have hk0 : (0 : Int) ≤ (k : Int) := by omega
      rcases hh.2 with hz | ⟨hb', ho', rfl, hc⟩
      · omega
      have cw := hc k (by rw [hh.1]; exact hlt)
      have hwl : hb' < w.heap.size := World.block_lt_of_cell? w _ cw
      have cell : ∀ W : World, Below w.heap.size w W → W.cell? ⟨hb', ho' + k, none⟩ = some (.int .i64 (hs[k]'(by rw [hh.1]; exact hlt))) := fun W hW => (hW.cell (p := ⟨hb', ho' + k, none⟩) hwl).trans cw
      generalize hs[k]'(by rw [hh.1]; exact hlt) = hv at cell
      clear hc cw
      have c0 := cell _ P.below
      cases q1 : (bits .and .i64 hv 1 == 1) <;> cases q2 : (bits .and .i64 hv 2 == 2)
      · have TT := talk_to P rfl rfl (quiet_ok 8 _ _) i j ⟨i1, i2⟩ ⟨j1, j2⟩ (quiet_F 8 _ _)
        go_wp2_with (fail)
        refine TT.mono ?_
        rintro e w5 ⟨rfl, hBoth⟩
        clear TT P c0 cell
        obtain ⟨i', j', va', i1', i2', j1', j2', P'⟩ := hBoth
        go_wp2_with (fail)
        refine (state_rep Bl X _ _ _ _ P'.a).mono ?_
        rintro e y1 ⟨rfl, rfl⟩
        go_wp2_with (fail)
        refine (state_rep Bm X _ _ _ _ P'.b).mono ?_
        rintro e y1 ⟨rfl, rfl⟩
        go_wp2_with (fail)
        refine (size_rep Bl X _ _ _ _ P'.a).mono ?_
        rintro e y1 ⟨rfl, rfl⟩
        simp only [opened]
        go_wp2_with (fail)
        refine (size_rep Bm X _ _ _ _ P'.b).mono ?_
        rintro e y1 ⟨rfl, rfl⟩
        simp only [opened]
        have HB : Hid (Both w _ w.heap.size X Bl Bm a b x y) := ⟨i', j', va', i1', i2', j1', j2', P'⟩
        clear P'
        go_wp2_with (fail)
        go_roundw
        case rel => exact ⟨k + 1, by omega, by go_num, HB.out⟩
        case measure => simp [intOf]; omega
      · go_wp2_with (fail)
        have D1 := do_b (ev := 1) (by simp) P ⟨j1, j2, show (-100 : Int) ≤ 4 by decide, show (4 : Int) ≤ 100 by decide⟩ (by simp) (show (stepI 9 1).2.2 = 0 by decide +kernel)
        rw [s3, u3] at D1
        go_wp2_with (fail)
        refine D1.mono ?_
        rintro e v1b ⟨rfl, z1b, q1b, P1b, o1b⟩
        obtain rfl := List.map_eq_nil_iff.1 o1b
        have D2 := do_b (ev := 0) (by simp) P1b ⟨j1, j2, show (-100 : Int) ≤ 4 by decide, show (4 : Int) ≤ 100 by decide⟩ (by simp) (show (stepI 1 0).2.2 = 0 by decide +kernel)
        rw [s4, u4] at D2
        clear D1
        go_wp2_with (fail)
        refine D2.mono ?_
        rintro e v2b ⟨rfl, z2b, q2b, P2b, o2b⟩
        clear D2
        have TT := talk_to P2b rfl o2b (right_ok ha hx hne i1 i2 k2.1 k2.2) _ _ k1 k2 (right_F ha hx)
        go_wp2_with (fail)
        refine TT.mono ?_
        rintro e w5 ⟨rfl, hBoth⟩
        clear TT
        obtain ⟨i', j', va', i1', i2', j1', j2', P'⟩ := hBoth
        go_wp2_with (fail)
        refine (state_rep Bl X _ _ _ _ P'.a).mono ?_
        rintro e y1 ⟨rfl, rfl⟩
        go_wp2_with (fail)
        refine (state_rep Bm X _ _ _ _ P'.b).mono ?_
        rintro e y1 ⟨rfl, rfl⟩
        go_wp2_with (fail)
        refine (size_rep Bl X _ _ _ _ P'.a).mono ?_
        rintro e y1 ⟨rfl, rfl⟩
        simp only [opened]
        go_wp2_with (fail)
        refine (size_rep Bm X _ _ _ _ P'.b).mono ?_
        rintro e y1 ⟨rfl, rfl⟩
        simp only [opened]
        have HB : Hid (Both w _ w.heap.size X Bl Bm a b x y) := ⟨i', j', va', i1', i2', j1', j2', P'⟩
        clear P' cell c0
        go_wp2_with (fail)
        go_roundw
        case rel => exact ⟨k + 1, by omega, by go_num, HB.out⟩
        case measure => simp [intOf]; omega
      · go_wp2_with (fail)
        have D1 := do_a (ev := 1) (by simp) P ⟨i1, i2, show (-100 : Int) ≤ 4 by decide, show (4 : Int) ≤ 100 by decide⟩ (by simp) (show (stepI 9 1).2.2 = 0 by decide +kernel)
        rw [s3, u3] at D1
        go_wp2_with (fail)
        refine D1.mono ?_
        rintro e v1a ⟨rfl, z1a, q1a, P1a, o1a⟩
        obtain rfl := List.map_eq_nil_iff.1 o1a
        have D2 := do_a (ev := 0) (by simp) P1a ⟨i1, i2, show (-100 : Int) ≤ 4 by decide, show (4 : Int) ≤ 100 by decide⟩ (by simp) (show (stepI 1 0).2.2 = 0 by decide +kernel)
        rw [s4, u4] at D2
        clear D1
        go_wp2_with (fail)
        refine D2.mono ?_
        rintro e v2a ⟨rfl, z2a, q2a, P2a, o2a⟩
        clear D2
        have c2 := cell _ P2a.below
        have TT := talk_to P2a o2a rfl (left_ok ha hx hne k1.1 k1.2 j1 j2) _ _ k1 k2 (left_F ha hx)
        go_wp2_with (fail)
        refine TT.mono ?_
        rintro e w5 ⟨rfl, hBoth⟩
        clear TT
        obtain ⟨i', j', va', i1', i2', j1', j2', P'⟩ := hBoth
        go_wp2_with (fail)
        refine (state_rep Bl X _ _ _ _ P'.a).mono ?_
        rintro e y1 ⟨rfl, rfl⟩
        go_wp2_with (fail)
        refine (state_rep Bm X _ _ _ _ P'.b).mono ?_
        rintro e y1 ⟨rfl, rfl⟩
        go_wp2_with (fail)
        refine (size_rep Bl X _ _ _ _ P'.a).mono ?_
        rintro e y1 ⟨rfl, rfl⟩
        simp only [opened]
        go_wp2_with (fail)
        refine (size_rep Bm X _ _ _ _ P'.b).mono ?_
        rintro e y1 ⟨rfl, rfl⟩
        simp only [opened]
        have HB : Hid (Both w _ w.heap.size X Bl Bm a b x y) := ⟨i', j', va', i1', i2', j1', j2', P'⟩
        clear P' cell c0 c2
        go_wp2_with (fail)
        go_roundw
        case rel => exact ⟨k + 1, by omega, by go_num, HB.out⟩
        case measure => simp [intOf]; omega
      · go_wp2_with (fail)
        have D1 := do_a (ev := 1) (by simp) P ⟨i1, i2, show (-100 : Int) ≤ 4 by decide, show (4 : Int) ≤ 100 by decide⟩ (by simp) (show (stepI 9 1).2.2 = 0 by decide +kernel)
        rw [s3, u3] at D1
        go_wp2_with (fail)
        refine D1.mono ?_
        rintro e v1a ⟨rfl, z1a, q1a, P1a, o1a⟩
        obtain rfl := List.map_eq_nil_iff.1 o1a
        have D2 := do_a (ev := 0) (by simp) P1a ⟨i1, i2, show (-100 : Int) ≤ 4 by decide, show (4 : Int) ≤ 100 by decide⟩ (by simp) (show (stepI 1 0).2.2 = 0 by decide +kernel)
        rw [s4, u4] at D2
        clear D1
        go_wp2_with (fail)
        refine D2.mono ?_
        rintro e v2a ⟨rfl, z2a, q2a, P2a, o2a⟩
        clear D2
        have c2 := cell _ P2a.below
        go_wp2_with (fail)
        have D1 := do_b (ev := 1) (by simp) P2a ⟨j1, j2, show (-100 : Int) ≤ 4 by decide, show (4 : Int) ≤ 100 by decide⟩ (by simp) (show (stepI 9 1).2.2 = 0 by decide +kernel)
        rw [s3, u3] at D1
        go_wp2_with (fail)
        refine D1.mono ?_
        rintro e v1b ⟨rfl, z1b, q1b, P1b, o1b⟩
        obtain rfl := List.map_eq_nil_iff.1 o1b
        have D2 := do_b (ev := 0) (by simp) P1b ⟨j1, j2, show (-100 : Int) ≤ 4 by decide, show (4 : Int) ≤ 100 by decide⟩ (by simp) (show (stepI 1 0).2.2 = 0 by decide +kernel)
        rw [s4, u4] at D2
        clear D1
        go_wp2_with (fail)
        refine D2.mono ?_
        rintro e v2b ⟨rfl, z2b, q2b, P2b, o2b⟩
        clear D2
        have TT := talk_to P2b o2a o2b (both_ok ha hx hne k1.1 k1.2 k2.1 k2.2) _ _ k1 k2 (both_F ha hx)
        go_wp2_with (fail)
        refine TT.mono ?_
        rintro e w5 ⟨rfl, hBoth⟩
        clear TT
        obtain ⟨i', j', va', i1', i2', j1', j2', P'⟩ := hBoth
        go_wp2_with (fail)
        refine (state_rep Bl X _ _ _ _ P'.a).mono ?_
        rintro e y1 ⟨rfl, rfl⟩
        go_wp2_with (fail)
        refine (state_rep Bm X _ _ _ _ P'.b).mono ?_
        rintro e y1 ⟨rfl, rfl⟩
        go_wp2_with (fail)
        refine (size_rep Bl X _ _ _ _ P'.a).mono ?_
        rintro e y1 ⟨rfl, rfl⟩
        simp only [opened]
        go_wp2_with (fail)
        refine (size_rep Bm X _ _ _ _ P'.b).mono ?_
        rintro e y1 ⟨rfl, rfl⟩
        simp only [opened]
        have HB : Hid (Both w _ w.heap.size X Bl Bm a b x y) := ⟨i', j', va', i1', i2', j1', j2', P'⟩
        clear P' cell c0 c2
        go_wp2_with (fail)
        go_roundw
        case rel => exact ⟨k + 1, by omega, by go_num, HB.out⟩
        case measure => simp [intOf]; omega
    · have D1 := do_a (ev := 3) (by simp) P ⟨i1, i2, show (-100 : Int) ≤ 4 by decide, show (4 : Int) ≤ 100 by decide⟩ (by simp) (show (stepI 9 3).2.2 = 0 by decide +kernel)
      rw [s5, u5] at D1
      go_wp2_with (fail)
      refine D1.mono ?_
      rintro e v1 ⟨rfl, z1, q1, P1, o1⟩
      clear D1 P
      have TT := talk_any 8 (by decide) w.heap.size X Bl Bm (closing a b x ((i + 1) % 256)) z1 ([] ++ q1) (opened x y a j) nilV [] w v1 P1 (by rw [List.nil_append, o1]; exact end_ok a b x x y a _ j k1.1 k1.2 j1 j2) (closed a b ((i + 1) % 256), [], stopping x y a j, []) (by rw [List.nil_append, o1]; exact end_F a b x x y a _ j)
      go_wp2_with (fail)
      refine TT.mono ?_
      rintro e v2 ⟨rfl, sa', va', pa', sb', vb', pb', P2, hE, hnv⟩
      clear TT P1
      simp only [Prod.mk.injEq] at hE
      obtain ⟨rfl, h1, rfl, h2⟩ := hE
      obtain rfl := List.map_eq_nil_iff.1 h1
      obtain rfl := List.map_eq_nil_iff.1 h2
      have HP : Hid (Pair w v2 w.heap.size X Bl Bm (closed a b ((i + 1) % 256)) va' [] (tkm x y a j 0) vb' []) := P2
      clear P2
      go_wp2_with (fail)
      go_loopw [16] (fun ix wr => ∃ (t : Nat) (vt : Value), t ≤ 20 ∧ ix = .int .i64 t ∧ Pair w wr w.heap.size X Bl Bm (closed a b ((i + 1) % 256)) va' [] (tkm x y a j t) vt []) (fun ix _ => 20 - (intOf ix).toNat)
      case atStart => exact ⟨0, vb', Nat.zero_le _, rfl, HP.out⟩
      case round =>
        clear HP
        obtain ⟨t, vt, ht, rfl, Pt⟩ := hrel
        obtain ⟨V5, rfl⟩ : ∃ V5, V5 = wr := ⟨_, rfl⟩
        by_cases htl : t < 20
        · have htl' : (t : Int) < (20 : Int) := by omega
          obtain ⟨b1, b2, b3, b4⟩ := tkm_b x y a j t
          have TK := tick_rep Bm X (tkm x y a j t) vt [] V5 Pt.tab (by have := Pt.bb; omega) (fun e => by have := Pt.bn 0 e; omega) Pt.b ⟨by rw [b1]; exact j1, by rw [b1]; exact j2, by rw [b2]; decide, by rw [b2]; decide⟩ (by simp) b3 b4
          rw [tkm_S, tkm_O] at TK
          go_wp2_with (fail)
          refine TK.mono ?_
          rintro e V6 ⟨rfl, hW⟩
          obtain ⟨vt', qs, P6, o6⟩ := pair_b Pt hW
          obtain rfl := List.map_eq_nil_iff.1 o6
          have HP6 : Hid (Pair w V6 w.heap.size X Bl Bm (closed a b ((i + 1) % 256)) va' [] (tkm x y a j (t + 1)) vt' []) := P6
          clear TK Pt hW P6 b1 b2 b3 b4
          go_wp2_with (fail)
          go_roundw
          case rel => exact ⟨t + 1, vt', by omega, by go_num, HP6.out⟩
          case measure => simp [intOf]; omega
        · have ht20 : t = 20 := by omega
          subst ht20
          have S1 := state_rep Bl X _ _ _ _ Pt.a
          have S2 := state_rep Bm X _ _ _ _ Pt.b
          have e1 : (closed a b ((i + 1) % 256)).st = 2 := rfl
          have e2 : (tkm x y a j 20).st = 3 := rfl
          rw [e1] at S1
          rw [e2] at S2
          have hbel := Pt.below
          clear Pt e1 e2
          go_wp2_with (fail)
          refine S1.mono ?_
          rintro e y1 ⟨rfl, rfl⟩
          go_wp2_with (fail)
          refine S2.mono ?_
          rintro e y1 ⟨rfl, rfl⟩
          go_wp2_with (fail)
          go_ret
          exact ⟨rfl, hbel⟩
set_option maxRecDepth 100000 in
set_option maxHeartbeats 2000000 in
theorem end_out (S M : Int) (w : World) (h : S < 40 ∨ 255 < S ∨ M < 1 ∨ 255 < M) :
    Calls Tryd.prog 5 #[.int .i64 S, .int .i64 M] w fun e w' => e = .returned (.tuple #[.pointer none, .bool false]) ∧ Below w.heap.size w w' := by
  have hN := lnew_out S M w h
  clear h
  go_enter Tryd.func5, Tryd.ntmps5
  go_wp2_with (fail)
  refine hN.mono ?_
  rintro e w1 ⟨rfl, hb⟩
  go_wp2_with (fail)
  go_ret2
  exact ⟨rfl, hb⟩
set_option maxRecDepth 100000 in
set_option maxHeartbeats 4000000 in
theorem walk_out (a b x y : Int) (t1 t2 : Bool) (ha' : Option Addr) (nh ch : Nat) (w : World) (hT : TabOk w) (hnh : nh ≤ maxLen)
    (hE1 : ∀ V : World, TabOk V → Calls Tryd.prog 5 #[.int .i64 a, .int .i64 b] V fun e w' => ∃ p1, e = .returned (.tuple #[.pointer p1, .bool t1]) ∧ Below V.heap.size V w')
    (hE2 : ∀ V : World, TabOk V → Calls Tryd.prog 5 #[.int .i64 x, .int .i64 y] V fun e w' => ∃ p2, e = .returned (.tuple #[.pointer p2, .bool t2]) ∧ Below V.heap.size V w')
    (hq : t1 = false ∨ (t1 = true ∧ t2 = false) ∨ (t1 = true ∧ t2 = true ∧ (b == y) = true) ∨ (t1 = true ∧ t2 = true ∧ (b == y) = false ∧ (5 : Int) < (nh : Int))) :
    Calls Tryd.prog 3 #[.int .i64 a, .int .i64 b, .int .i64 x, .int .i64 y, .slice ha' nh ch] w fun e w' => e = .returned (.bool true) ∧ Below w.heap.size w w' := by
  have hnh' : nh ≤ 9223372036854775807 := by unfold maxLen at hnh; omega
  rcases hq with rfl | ⟨rfl, rfl⟩ | ⟨rfl, rfl, hby⟩ | ⟨rfl, rfl, hby, h5⟩
  all_goals
    go_enter Tryd.func3, Tryd.ntmps3
    go_wp2_with (fail)
    refine (end_rep (fun _ => False) 90 7 w hT ⟨by decide, by decide, by decide, by decide⟩ (fun k hk => hk.elim)).mono ?_
    rintro e w1 ⟨B0, v0, p0, rfl, R0, _, hB0, _, hb1⟩
    have hT1 := hT.below hb1
    go_wp2_with (fail)
    refine (state_rep B0 _ _ _ _ _ R0).mono ?_
    rintro e y1 ⟨rfl, rfl⟩
    simp only [asking]
    clear R0
    go_wp2_with (fail)
    refine (hE1 w1 hT1).mono ?_
    rintro e w2 ⟨p1, rfl, hb2⟩
    have hT2 := hT1.below hb2
    go_wp2_with (fail)
    refine (hE2 w2 hT2).mono ?_
    rintro e w3 ⟨p2, rfl, hb3⟩
    have hbe := below_chain (below_chain hb1 hb2) hb3
    go_wp2_with (fail)
    go_ret
    exact ⟨rfl, hbe⟩
theorem end_in (S M : Int) (hs : Nums S M) (V : World) (hT : TabOk V) : Calls Tryd.prog 5 #[.int .i64 S, .int .i64 M] V fun e w' => ∃ p1, e = .returned (.tuple #[.pointer p1, .bool true]) ∧ Below V.heap.size V w' := by
  refine (end_rep (fun _ => False) S M V hT hs (fun k hk => hk.elim)).mono ?_
  rintro e w' ⟨B, v, ps, rfl, _, _, _, _, hb⟩
  exact ⟨_, rfl, hb⟩
theorem end_not (S M : Int) (h : S < 40 ∨ 255 < S ∨ M < 1 ∨ 255 < M) (V : World) (_ : TabOk V) : Calls Tryd.prog 5 #[.int .i64 S, .int .i64 M] V fun e w' => ∃ p1, e = .returned (.tuple #[.pointer p1, .bool false]) ∧ Below V.heap.size V w' := by
  refine (end_out S M V h).mono ?_
  rintro e w' ⟨rfl, hb⟩
  exact ⟨_, rfl, hb⟩
theorem walk (a b x y : Int) (ha' : Option Addr) (nh ch : Nat) (hs : List Int) (w : World) (hT : TabOk w) (hh : IntsR w ha' nh hs) (hnh : nh ≤ maxLen) :
    Calls Tryd.prog 3 #[.int .i64 a, .int .i64 b, .int .i64 x, .int .i64 y, .slice ha' nh ch] w fun e w' => e = .returned (.bool true) ∧ Below w.heap.size w w' := by
  by_cases h1 : a < 40 ∨ 255 < a ∨ b < 1 ∨ 255 < b
  · by_cases h2 : x < 40 ∨ 255 < x ∨ y < 1 ∨ 255 < y
    · exact walk_out a b x y false false ha' nh ch w hT hnh (end_not a b h1) (end_not x y h2) (.inl rfl)
    · exact walk_out a b x y false true ha' nh ch w hT hnh (end_not a b h1) (end_in x y ⟨by omega, by omega, by omega, by omega⟩) (.inl rfl)
  · have na : Nums a b := ⟨by omega, by omega, by omega, by omega⟩
    by_cases h2 : x < 40 ∨ 255 < x ∨ y < 1 ∨ 255 < y
    · exact walk_out a b x y true false ha' nh ch w hT hnh (end_in a b na) (end_not x y h2) (.inr (.inl ⟨rfl, rfl⟩))
    · have nx : Nums x y := ⟨by omega, by omega, by omega, by omega⟩
      by_cases hby : b = y
      · exact walk_out a b x y true true ha' nh ch w hT hnh (end_in a b na) (end_in x y nx) (.inr (.inr (.inl ⟨rfl, rfl, by simpa using hby⟩)))
      · by_cases h5 : nh ≤ 5
        · exact walk_in a b x y ha' nh ch hs w hT hh h5 na nx hby
        · exact walk_out a b x y true true ha' nh ch w hT hnh (end_in a b na) (end_in x y nx) (.inr (.inr (.inr ⟨rfl, rfl, by simpa using hby, by omega⟩)))
end topOpened
end Go.Proofs.YtakckdeadchflabDoor
