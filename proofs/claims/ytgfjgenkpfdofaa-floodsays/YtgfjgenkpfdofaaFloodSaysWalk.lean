/-
  'FloodSays' returns true at all ports and acts, and changes nothing that was there.
-/
import Derived.Test.YtgfjgenkpfdofaaFloodJoint
import Derived.Deep.DeepCutAuto
import Derived.Deep.CutBlock
import Derived.BigQuiet
namespace Go.Proofs.Ytgfjgenkpfdofaa
open Go.RowKit St
namespace floodSays
theorem mkRows1 (W : World) : (Instr.makeSlice 32 (.int .i64 1) (.int .i64 1)).run Try.prog W = .ok (.slice (some ⟨W.heap.size, 0, none⟩) 1 1) (W.alloc (.cells (oC 1 (fun _ _ => false)) 72)) := by kernel_rfl
theorem mkRows2 (W : World) : (Instr.makeSlice 32 (.int .i64 2) (.int .i64 2)).run Try.prog W = .ok (.slice (some ⟨W.heap.size, 0, none⟩) 2 2) (W.alloc (.cells (oC 2 (fun _ _ => false)) 72)) := by kernel_rfl
theorem mkRows3 (W : World) : (Instr.makeSlice 32 (.int .i64 3) (.int .i64 3)).run Try.prog W = .ok (.slice (some ⟨W.heap.size, 0, none⟩) 3 3) (W.alloc (.cells (oC 3 (fun _ _ => false)) 72)) := by kernel_rfl
theorem mkRows (p : Nat) (hp : 1 ≤ p ∧ p ≤ 3) (W : World) : (Instr.makeSlice 32 (.int .i64 (p : Int)) (.int .i64 (p : Int))).run Try.prog W = .ok (.slice (some ⟨W.heap.size, 0, none⟩) p p) (W.alloc (.cells (oC p (fun _ _ => false)) 72)) := by
  rcases (show p = 1 ∨ p = 2 ∨ p = 3 by omega) with rfl | rfl | rfl
  · exact mkRows1 W
  · exact mkRows2 W
  · exact mkRows3 W
theorem kC_owe' (o : Value) : (kC (fun _ => SV.zero) (.slice none 0 0)).setIfInBounds 21 o = kC (fun _ => SV.zero) o := by
  apply Array.ext_getElem?
  intro i
  rw [Array.getElem?_setIfInBounds, kC_size]
  by_cases hi : i < 22
  · rw [kC_at _ _ i hi, kC_at _ _ i hi]
    unfold kAt
    by_cases h21 : i = 21
    · simp [h21]
    · rw [if_neg (show ¬ 21 = i by omega), if_neg h21, if_neg h21]
  · have hs : ∀ o : Value, (kC (fun _ => SV.zero) o)[i]? = none := fun o => Array.getElem?_eq_none (by rw [kC_size]; omega)
    rw [hs, hs, if_neg (show ¬ 21 = i by omega)]
theorem zeroR (w : World) : (zeroValue 38).run Try.prog w = .ok (.agg (kC (fun _ => SV.zero) (.slice none 0 0))) w := by kernel_rfl
set_option maxRecDepth 100000 in
set_option maxHeartbeats 4000000 in
theorem walk (ports : Int) (a : Option Addr) (n cap : Nat) (V : Nat → AV) (E : Nat → List Opt) (w : World) (h : ActsR w a n V E) :
    Calls Try.prog 3 #[.int .i64 ports, .slice a n cap] w fun e w' => e = .returned (.bool true) ∧ Below w.heap.size w w' := by
  have h0 := bases_any w
  go_enter Try.func3, Try.ntmps3
  go_wp2_with (fail)
  refine h0.mono ?_
  rintro e w1 ⟨rfl, b1⟩
  clear h0
  have hl := lightActs_any a n cap V E 60 w1 (h.below b1) (by decide)
  go_wp2_with (fail)
  refine hl.mono ?_
  rintro e w2 ⟨⟨b, rfl, hb⟩, b2⟩
  have hb2 := below_chain b1 b2
  clear hl b1 b2
  cases b
  · clear hb
    go_wp2_with (fail)
    go_ret
    exact ⟨rfl, hb2⟩
  obtain ⟨hn60, hn9⟩ := hb rfl
  clear hb
  by_cases hlow : ports < 1
  · have hnew := new_bad ports w2 (.inl hlow)
    have hs := same_ok 1 w2
    go_wp2_with (fail)
    refine hnew.mono ?_
    rintro e w3 ⟨rfl, rfl⟩
    clear hnew
    go_wp2_with (fail)
    refine hs.mono ?_
    rintro e w3 ⟨rfl, rfl⟩
    clear hs
    go_wp2_with (fail)
    go_ret
    exact ⟨rfl, hb2⟩
  by_cases hhi : 3 < ports
  · have hnew := new_bad ports w2 (.inr hhi)
    have hs := same_ok 1 w2
    go_wp2_with (fail)
    refine hnew.mono ?_
    rintro e w3 ⟨rfl, rfl⟩
    clear hnew
    go_wp2_with (fail)
    refine hs.mono ?_
    rintro e w3 ⟨rfl, rfl⟩
    clear hs
    go_wp2_with (fail)
    go_ret
    exact ⟨rfl, hb2⟩
  obtain ⟨p, rfl⟩ : ∃ p : Nat, ports = (p : Int) := ⟨ports.toNat, by omega⟩
  have hp : 1 ≤ p ∧ p ≤ 3 := by omega
  have hnew := new_base p w2 hp
  go_wp2_with (fail)
  refine hnew.mono ?_
  rintro e w3 ⟨rfl, m0, hm, hB, hbel, g1, g2, g3⟩
  have hb3 := below_chain hb2 hbel
  have hmk := mkRows p hp
  have hzr := zeroR
  have hks : ¬ (kC (fun _ => SV.zero) (.slice none 0 0)).size < 22 := by rw [kC_size]; decide
  go_wp2_with (fail)
  obtain ⟨W4, hW4⟩ : ∃ W4, (w3.alloc (.cells (oC p (fun _ _ => false)) 72)).alloc (.cells ((kC (fun _ => SV.zero) (.slice none 0 0)).setIfInBounds 21 (.slice (some ⟨w3.heap.size, 0, none⟩) p p)) 38) = W4 := ⟨_, rfl⟩
  have hT : ∃ m : FM, Two w W4 (w2.heap.size + 1) m (w3.heap.size + 1) w3.heap.size p (fun _ => none) (fun _ _ => none) (fun _ => SV.zero) (fun _ _ => false) ∧ Lie w (w2.heap.size + 1) m (w3.heap.size + 1) w3.heap.size := by
    have b3 : Below w3.heap.size w3 W4 := by rw [← hW4]; exact below_chain (below_alloc _ _) (below_alloc _ _)
    have hs : W4.heap.size = w3.heap.size + 2 := by rw [← hW4]; simp
    have hlB : w2.heap.size + 1 < w3.heap.size := by obtain ⟨_, _, hF, _⟩ := hB.ex; exact hF.lt
    have hlg : m0.g < w3.heap.size := by
      obtain ⟨_, _, hF, _⟩ := hB.ex
      exact hF.row.lt m0.g rfl
    refine ⟨{ m0 with no := fun j => j = w3.heap.size + 1 ∨ j = w3.heap.size }, ⟨((hB.below b3).avoid _ (fun j hj => by omega)).mono (by omega), ?_, ?_, ?_, hm, below_chain hb3 b3, fun _ _ _ _ _ => rfl, rfl⟩, ⟨⟨.inl rfl, .inr rfl⟩, ⟨by omega, by omega, by show m0.g ≠ _; omega, by show m0.g ≠ _; omega⟩, ⟨Nat.le_trans hb2.size g1, fun x hx => Nat.le_trans hb2.size (g3 x hx), by have := hb3.size; omega, hb3.size⟩⟩⟩
    · refine ⟨?_, ?_, by omega⟩
      · rw [← kC_owe', ← hW4]
        have : w3.heap.size + 1 = (w3.alloc (.cells (oC p (fun _ _ => false)) 72)).heap.size := by simp
        rw [this]
        exact heap_alloc_new _ _
      · rw [← hW4]
        exact Blk.below (Blk.new w3 _ _) (below_alloc _ _)
    · exact ⟨fun n _ _ => rfl, fun _ _ _ => rfl⟩
    · intro _ _ _ _ _
      rfl
  obtain ⟨m, hT, hLie⟩ := hT
  obtain ⟨B, hBe⟩ : ∃ B, w2.heap.size + 1 = B := ⟨_, rfl⟩
  obtain ⟨M, hMe⟩ : ∃ M, w3.heap.size + 1 = M := ⟨_, rfl⟩
  obtain ⟨g, hge⟩ : ∃ g, w3.heap.size = g := ⟨_, rfl⟩
  rw [hW4]
  rw [hBe, hMe] at hT hLie ⊢
  rw [hge] at hT hLie
  clear hW4 hBe hMe hge hmk hzr hks hB hm hbel g1 g2 g3 hb2 hb3 hnew
  have HL : Hid _ := hLie
  have HT : Hid _ := hT
  clear hLie hT
  have HH : Hid _ := h
  have H9 : Hid _ := hn9
  clear h hn9
  go_loopw [9] (fun i wr => ∃ (k : Nat) (K : Int → Option PS) (O : Nat → Int → Option PS) (KS : Nat → SV) (OB : Nat → Nat → Bool), k ≤ n ∧ i = .int .i64 k ∧ Two w wr B m M g p K O KS OB) (fun i _ => n - (intOf i).toNat)
  case atStart => exact ⟨0, _, _, _, _, Nat.zero_le _, rfl, HT.out⟩
  case round =>
    clear HT
    obtain ⟨k, K, O, KS, OB, hk, rfl, hTw⟩ := hrel
    by_cases hlt : k < n
    · have hlt' : (k : Int) < (n : Int) := by omega
      obtain ⟨hxo, hxz, hxn, hpn⟩ := HH.out.opt k hlt
      have hrow := HH.out.row
      rcases hrow with h1 | ⟨ab, off, rfl, hcs⟩
      · omega
      have hat := (hcs k hlt).below hTw.bel
      obtain ⟨v, hv⟩ : ∃ v, V k = v := ⟨_, rfl⟩
      obtain ⟨es, he⟩ : ∃ es, E k = es := ⟨_, rfl⟩
      rw [hv] at hat hxo hxz hxn hpn
      rw [he] at hxo
      clear hv he hcs
      obtain ⟨vk, va, vb, vc, vd, vs, vpc, vpi, vpo, vpn, vpcap, vx⟩ := v
      obtain ⟨xo, xq, xa, xn, xc⟩ := vx
      simp only at hxo hxz hxn hpn
      obtain ⟨c0, c1, c2, c3, c4, c5, c6, c7, c8, c9, c10, c11⟩ := hat
      simp only at c0 c1 c2 c3 c4 c5 c6 c7 c8 c9 c10 c11
      have HTw : Hid _ := hTw
      clear hTw
      go_upto_block 2 with fail
      obtain ⟨W5, hW5⟩ : ∃ W5, wr.alloc (.cells #[.string vk, .int .i64 va, .int .i64 vb, .int .i64 vc, .int .i64 vd, .string vs, .int .i64 vpc, .int .i64 vpi, .slice vpo vpn vpcap, .int .i64 xo, .int .i64 xq, .slice xa xn xc] 43) = W5 := ⟨_, rfl⟩
      have hX5 : Blk W5 wr.heap.size #[.string vk, .int .i64 va, .int .i64 vb, .int .i64 vc, .int .i64 vd, .string vs, .int .i64 vpc, .int .i64 vpi, .slice vpo vpn vpcap, .int .i64 xo, .int .i64 xq, .slice xa xn xc] 43 := by rw [← hW5]; exact Blk.new _ _ _
      have k5 : Below wr.heap.size wr W5 := by rw [← hW5]; exact below_alloc _ _
      rw [hW5]
      have hMl := HTw.out.r.k.lt
      have hgl := HTw.out.r.o.lt
      obtain ⟨X, hXe⟩ : ∃ X, wr.heap.size = X := ⟨_, rfl⟩
      have HK5 : Hid _ := k5
      rw [hXe] at hX5 hMl hgl
      rw [hXe]
      have xM : X ≠ M := by omega
      have xg : X ≠ g := by omega
      clear hW5 c0 c1 c2 c3 c4 c5 c6 c7 c8 c9 c10 c11
      clear hXe k5 hMl hgl
      have HA : Hid (∀ W : World, Blk W X #[.string vk, .int .i64 va, .int .i64 vb, .int .i64 vc, .int .i64 vd, .string vs, .int .i64 vpc, .int .i64 vpi, .slice vpo vpn vpcap, .int .i64 xo, .int .i64 xq, .slice xa xn xc] 43 → W.cell? ⟨X, 0, none⟩ = some (.string vk) ∧ W.cell? ⟨X, 1, none⟩ = some (.int .i64 va) ∧ W.cell? ⟨X, 9, none⟩ = some (.int .i64 xo) ∧ W.cell? ⟨X, 10, none⟩ = some (.int .i64 xq) ∧ W.cell? ⟨X, 11, none⟩ = some (.slice xa xn xc)) := fun W hW => ⟨hW.cell 0, hW.cell 1, hW.cell 9, hW.cell 10, hW.cell 11⟩
      go_cut [11] (fun v wx => v = .bool true ∧ ∃ K7 O7 KS7 OB7, Two w wx B m M g p K7 O7 KS7 OB7)
      case first =>
        obtain ⟨c0, c1, c9, c10, c11⟩ := HA.out W5 hX5
        have xl := hX5.lt
        have KD : Below W5.heap.size W5 W5.drew := below_drewN (Below.refl _ _) 1
        have F0 := HA.out W5.drew hX5
        cases hk1 : (vk.toList == [115, 101, 116])
        case true =>
          have hc := set_two HTw.out HL.out hp.2 xo xq xa xn xc es hxo hxz hxn (below_chain HK5.out KD)
          go_upto_region 19 with fail
          go_region_held3 (fun x => x.cell? ⟨X, 0, none⟩ = some (.string vk) ∧ x.cell? ⟨X, 1, none⟩ = some (.int .i64 va) ∧ x.cell? ⟨X, 9, none⟩ = some (.int .i64 xo) ∧ x.cell? ⟨X, 10, none⟩ = some (.int .i64 xq) ∧ x.cell? ⟨X, 11, none⟩ = some (.slice xa xn xc))
            (first | assumption | exact F0 | exact F1 | exact F2)
            (first
              | (go_at_call 8; refine hc.mono ?_; rintro e w6 ⟨rfl, b6, st6, hr6⟩; have X6 : Blk w6 X _ _ := (st6 _ _ _ _ hX5).trans hX5; have F1 := HA.out w6 X6)
              | (go_at_call 9; refine (hr6 _ (Below.refl _ _)).mono ?_; rintro e w7 ⟨rfl, st7, K7, O7, KS7, OB7, hT7⟩; have F2 := HA.out w7 ((st7 _ _ _ _ X6 xM xg).trans X6))
              | (go_at_call 7; refine (same_ok _ _).mono ?_; rintro e w77 ⟨rfl, rfl⟩))
          all_goals
            have HT7 : Hid _ := hT7
            clear F0 F1 F2 hT7 hc hr6 b6 st6 st7 X6
            go_wp2_with (fail)
            go_meet
            exact ⟨rfl, _, _, _, _, HT7.out⟩

        case false =>
          cases hk2 : (vk.toList == [116, 97, 107, 101])
          case true =>
            have hc := take_two HTw.out HL.out hp.2 va xo xq xa xn xc es hxo hxz hxn HK5.out
            go_wp2_with (fail)
            refine hc.mono ?_
            rintro e w6 ⟨x6, z6, rfl, b6, st6, hr6⟩
            have X6 : Blk w6 X _ _ := (st6 _ _ _ _ hX5).trans hX5
            obtain ⟨d0, d1, d9, d10, d11⟩ := HA.out w6 X6
            have xl6 := X6.lt
            have hr := hr6 w6 (Below.refl _ _)
            clear hc hr6 st6 b6 c0 c1 c9 c10 c11 F0 KD
            go_wp2_with (fail)
            refine hr.mono ?_
            rintro e w7 ⟨rfl, st7, K7, O7, KS7, OB7, hT7⟩
            have HT7 : Hid _ := hT7
            have hsm := same_ok z6 w7
            clear hr st7 hT7 d0 d1 d9 d10 d11
            go_wp2_with (fail)
            refine hsm.mono ?_
            rintro e w8 ⟨rfl, rfl⟩
            clear hsm
            go_wp2_with (fail)
            go_meet
            exact ⟨rfl, _, _, _, _, HT7.out⟩
          case false =>
            cases hk3 : (vk.toList == [104, 101, 97, 114, 100])
            case true =>
              have hc := heard_two HTw.out HL.out va xo xq xa xn xc es hxo hxn (below_chain HK5.out KD)
              go_upto_region 25 with fail
              go_region_held3 (fun x => x.cell? ⟨X, 0, none⟩ = some (.string vk) ∧ x.cell? ⟨X, 1, none⟩ = some (.int .i64 va) ∧ x.cell? ⟨X, 9, none⟩ = some (.int .i64 xo) ∧ x.cell? ⟨X, 10, none⟩ = some (.int .i64 xq) ∧ x.cell? ⟨X, 11, none⟩ = some (.slice xa xn xc))
                (first | assumption | exact F0 | exact F1 | exact F2)
                (first
                  | (go_at_call 12; refine hc.mono ?_; rintro e w6 ⟨z6, rfl, b6, st6, hr6⟩; have X6 : Blk w6 X _ _ := (st6 _ _ _ _ hX5).trans hX5; have F1 := HA.out w6 X6)
                  | (go_at_call 13; refine (hr6 _ (Below.refl _ _)).mono ?_; rintro e w7 ⟨rfl, st7, K7, O7, KS7, OB7, hT7⟩; have F2 := HA.out w7 ((st7 _ _ _ _ X6 xM xg).trans X6))
                  | (go_at_call 7; refine (same_ok _ _).mono ?_; rintro e w77 ⟨rfl, rfl⟩))
              all_goals
                have HT7 : Hid _ := hT7
                clear F0 F1 F2 hT7 hc hr6 b6 st6 st7 X6
                go_wp2_with (fail)
                go_meet
                exact ⟨rfl, _, _, _, _, HT7.out⟩

            case false =>
              cases hk4 : (vk.toList == [109, 101, 101, 116])
              case true =>
                have hc := meet_two HTw.out HL.out va (below_chain HK5.out KD)
                go_upto_region 27 with fail
                go_region_held3 (fun x => x.cell? ⟨X, 0, none⟩ = some (.string vk) ∧ x.cell? ⟨X, 1, none⟩ = some (.int .i64 va) ∧ x.cell? ⟨X, 9, none⟩ = some (.int .i64 xo) ∧ x.cell? ⟨X, 10, none⟩ = some (.int .i64 xq) ∧ x.cell? ⟨X, 11, none⟩ = some (.slice xa xn xc))
                  (first | assumption | exact F0 | exact F1 | exact F2)
                  (first
                    | (go_at_call 14; refine hc.mono ?_; rintro e w6 ⟨z6, rfl, b6, st6, hr6⟩; have X6 : Blk w6 X _ _ := (st6 _ _ _ _ hX5).trans hX5; have F1 := HA.out w6 X6)
                    | (go_at_call 15; refine (hr6 _ (Below.refl _ _)).mono ?_; rintro e w7 ⟨rfl, st7, K7, O7, KS7, OB7, hT7⟩; have F2 := HA.out w7 ((st7 _ _ _ _ X6 xM xg).trans X6))
                    | (go_at_call 7; refine (same_ok _ _).mono ?_; rintro e w77 ⟨rfl, rfl⟩))
                all_goals
                  have HT7 : Hid _ := hT7
                  clear F0 F1 F2 hT7 hc hr6 b6 st6 st7 X6
                  go_wp2_with (fail)
                  go_meet
                  exact ⟨rfl, _, _, _, _, HT7.out⟩

              case false =>
                have hc := part_two HTw.out HL.out va HK5.out
                go_wp2_with (fail)
                refine hc.mono ?_
                rintro e w6 ⟨rfl, b6, st6, hr6⟩
                have X6 : Blk w6 X _ _ := (st6 _ _ _ _ hX5).trans hX5
                obtain ⟨d0, d1, d9, d10, d11⟩ := HA.out w6 X6
                have xl6 := X6.lt
                have hr := hr6 w6 (Below.refl _ _)
                clear hc hr6 st6 b6 c0 c1 c9 c10 c11 F0 KD
                go_wp2_with (fail)
                refine hr.mono ?_
                rintro e w7 ⟨rfl, st7, K7, O7, KS7, OB7, hT7⟩
                have HT7 : Hid _ := hT7
                clear hr st7 hT7 d0 d1 d9 d10 d11
                go_wp2_with (fail)
                go_meet
                exact ⟨rfl, _, _, _, _, HT7.out⟩
      case rest =>
        obtain ⟨rfl, K7, O7, KS7, OB7, hT7⟩ := hcut
        have HT7 : Hid _ := hT7
        clear hT7 HTw HA hX5 xM xg HK5
        go_upto_region 28 with fail
        have hst := states_two HT7.out
        go_wp2_with (fail)
        refine hst.mono ?_
        rintro e w8 ⟨sa, sn, sc, rfl, b8, hst2⟩
        clear hst
        go_wp2_with (fail)
        refine hst2.mono ?_
        rintro e w9 ⟨sa2, sn2, sc2, rfl, b9, hst3⟩
        clear hst2
        go_wp2_with (fail)
        refine hst3.mono ?_
        rintro e w10 ⟨rfl, b10⟩
        have HT10 : Hid _ := HT7.out.below (below_chain b8 (below_chain b9 b10))
        clear hst3 b8 b9 b10 HT7
        go_wp2_with (fail)
        go_loopw [16] (fun i wr => ∃ q : Nat, q ≤ p + 2 ∧ i = .int .i64 ((q : Int) - 1) ∧ Two w wr B m M g p K7 O7 KS7 OB7) (fun i _ => p + 2 - (intOf i + 1).toNat)
        case atStart => exact ⟨0, by omega, rfl, HT10.out⟩
        case round =>
          clear HT10
          obtain ⟨q, hq, rfl, hTq⟩ := hrel
          have HTq : Hid _ := hTq
          clear hTq
          by_cases hql : q < p + 2
          · have hql' : (q : Int) - 1 ≤ (p : Int) := by omega
            have how := owed_two HTq.out ((q : Int) - 1)
            go_wp2_with (fail)
            refine how.mono ?_
            rintro e w11 ⟨oa, on, oc, rfl, b11, how2⟩
            clear how
            go_wp2_with (fail)
            refine how2.mono ?_
            rintro e w12 ⟨oa2, on2, oc2, rfl, b12, how3⟩
            clear how2
            go_wp2_with (fail)
            refine how3.mono ?_
            rintro e w13 ⟨rfl, b13⟩
            have HT13 : Hid _ := HTq.out.below (below_chain b11 (below_chain b12 b13))
            clear how3 b11 b12 b13 HTq
            go_wp2_with (fail)
            go_roundw
            case rel => exact ⟨q + 1, by omega, by go_num, HT13.out⟩
            case measure => simp [intOf]; omega
          · have hqg : ¬ (q : Int) - 1 ≤ (p : Int) := by omega
            obtain ⟨W9, rfl⟩ : ∃ W9, W9 = wr := ⟨_, rfl⟩
            go_wp2_with (fail)
            go_loopw [17] (fun i wr => ∃ r : Nat, r ≤ 8 ∧ i = .int .i64 (r : Int) ∧ Two w wr B m M g p K7 O7 KS7 OB7) (fun i _ => 8 - (intOf i).toNat)
            case atStart => exact ⟨0, by omega, rfl, HTq.out⟩
            case round =>
              clear HTq
              obtain ⟨r, hr, rfl, hTr⟩ := hrel
              have HTr : Hid _ := hTr
              clear hTr
              by_cases hrl : r < 8
              · have hrl' : (r : Int) ≤ 7 := by omega
                have hget := get_base B m 6 K7 O7 (r : Int) wr HTr.out.b (by unfold inR; omega)
                by_cases hr6 : r ≤ 6
                · have hr6' : (r : Int) ≤ 6 := by omega
                  have hr7' : (r : Int) < 7 := by omega
                  obtain ⟨z1, z2, z3, z4, z5⟩ := HTr.out.at_ r hr6
                  have HZ3 : Hid (∀ W, Below wr.heap.size wr W → OptR W (KS7 r).a (KS7 r).n (esOf K7 r)) := fun W hW => z3.below (below_chain HTr.out.bel hW)
                  have HK : Hid (∀ W, Below wr.heap.size wr W → W.cell? ⟨M, r * 3, none⟩ = some (.int .i64 (KS7 r).own) ∧ W.cell? ⟨M, r * 3 + 1, none⟩ = some (.int .i64 (KS7 r).seq) ∧ W.cell? ⟨M, r * 3 + 2, none⟩ = some (.slice (KS7 r).a (KS7 r).n (KS7 r).cap)) := fun W hW => by
                    have hR := HTr.out.r.below hW
                    obtain ⟨q0, q1, q2⟩ := kC_get KS7 (.slice (some ⟨g, 0, none⟩) p p) r (by omega)
                    exact ⟨(hR.k.cell _).trans q0, (hR.k.cell _).trans q1, (hR.k.cell _).trans q2⟩
                  have HML : Hid (∀ W, Below wr.heap.size wr W → M < W.heap.size) := fun W hW => (HTr.out.r.below hW).k.lt
                  rw [z1, z2] at HK
                  rw [z2] at z5
                  generalize (KS7 r).a = ka at HZ3 HK
                  generalize (KS7 r).n = kn at HZ3 HK z4
                  generalize (KS7 r).cap = kc at HK
                  have hso := hget
                  clear hget z1 z2 z3
                  generalize (K7 r).isSome = ks at hso z5
                  generalize ownOf K7 r = ko at hso HK
                  generalize seqAt K7 r = kq at hso HK z5
                  generalize esOf K7 r = ke at hso HZ3
                  have z5' : (decide (0 < kq)) = ks := z5
                  clear z5
                  go_wp2_with (fail)
                  refine hso.mono ?_
                  rintro e w14 ⟨ga, gc, rfl, gop, gz, g6, b14⟩
                  clear hso
                  obtain ⟨y0, y1, y2⟩ := HK.out _ (below_chain b14 (below_chain (below_alloc w14 (.cells #[.int .i64 ko, .int .i64 kq, .slice ga ke.length gc] 35)) (below_alloc _ (.cells #[.int .i64 0, .int .i64 0, .slice none 0 0] 35))))
                  have yl := HML.out _ b14
                  have hsm := fun W (hW : Below w14.heap.size w14 W) => sameState_any ko kq ko kq ga ka ke.length kn gc kc ke ke W (gop.below hW) (HZ3.out W (below_chain b14 hW)) (by omega) (by omega)
                  have hdt : decide (ko = ko ∧ kq = kq ∧ ke = ke) = true := by simp
                  rw [hdt] at hsm
                  have HSM : Hid _ := hsm
                  have HB14 : Hid _ := b14
                  clear hsm hdt gop gz b14 HK HML HZ3
                  subst z5'
                  go_wp2_with (fail)
                  refine (HSM.out _ ?_).mono ?_
                  · exact below_chain (below_alloc _ _) (below_alloc _ _)
                  rintro e w15 ⟨rfl, b15⟩
                  have HT15 : Hid _ := HTr.out.below (below_chain HB14.out (below_chain (below_chain (below_alloc _ _) (below_alloc _ _)) b15))
                  clear HSM b15 HTr
                  go_wp2_with (fail)
                  go_roundw
                  case rel => exact ⟨r + 1, by omega, by go_num, HT15.out⟩
                  case measure => simp [intOf]; omega
                · obtain rfl : r = 7 := by omega
                  have e7 : K7 ((7 : Nat) : Int) = none := HTr.out.k.out 7 (by unfold inR; omega) (.inr (by omega))
                  simp only [ownOf, seqAt, esOf, e7] at hget
                  clear e7 hrl' hr6
                  go_wp2_with (fail)
                  refine hget.mono ?_
                  rintro e w14 ⟨ga, gc, rfl, gop, gz, g6, b14⟩
                  have HB14 : Hid _ := b14
                  have HG : Hid _ := gop
                  clear hget b14 gop gz
                  go_wp2_with (fail)
                  refine (sameState_any 0 0 0 0 ga none 0 0 gc 0 [] [] _ ⟨rfl, .inl rfl⟩ ⟨rfl, .inl rfl⟩ (by decide) (by decide)).mono ?_
                  rintro e w15 ⟨rfl, b15⟩
                  have HT15 : Hid _ := HTr.out.below (below_chain HB14.out (below_chain (below_chain (below_alloc _ _) (below_alloc _ _)) b15))
                  clear b15 HTr
                  have hdt : decide ((0 : Int) = 0 ∧ (0 : Int) = 0 ∧ ([] : List Opt) = []) = true := by simp
                  rw [hdt]
                  clear hdt
                  go_wp2_with (fail)
                  go_roundw
                  case rel => exact ⟨8, by omega, by go_num, HT15.out⟩
                  case measure => simp [intOf]
              · have hrg : ¬ (r : Int) ≤ 7 := by omega
                go_wp2_with (fail)
                go_roundw
                case rel => exact ⟨k + 1, _, _, _, _, by omega, by go_num, HTr.out⟩
                case measure => simp [intOf]; omega

    · have hge : ¬ (k : Int) < (n : Int) := by omega
      have HB : Hid _ := hTw.bel
      clear hTw
      go_wp2_with (fail)
      go_ret
      exact ⟨rfl, HB.out⟩
end floodSays
end Go.Proofs.Ytgfjgenkpfdofaa
