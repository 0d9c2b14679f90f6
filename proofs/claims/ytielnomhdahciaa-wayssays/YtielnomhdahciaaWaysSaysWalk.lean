/-
  'WaysSays' returns true at all states, roots and routers, and changes nothing that was there.
-/
import Derived.Test.YtielnomhdahciaaRHops
namespace Go.Proofs.Ytielnomhdahciaa
open Go.RowKit St
namespace waysSays

set_option maxRecDepth 100000 in
set_option maxHeartbeats 4000000 in
theorem far_any (w : World) : Calls Try.prog 35 #[] w fun e w' => e = .returned (.bool true) ∧ Below w.heap.size w w' := by
  have hst := near_sts w 5 7
  have hb : Below w.heap.size w (((w.alloc (.cells #[.int .i64 2, .int .i64 5] 93)).alloc (.cells #[.int .i64 1, .int .i64 7] 93)).alloc (.cells #[.int .i64 1, .int .i64 1, .slice (some ⟨w.heap.size, 0, none⟩) 1 1, .int .i64 2, .int .i64 1, .slice (some ⟨w.heap.size + 1, 0, none⟩) 1 1] 35)) := ((below_alloc _ _).alloc (by simp) _).alloc (by simp; omega) _
  have hh := hops_any (some ⟨w.heap.size + 2, 0, none⟩) 2 2 (nearS w.heap.size) (nearE 5 7) 1 _ hst (by decide) (near_ok _ 5 7 (by decide) (by decide)) (by decide) (by decide)
  rw [near_hops _ 5 7 (by decide) (by decide)] at hh
  have HB : Hid _ := hb
  clear hb hst
  go_enter Try.func35, Try.ntmps35
  go_wp2_with (fail)
  refine hh.mono ?_
  rintro e w1 ⟨b, c, rfl, h1, k1⟩
  have Hb1 : Hid _ := below_chain HB.out k1
  have hsh := sameHops_yes b (some ⟨w1.heap.size, 0, none⟩) 1 c 1 [⟨2, 5, 2⟩] (w1.alloc (.cells #[.int .i64 2, .int .i64 5, .int .i64 2] 73)) (h1.below (below_alloc _ _)) (hs_new w1 ⟨2, 5, 2⟩) (by decide)
  clear hh h1 k1
  go_wp2_with (fail)
  refine hsh.mono ?_
  rintro e w2 ⟨rfl, k2⟩
  have Hb2 : Hid _ := below_chain (Below.alloc Hb1.out Hb1.out.size _) k2
  clear hsh k2
  go_wp2_with (fail)
  go_ret
  exact ⟨rfl, Hb2.out⟩
theorem first_hop {L : List HP} {x : Int} {i : Nat} {p : HP} (hi : idxH L x i = none) (hp : L[i]? = some p) (hd : p.dst = x) : toH L x = some p := by
  have hil : i < L.length := (List.getElem?_eq_some_iff.1 hp).1
  have h1 := idxH_find L x i (by omega)
  rw [hi] at h1
  simp only at h1
  have e : L = L.take i ++ p :: L.drop (i + 1) := by
    have h2 : L.drop i = p :: L.drop (i + 1) := by
      rw [List.drop_eq_getElem_cons hil]
      rw [List.getElem?_eq_getElem hil] at hp
      rw [Option.some.inj hp]
    rw [← h2, List.take_append_drop]
  unfold toH at h1 ⊢
  rw [e, List.find?_append, h1]
  simp [hd]
theorem no_hop {L : List HP} {x : Int} (hi : idxH L x L.length = none) : toH L x = none := by
  have h1 := idxH_find L x L.length (Nat.le_refl _)
  rw [hi, List.take_length] at h1
  exact h1

set_option maxRecDepth 100000 in
set_option maxHeartbeats 8000000 in
theorem walk (a : Option Addr) (n cap : Nat) (S : Nat → SV) (E : Nat → List Opt) (root x : Int) (w : World) (h : StsR w a n S E) :
    Calls Try.prog 6 #[.slice a n cap, .int .i64 root, .int .i64 x] w fun e w' => e = .returned (.bool true) ∧ Below w.heap.size w w' := by
  have h0 := far_any w
  go_enter Try.func6, Try.ntmps6
  go_wp2_with (fail)
  refine h0.mono ?_
  rintro e w1 ⟨rfl, b1⟩
  clear h0
  have hl := lightStates_any a n cap S E w1 (h.below b1)
  go_wp2_with (fail)
  refine hl.mono ?_
  rintro e w2 ⟨⟨t, rfl, hb⟩, b2⟩
  have hb2 := below_chain b1 b2
  clear hl b1 b2
  cases t
  · clear hb
    go_wp2_with (fail)
    go_ret
    exact ⟨rfl, hb2⟩
  obtain ⟨hn6, hok⟩ := hb rfl
  clear hb
  obtain ⟨L, hL7, H1, H2⟩ : ∃ L : List HP, L.length ≤ 7 ∧ Hid (∀ W, Below w.heap.size w W → Calls Try.prog 37 #[.slice a n cap, .int .i64 root] W fun e w' => ∃ b c, e = .returned (.slice b L.length c) ∧ HsR w' b L.length L ∧ Below W.heap.size W w') ∧ Hid (∀ W, Below w.heap.size w W → Calls Try.prog 38 #[.slice a n cap, .int .i64 root] W fun e w' => ∃ b c, e = .returned (.slice b L.length c) ∧ HsR w' b L.length L ∧ Below W.heap.size W w') := by
    by_cases hr : root < 1 ∨ 6 < root
    · refine ⟨[], by decide, fun W hW => ?_, fun W hW => ?_⟩
      · refine (hops_bad a n cap root W hr).mono ?_
        rintro e w' ⟨rfl, rfl⟩
        exact ⟨none, 0, rfl, ⟨rfl, .inl rfl⟩, Below.refl _ _⟩
      · refine (rhops_bad a n cap root W hr).mono ?_
        rintro e w' ⟨rfl, rfl⟩
        exact ⟨none, 0, rfl, ⟨rfl, .inl rfl⟩, Below.refl _ _⟩
    · obtain ⟨r, rfl⟩ : ∃ r : Nat, root = (r : Int) := ⟨root.toNat, by omega⟩
      exact ⟨hopsL (bothG (tellF S E n)) r, lstF_length _ 7, fun W hW => hops_any a n cap S E r W (h.below hW) (by omega) hok (by omega) (by omega), fun W hW => rhops_any a n cap S E r W (h.below hW) (by omega) hok (by omega) (by omega)⟩
  have hh1 := H1.out w2 hb2
  have HB2 : Hid _ := hb2
  clear hb2 hok H1
  go_wp2_with (fail)
  refine hh1.mono ?_
  rintro e w3 ⟨b3, c3, rfl, r3, k3⟩
  have hb3 := below_chain HB2.out k3
  have hh2 := H2.out w3 hb3
  have HB3 : Hid _ := hb3
  have HR3 : Hid _ := r3
  clear hh1 k3 hb3 r3 H2
  go_wp2_with (fail)
  refine hh2.mono ?_
  rintro e w4 ⟨b4, c4, rfl, r4, k4⟩
  have HB4 : Hid _ := below_chain HB3.out k4
  have hr34 := HR3.out.below k4
  have hsh := sameHops_yes b3 b4 L.length c3 c4 L w4 hr34 r4 (by omega)
  have HR34 : Hid _ := hr34
  have HR4 : Hid _ := r4
  clear hh2 k4 r4 hr34
  go_wp2_with (fail)
  refine hsh.mono ?_
  rintro e w5 ⟨rfl, k5⟩
  have HB5 : Hid _ := below_chain HB4.out k5
  have HR5 : Hid _ := HR4.out.below k5
  have hto := to_any b3 L.length c3 L x w5 (HR34.out.below k5) (by omega)
  clear hsh k5
  go_wp2_with (fail)
  refine hto.mono ?_
  rintro e w6 ⟨rfl, k6⟩
  have hb6 := below_chain HB5.out k6
  have hr6 := HR5.out.below k6
  obtain ⟨P, hP⟩ : ∃ P, (toH L x).getD HP.zero = P := ⟨_, rfl⟩
  obtain ⟨is, his⟩ : ∃ is, (toH L x).isSome = is := ⟨_, rfl⟩
  rw [hP, his]
  have HP1 : Hid _ := hP
  have HI1 : Hid _ := his
  obtain ⟨pd, pf, px⟩ := P
  simp only
  have kb := below_alloc w6 (.cells #[.int .i64 pd, .int .i64 pf, .int .i64 px] 73)
  have HB7 : Hid (Below w.heap.size w (w6.alloc (.cells #[.int .i64 pd, .int .i64 pf, .int .i64 px] 73))) := hb6.alloc hb6.size _
  have HR7 : Hid _ := hr6.below kb
  have hY := Blk.new w6 #[.int .i64 pd, .int .i64 pf, .int .i64 px] 73
  obtain ⟨W7, hW7⟩ : ∃ W7, w6.alloc (.cells #[.int .i64 pd, .int .i64 pf, .int .i64 px] 73) = W7 := ⟨_, rfl⟩
  rw [hW7] at HB7 HR7 hY
  obtain ⟨Y, hYe⟩ : ∃ Y, w6.heap.size = Y := ⟨_, rfl⟩
  rw [hYe] at hY
  have y0 : W7.cell? ⟨Y, 0, none⟩ = some (.int .i64 pd) := hY.cell 0
  have y1 : W7.cell? ⟨Y, 1, none⟩ = some (.int .i64 pf) := hY.cell 1
  have y2 : W7.cell? ⟨Y, 2, none⟩ = some (.int .i64 px) := hY.cell 2
  have HW7 : Hid _ := hW7
  have HYe : Hid _ := hYe
  obtain ⟨ln, hln⟩ : ∃ ln, L.length = ln := ⟨_, rfl⟩
  rw [hln] at HR7 hL7
  rw [hln]
  have HLN : Hid _ := hln
  clear hto k6 hb6 hr6 hP his kb hY hW7 hYe HR3 HR34 HR4 HR5 HB2 HB3 HB4 HB5 hln
  go_upto_region 9 with fail
  rw [HW7.out, HYe.out]
  go_wp2_with (fail)
  go_loopw [12] (fun v wr => ∃ i : Nat, i ≤ ln ∧ v = .int .i64 i ∧ idxH L x i = none ∧ W7 = wr) (fun v _ => ln - (intOf v).toNat)
  case atStart => exact ⟨0, Nat.zero_le _, rfl, rfl, rfl⟩
  case round =>
    obtain ⟨i, hi, rfl, hidx, rfl⟩ := hrel
    have HIX : Hid _ := hidx
    clear hidx
    by_cases hil : i < ln
    · have hil' : (i : Int) < (ln : Int) := by omega
      have hlen := HLN.out
      have hg : L[i]? = some (L[i]'(by rw [hlen]; exact hil)) := List.getElem?_eq_getElem _
      rcases HR7.out.row with e | ⟨rb, ro, e, hcs⟩
      · omega
      subst e
      obtain ⟨c0, c1, c2⟩ := hcs i _ hg
      obtain ⟨q, hq⟩ : ∃ q, L[i]'(by rw [hlen]; exact hil) = q := ⟨_, rfl⟩
      rw [hq] at c0 c1 c2 hg
      have HGq : Hid _ := hg
      obtain ⟨qd, qf, qx⟩ := q
      simp only at c0 c1 c2
      clear hcs hq hlen hg
      by_cases he : qd = x
      · have he' : (qd == x) = true := by simpa using he
        have hto := first_hop HIX.out HGq.out he
        have e1 := HP1.out
        have e2 := HI1.out
        rw [hto] at e1 e2
        simp only [Option.getD_some, Option.isSome_some, HP.mk.injEq] at e1 e2
        obtain ⟨rfl, rfl, rfl⟩ := e1
        subst e2
        clear hto he HGq
        go_wp2_with (fail)
        go_quiet (fail)
        go_wp2_with (fail)
        go_ret
        exact ⟨by first | rfl | simp, below_drewN HB7.out _⟩
      · have he' : (qd == x) = false := by simpa using he
        have HN : Hid (idxH L x (i + 1) = none) := by
          show _ = _
          have h1 : idxH L x i = none := HIX.out
          have h2 := HGq.out
          simp only [idxH, h1, h2]
          rw [if_neg he]
        clear he HGq
        go_wp2_with (fail)
        go_roundw
        case rel => exact ⟨i + 1, by omega, by go_num, HN.out, by first | rfl | trivial⟩
        case measure => simp [intOf]; omega
    · have hil' : ¬ (i : Int) < (ln : Int) := by omega
      have hin : i = ln := by omega
      have hidx : idxH L x i = none := HIX.out
      rw [hin, ← HLN.out] at hidx
      have hto := no_hop hidx
      have e1 := HP1.out
      have e2 := HI1.out
      rw [hto] at e1 e2
      simp only [Option.getD_none, Option.isSome_none, HP.zero, HP.mk.injEq] at e1 e2
      obtain ⟨rfl, rfl, rfl⟩ := e1
      subst e2
      clear hto hidx hin
      go_wp2_with (fail)
      go_ret
      exact ⟨by first | rfl | simp, HB7.out⟩
end waysSays
end Go.Proofs.Ytielnomhdahciaa
