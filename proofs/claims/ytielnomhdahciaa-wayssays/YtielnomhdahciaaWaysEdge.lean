/-
  The document's Edge: what both tell.
-/
import Derived.Test.YtielnomhdahciaaWaysTold
import Derived.Test.YtielnomhdahciaaWaysBoth
namespace Go.Proofs.Ytielnomhdahciaa
open Go.RowKit St

theorem tellF_range (S : Nat → SV) (E : Nat → List Opt) : ∀ n, (∀ j, j < n → stF (S j).own (S j).seq (E j) = 0) → ∀ x y, 0 ≤ tellF S E n x y ∧ tellF S E n x y ≤ 20
  | 0, _, x, y => by simp [tellF]
  | n + 1, h, x, y => by
    have ih := tellF_range S E n (fun j hj => h j (by omega))
    have hes := edgF_all _ (E n) 0 (stF_zero (h n (by omega))).2.2.2
    simp only [tellF, putE]
    generalize E n = es at hes
    generalize tellF S E n = C at ih
    induction es generalizing C with
    | nil => exact ih x y
    | cons e es ihs =>
      rw [List.foldl_cons]
      refine ihs (fun q hq => hes q (by simp [hq])) _ (fun u v => ?_)
      simp only [updG]
      have := hes e (by simp)
      split
      · omega
      · exact ih u v

set_option maxRecDepth 100000 in
set_option maxHeartbeats 8000000 in
theorem edge_law (a : Option Addr) (n cap : Nat) (S : Nat → SV) (E : Nat → List Opt) (p q : Nat) (w : World) (h : StsR w a n S E) (hn : n ≤ 1000) (hok : ∀ j, j < n → stF (S j).own (S j).seq (E j) = 0) :
    Calls Try.prog 42 #[.slice a n cap, .int .i64 (p : Int), .int .i64 (q : Int)] w fun e w' => e = .returned (.int .i64 (bothG (tellF S E n) p q)) ∧ Below w.heap.size w w' := by
  have HOK : Hid _ := hok
  clear hok
  go_enter Try.func42, Try.ntmps42
  go_wp2_with (fail)
  go_loopw [7, 8, 9] (fun t k v wr => ∃ i : Nat, i ≤ n ∧ v = .int .i64 i ∧ t = .int .i64 (tellF S E i p q) ∧ k = .bool (decide (0 < tellF S E i q p)) ∧ Below w.heap.size w wr) (fun _ _ v _ => n - (intOf v).toNat)
  case atStart => exact ⟨0, Nat.zero_le _, rfl, rfl, by simp [tellF], Below.refl _ _⟩
  case round =>
    obtain ⟨i, hi, rfl, rfl, rfl, hbel⟩ := hrel
    by_cases hlt : i < n
    · have hlt' : (i : Int) < (n : Int) := by omega
      obtain ⟨sb, off, rfl, hcs⟩ : ∃ sb off, a = some ⟨sb, off, none⟩ ∧ ∀ j, j < n → w.cell? ⟨sb, off + j * 3, none⟩ = some (.int .i64 (S j).own) ∧ w.cell? ⟨sb, off + j * 3 + 1, none⟩ = some (.int .i64 (S j).seq) ∧ w.cell? ⟨sb, off + j * 3 + 2, none⟩ = some (.slice (S j).a (S j).n (S j).cap) := by
        rcases h.row with h1 | h1
        · omega
        · exact h1
      have HOW := (h.opt i hlt).1
      have hstf := HOK.out i hlt
      have hso := (stF_zero hstf).1
      have hes := edgF_all _ (E i) 0 (stF_zero hstf).2.2.2
      have h6 := (stF_zero hstf).2.2.1
      obtain ⟨o, hoe⟩ : ∃ o : Nat, (S i).own = (o : Int) := ⟨(S i).own.toNat, by omega⟩
      have HT : Hid (tellF S E (i + 1) = putE (tellF S E i) o (E i)) := by show putE _ _ _ = _; rw [hoe, Int.toNat_natCast]
      have HC : Hid (∀ W, Below w.heap.size w W → W.cell? ⟨sb, off + i * 3, none⟩ = some (.int .i64 (o : Int)) ∧ W.cell? ⟨sb, off + i * 3 + 2, none⟩ = some (.slice (S i).a (S i).n (S i).cap)) := by
        intro W hW
        obtain ⟨c0, c1, c2⟩ := hcs i hlt
        have l := World.block_lt_of_cell? w _ c0
        rw [hoe] at c0
        exact ⟨(hW.cell (p := ⟨sb, off + i * 3, none⟩) l).trans c0, (hW.cell (p := ⟨sb, off + i * 3 + 2, none⟩) l).trans c2⟩
      have HES : Hid _ := hes
      obtain ⟨es, he⟩ : ∃ es, E i = es := ⟨_, rfl⟩
      rw [he] at HOW HT HES h6
      have hel := HOW.1
      generalize (S i).a = sa at HC HOW
      generalize (S i).cap = sc at HC
      generalize (S i).n = sn at HC HOW hel
      have hsn : sn ≤ 6 := by omega
      clear hcs he hes hstf hoe hso
      obtain ⟨T0, hT0⟩ : ∃ T0, tellF S E i = T0 := ⟨_, rfl⟩
      rw [hT0] at HT
      rw [hT0]
      clear hT0
      have HB : Hid _ := hbel
      clear hbel
      go_wp2_with (fail)
      go_loopw [7, 8, 10] (fun t z v wr => ∃ k : Nat, k ≤ sn ∧ v = .int .i64 k ∧ t = .int .i64 (putE T0 o (es.take k) p q) ∧ z = .bool (decide (0 < putE T0 o (es.take k) q p)) ∧ Below w.heap.size w wr) (fun _ _ v _ => sn - (intOf v).toNat)
      case atStart => exact ⟨0, Nat.zero_le _, rfl, rfl, rfl, HB.out⟩
      case round =>
        clear HB
        obtain ⟨k, hk, rfl, rfl, rfl, hbel⟩ := hrel
        obtain ⟨c0, c2⟩ := HC.out wr hbel
        by_cases hkn : k < sn
        · have hkn' : (k : Int) < (sn : Int) := by omega
          have hoe := HOW.below hbel
          rcases hoe.2 with h1 | ⟨eb, eoff, rfl, hec⟩
          · omega
          obtain ⟨d0, d1⟩ := hec k (by omega)
          have hrg := HES.out _ (List.getElem_mem (show k < es.length by omega))
          have HP : Hid (putE T0 o (es.take (k + 1)) = updG (putE T0 o (es.take k)) o ((es[k]'(by omega)).1.toNat) ((es[k]'(by omega)).2)) := putE_take _ o es k (by omega)
          obtain ⟨g, hg⟩ : ∃ g, es[k]'(by omega) = g := ⟨_, rfl⟩
          rw [hg] at d0 d1 hrg HP
          obtain ⟨gt, gm⟩ := g
          simp only at d0 d1 hrg HP
          obtain ⟨t, rfl⟩ : ∃ t : Nat, gt = (t : Int) := ⟨gt.toNat, by omega⟩
          rw [Int.toNat_natCast] at HP
          have ka := hbel.alloc hbel.size (.cells #[.int .i64 (t : Int), .int .i64 gm] 93)
          obtain ⟨e0, e2⟩ := HC.out _ ka
          have HA : Hid _ := ka
          have HV : Hid (putE T0 o (es.take (k + 1)) p q = (if p = o ∧ q = t then gm else putE T0 o (es.take k) p q) ∧ decide (0 < putE T0 o (es.take (k + 1)) q p) = (if q = o ∧ p = t then true else decide (0 < putE T0 o (es.take k) q p))) := by
            rw [HP.out]
            refine ⟨rfl, ?_⟩
            by_cases e : q = o ∧ p = t
            · have e2 : updG (putE T0 o (es.take k)) o t gm q p = gm := by simp only [updG, if_pos e]
              rw [if_pos e]
              exact decide_eq_true (by rw [e2]; omega)
            · have e2 : updG (putE T0 o (es.take k)) o t gm q p = putE T0 o (es.take k) q p := by simp only [updG, if_neg e]
              rw [if_neg e, decide_eq_decide, e2]
          clear hec hg hoe ka hbel HP
          generalize putE T0 o (es.take k) p q = t1 at HV ⊢
          generalize decide (0 < putE T0 o (es.take k) q p) = z1 at HV ⊢
          have main : ∀ Q : Prop, (((o : Int) == (p : Int)) = true → ((t : Int) == (q : Int)) = true → p = o → q = t → Q) → (((o : Int) == (p : Int)) = true → ((t : Int) == (q : Int)) = false → ¬ (p = o ∧ q = t) → Q) → (((o : Int) == (p : Int)) = false → ¬ (p = o ∧ q = t) → Q) → Q := by
            intro Q q1 q2 q3
            by_cases e1 : p = o
            · have f1 : ((o : Int) == (p : Int)) = true := by simp [e1]
              by_cases e2 : q = t
              · exact q1 f1 (by simp [e2]) e1 e2
              · exact q2 f1 (by have : ¬ (t : Int) = (q : Int) := by omega
                                simpa using this) (fun e => e2 e.2)
            · exact q3 (by have : ¬ (o : Int) = (p : Int) := by omega
                           simpa using this) (fun e => e1 e.1)
          have main2 : ∀ Q : Prop, (((o : Int) == (q : Int)) = true → ((t : Int) == (p : Int)) = true → q = o ∧ p = t → Q) → (((o : Int) == (q : Int)) = true → ((t : Int) == (p : Int)) = false → ¬ (q = o ∧ p = t) → Q) → (((o : Int) == (q : Int)) = false → ¬ (q = o ∧ p = t) → Q) → Q := by
            intro Q q1 q2 q3
            by_cases e1 : q = o
            · have f1 : ((o : Int) == (q : Int)) = true := by simp [e1]
              by_cases e2 : p = t
              · exact q1 f1 (by simp [e2]) ⟨e1, e2⟩
              · exact q2 f1 (by have : ¬ (t : Int) = (p : Int) := by omega
                                simpa using this) (fun e => e2 e.2)
            · exact q3 (by have : ¬ (o : Int) = (q : Int) := by omega
                           simpa using this) (fun e => e1 e.1)
          have HM2 : Hid _ := main2
          clear main2
          refine main _ ?_ ?_ ?_ <;> clear main
          · intro f1 f2 e1 e2
            have HV1 : Hid (putE T0 o (es.take (k + 1)) p q = gm) := by show _ = _; rw [HV.out.1, if_pos ⟨e1, e2⟩]
            clear e1 e2
            refine HM2.out _ ?_ ?_ ?_ <;> clear HM2
            · intro f3 f4 e3
              have HV2 : Hid (decide (0 < putE T0 o (es.take (k + 1)) q p) = true) := by show _ = _; rw [HV.out.2, if_pos e3]
              clear e3
              go_wp2_with (fail)
              go_roundw
              case rel => exact ⟨k + 1, by omega, by go_num, by rw [HV1.out], by rw [HV2.out], HA.out⟩
              case measure => simp [intOf]; omega
            · intro f3 f4 e3
              have HV2 : Hid (decide (0 < putE T0 o (es.take (k + 1)) q p) = z1) := by show _ = _; rw [HV.out.2, if_neg e3]
              clear e3
              go_wp2_with (fail)
              go_roundw
              case rel => exact ⟨k + 1, by omega, by go_num, by rw [HV1.out], by rw [HV2.out], HA.out⟩
              case measure => simp [intOf]; omega
            · intro f3 e3
              have HV2 : Hid (decide (0 < putE T0 o (es.take (k + 1)) q p) = z1) := by show _ = _; rw [HV.out.2, if_neg e3]
              clear e3
              go_wp2_with (fail)
              go_roundw
              case rel => exact ⟨k + 1, by omega, by go_num, by rw [HV1.out], by rw [HV2.out], HA.out⟩
              case measure => simp [intOf]; omega
          · intro f1 f2 e1
            have HV1 : Hid (putE T0 o (es.take (k + 1)) p q = t1) := by show _ = _; rw [HV.out.1, if_neg e1]
            clear e1
            refine HM2.out _ ?_ ?_ ?_ <;> clear HM2
            · intro f3 f4 e3
              have HV2 : Hid (decide (0 < putE T0 o (es.take (k + 1)) q p) = true) := by show _ = _; rw [HV.out.2, if_pos e3]
              clear e3
              go_wp2_with (fail)
              go_roundw
              case rel => exact ⟨k + 1, by omega, by go_num, by rw [HV1.out], by rw [HV2.out], HA.out⟩
              case measure => simp [intOf]; omega
            · intro f3 f4 e3
              have HV2 : Hid (decide (0 < putE T0 o (es.take (k + 1)) q p) = z1) := by show _ = _; rw [HV.out.2, if_neg e3]
              clear e3
              go_wp2_with (fail)
              go_roundw
              case rel => exact ⟨k + 1, by omega, by go_num, by rw [HV1.out], by rw [HV2.out], HA.out⟩
              case measure => simp [intOf]; omega
            · intro f3 e3
              have HV2 : Hid (decide (0 < putE T0 o (es.take (k + 1)) q p) = z1) := by show _ = _; rw [HV.out.2, if_neg e3]
              clear e3
              go_wp2_with (fail)
              go_roundw
              case rel => exact ⟨k + 1, by omega, by go_num, by rw [HV1.out], by rw [HV2.out], HA.out⟩
              case measure => simp [intOf]; omega
          · intro f1 e1
            have HV1 : Hid (putE T0 o (es.take (k + 1)) p q = t1) := by show _ = _; rw [HV.out.1, if_neg e1]
            clear e1
            refine HM2.out _ ?_ ?_ ?_ <;> clear HM2
            · intro f3 f4 e3
              have HV2 : Hid (decide (0 < putE T0 o (es.take (k + 1)) q p) = true) := by show _ = _; rw [HV.out.2, if_pos e3]
              clear e3
              go_wp2_with (fail)
              go_roundw
              case rel => exact ⟨k + 1, by omega, by go_num, by rw [HV1.out], by rw [HV2.out], HA.out⟩
              case measure => simp [intOf]; omega
            · intro f3 f4 e3
              have HV2 : Hid (decide (0 < putE T0 o (es.take (k + 1)) q p) = z1) := by show _ = _; rw [HV.out.2, if_neg e3]
              clear e3
              go_wp2_with (fail)
              go_roundw
              case rel => exact ⟨k + 1, by omega, by go_num, by rw [HV1.out], by rw [HV2.out], HA.out⟩
              case measure => simp [intOf]; omega
            · intro f3 e3
              have HV2 : Hid (decide (0 < putE T0 o (es.take (k + 1)) q p) = z1) := by show _ = _; rw [HV.out.2, if_neg e3]
              clear e3
              go_wp2_with (fail)
              go_roundw
              case rel => exact ⟨k + 1, by omega, by go_num, by rw [HV1.out], by rw [HV2.out], HA.out⟩
              case measure => simp [intOf]; omega
        · have hge : ¬ (k : Int) < (sn : Int) := by omega
          have HTT : Hid (putE T0 o (es.take k) = tellF S E (i + 1)) := by
            show _ = _
            rw [HT.out, List.take_of_length_le (by omega)]
          rw [HTT.out]
          have HB : Hid _ := hbel
          clear hbel
          go_wp2_with (fail)
          go_roundw
          case rel => exact ⟨i + 1, by omega, by go_num, rfl, rfl, HB.out⟩
          case measure => simp [intOf]; omega
    · have hge : ¬ (i : Int) < (n : Int) := by omega
      have hin : i = n := by omega
      subst hin
      by_cases hz : 0 < tellF S E i q p
      · have HV : Hid (bothG (tellF S E i) p q = tellF S E i p q) := by show _ = _; simp only [bothG, if_pos hz]
        have e1 : decide (0 < tellF S E i q p) = true := decide_eq_true hz
        rw [e1]
        clear e1 hz
        go_wp2_with (fail)
        go_ret
        exact ⟨by rw [HV.out]; rfl, hbel⟩
      · have HV : Hid (bothG (tellF S E i) p q = 0) := by show _ = _; simp only [bothG, if_neg hz]
        have e1 : decide (0 < tellF S E i q p) = false := decide_eq_false hz
        rw [e1]
        clear e1 hz
        go_wp2_with (fail)
        go_ret
        exact ⟨by rw [HV.out]; rfl, hbel⟩
end Go.Proofs.Ytielnomhdahciaa
