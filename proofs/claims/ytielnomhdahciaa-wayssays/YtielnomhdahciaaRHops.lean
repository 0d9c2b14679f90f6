/-
  The document's Hops.
-/
import Derived.Test.YtielnomhdahciaaRWalk
namespace Go.Proofs.Ytielnomhdahciaa
open Go.RowKit St

theorem rhops_bad (a : Option Addr) (n cap : Nat) (root : Int) (w : World) (h : root < 1 ∨ 6 < root) :
    Calls Try.prog 38 #[.slice a n cap, .int .i64 root] w fun e w' => e = .returned (.slice none 0 0) ∧ w = w' := by
  have main : ∀ Q : Prop, (root < 1 → Q) → (¬ root < 1 → 6 < root → Q) → Q := fun Q q1 q2 => by
    by_cases e : root < 1
    · exact q1 e
    · exact q2 e (by omega)
  refine main _ ?_ ?_ <;> clear main
  all_goals
    intros
    go_enter Try.func38, Try.ntmps38
    go_wp2_with (fail)
    go_ret
    exact ⟨rfl, rfl⟩

set_option maxRecDepth 100000 in
set_option maxHeartbeats 8000000 in
theorem rhops_any (a : Option Addr) (n cap : Nat) (S : Nat → SV) (E : Nat → List Opt) (r : Nat) (w : World) (h : StsR w a n S E) (hn : n ≤ 1000) (hok : ∀ j, j < n → stF (S j).own (S j).seq (E j) = 0) (hr1 : 1 ≤ r) (hr6 : r ≤ 6) :
    Calls Try.prog 38 #[.slice a n cap, .int .i64 (r : Int)] w fun e w' => ∃ b c, e = .returned (.slice b (hopsL (bothG (tellF S E n)) r).length c) ∧ HsR w' b (hopsL (bothG (tellF S E n)) r).length (hopsL (bothG (tellF S E n)) r) ∧ Below w.heap.size w w' := by
  have HED : Hid (∀ (u v : Nat) W, Below w.heap.size w W → Calls Try.prog 42 #[.slice a n cap, .int .i64 (u : Int), .int .i64 (v : Int)] W fun e w' => e = .returned (.int .i64 (bothG (tellF S E n) u v)) ∧ Below W.heap.size W w') :=
    fun u v W hW => edge_law a n cap S E u v W (h.below hW) hn hok
  have hC20 := bothG_range (tellF_range S E n hok)
  have hD := both_diag S E n hok
  have HI : Hid (∀ u v, 0 < bothG (tellF S E n) u v → (1 ≤ u ∧ u ≤ 6) ∧ 1 ≤ v ∧ v ≤ 6) := both_in S E n hok
  generalize bothG (tellF S E n) = C at HED hC20 hD HI ⊢
  clear hok
  have hC0 : ∀ x y, 0 ≤ C x y := fun x y => (hC20 x y).1
  have hz := zeroB
  have hz2 := zero103
  have r1 : ¬ (r : Int) < 1 := by omega
  have r2 : ¬ 6 < (r : Int) := by omega
  obtain ⟨Z, hZ⟩ : ∃ Z, bC (fun _ => false) = Z := ⟨_, rfl⟩
  obtain ⟨Z2, hZ2⟩ : ∃ Z2, hC (fun _ => HP.zero) = Z2 := ⟨_, rfl⟩
  rw [hZ] at hz
  rw [hZ2] at hz2
  obtain ⟨W1, hW1⟩ : ∃ W1, (w.alloc (.cells Z2 103)).alloc (.cells Z 79) = W1 := ⟨_, rfl⟩
  have k1 : Below w.heap.size w W1 := by rw [← hW1]; exact (below_alloc _ _).alloc (by simp) _
  have hB : Blk W1 w.heap.size (hC fun _ => HP.zero) 103 := by rw [← hW1, hZ2]; exact (Blk.new w _ _).below (below_alloc _ _)
  have hN : Blk W1 (w.heap.size + 1) Z 79 := by rw [← hW1]; exact Blk.newN _ _ _ _ (by simp)
  have hi7 : (Try.prog.info? 79).map (·.size) = some Z.size := by rw [← hZ, bC_size]; exact sizeB
  have hpre : Pre C r [] r 0 0 (fun _ => false) := by
    refine ⟨.inl ⟨rfl, rfl, rfl, rfl⟩, List.nodup_nil, fun x => ?_⟩
    simp [updB]
  have hrs : RS C r (fun _ => HP.zero) := ⟨⟨fun _ => Int.le_refl _, fun n hn => by simp [HP.zero] at hn⟩, fun _ _ => rfl⟩
  have hcall := rwalk_any a n cap r w C w.heap.size (Nat.le_refl _) HED hC20 HI 7 [] r 0 0 (fun _ => false) (fun _ => HP.zero) W1 rfl (by omega) hpre hrs hB k1
  rw [hZ] at hcall
  have HW1 : Hid _ := hW1
  have HK1 : Hid _ := k1
  clear hW1 hZ hZ2 hpre hrs hB k1 HED
  go_enter Try.func38, Try.ntmps38
  go_upto_region 5 with fail
  rw [HW1.out]
  go_wp2_with (first
    | refine wpList_load_blk _ rfl (.tmp 6) 79 rfl (w.heap.size + 1) Z _ _ rfl hN Try.underlying79 hi7 ?_)
  refine hcall.mono ?_
  rintro e w2 ⟨rfl, ⟨G, hB2, hR2, _, hD2⟩, hgr⟩
  have hk2 : Below w.heap.size w w2 := below_grown HK1.out hgr (Nat.le_refl _)
  have hsame := best_same hC0 (hD r) G hR2 (fun q q1 q2 => by
    rcases List.eq_nil_or_concat q with rfl | ⟨e, x, he⟩
    · exact q1.elim
    · rw [List.concat_eq_append] at he
      exact hD2 x q ⟨q1, q2, e, he⟩)
  have HD3 : Hid (∀ m : Nat, 1 ≤ m → ((0 : Int) < (G m).dst ↔ 0 < farF C r m) ∧ (0 < farF C r m → G m = roundsF C r 6 m)) := by
    intro m hm
    obtain ⟨s1, s2⟩ := hsame m
    refine ⟨⟨fun h9 => ?_, fun h9 => ?_⟩, s2⟩
    · by_cases e : 0 < farF C r m
      · exact e
      · have e0 := far_nn hC0 (hD r) m
        have := hR2.z m (by omega)
        rw [this] at h9
        simp [HP.zero] at h9
    · have := (hR2.s.way m (by omega)).1
      omega
  have HF0 : Hid (farF C r 0 = 0) := by
    show _ = _
    have e0 := far_nn hC0 (hD r) 0
    by_cases e : 0 < farF C r 0
    · obtain ⟨_, q, q1, _, q3, _⟩ := best_way hC0 (hD r) 0 e
      exfalso
      match q, q1, q3 with
      | [], q1, _ => exact q1
      | [x], q1, q3 =>
        have : x = 0 := by simpa using q3
        subst this
        have := HI.out _ _ q1.1
        omega
      | x :: y :: l, q1, q3 =>
        have : x = 0 := by simpa using q3
        subst this
        have := HI.out _ _ q1.2.1
        omega
    · omega
  have HL : Hid (∀ m, lstF (roundsF C r 6) (m + 1) = if 0 < farF C r m then lstF (roundsF C r 6) m ++ [roundsF C r 6 m] else lstF (roundsF C r 6) m) := fun m => rfl
  have HE : Hid (lstF (roundsF C r 6) 7 = hopsL C r) := rfl
  have HLL : Hid (∀ m, (lstF (roundsF C r 6) m).length ≤ m) := lstF_length _
  obtain ⟨i0, hi, hz0, hz1, hz3⟩ := info_parts infoHop
  have HB2 : Hid _ := hB2
  have HK2 : Hid _ := hk2
  obtain ⟨B, hBe⟩ : ∃ B, w.heap.size = B := ⟨_, rfl⟩
  rw [hBe] at HB2
  rw [hBe]
  clear hcall hB2 hR2 hD2 hgr hk2 hsame hN hi7 HW1 hBe
  go_wp2_with (fail)
  go_loopw [7, 8] (fun s v wr => ∃ m : Nat, 1 ≤ m ∧ m ≤ 7 ∧ v = .int .i64 m ∧ Row wr 3 s (lstF (roundsF C r 6) m).length (hpC (lstF (roundsF C r 6) m)) ∧ (∀ g, s.ownBlock = some g → w2.heap.size ≤ g) ∧ Below w2.heap.size w2 wr) (fun _ v _ => 7 - (intOf v).toNat)
  case atStart =>
    refine ⟨1, by omega, by omega, rfl, ?_, fun g hg => by simp [Value.ownBlock] at hg, Below.refl _ _⟩
    have e : lstF (roundsF C r 6) 1 = [] := by
      rw [HL.out 0, if_neg (by rw [HF0.out]; omega)]
      rfl
    rw [e]
    exact Row.nil _ _
  case round =>
    obtain ⟨m, hm1, hm7, rfl, hrow, hown, hbel⟩ := hrel
    by_cases hm6 : m ≤ 6
    · have hm6' : (m : Int) ≤ 6 := by omega
      have hm7' : (m : Int) < 7 := by omega
      obtain ⟨p0, p1, p2⟩ := hC_get G m (by omega)
      have hBw := Blk.below HB2.out hbel
      have c0 := (hBw.cell (m * 3)).trans p0
      have c1 := (hBw.cell (m * 3 + 1)).trans p1
      have c2 := (hBw.cell (m * 3 + 2)).trans p2
      clear p0 p1 p2 hBw
      obtain ⟨d1, d2⟩ := HD3.out m hm1
      have HS : Hid _ := HL.out m
      have hll := HLL.out m
      have HOwn : Hid _ := hown
      have HB : Hid _ := hbel
      by_cases hf : 0 < farF C r m
      · have hdp : 0 < (G m).dst := d1.2 hf
        have he := d2 hf
        have HS2 : Hid (lstF (roundsF C r 6) (m + 1) = lstF (roundsF C r 6) m ++ [G m]) := by show _ = _; rw [HS.out, if_pos hf, he]
        obtain ⟨p, hp⟩ : ∃ p, G m = p := ⟨_, rfl⟩
        rw [hp] at c0 c1 c2 hdp HS2
        obtain ⟨pd, pf, px⟩ := p
        simp only at c0 c1 c2 hdp
        obtain ⟨L, hLe⟩ : ∃ L, lstF (roundsF C r 6) m = L := ⟨_, rfl⟩
        rw [hLe] at HS2 hrow hll
        have hws : Hid (w2.heap.size ≤ wr.heap.size) := hbel.size
        clear hp hLe d1 d2 hf he hown hbel HS
        go_wp2_with (at_builtin; go_must (refine wpList_append_row _ rfl (.tmp 28) (.tmp 32) 69 rfl 73 i0 (.agg #[.int .i64 0, .int .i64 0, .int .i64 0]) 3 24 Try.underlying69 hi hz0 hz1 hz3 rfl (by decide) u7 L.length (hpC L) rfl (hrow.alloc _) _ 1 1 [.int .i64 pd, .int .i64 pf, .int .i64 px] rfl rfl (by decide) (cells_threeH _ _ _ _ _ _ (by simp)) (one_hp _ _ _) (by unfold maxLen; omega) (by omega) ?_))
        intro g' cap' w3 hr3 hg3 hown3
        have HR3 : Hid (Row w3 3 (.slice (some ⟨g', 0, none⟩) (L.length + 1) cap') (L ++ [(⟨pd, pf, px⟩ : HP)]).length (hpC (L ++ [(⟨pd, pf, px⟩ : HP)]))) := by
          show Row _ _ _ _ _
          rw [hpC_snoc, List.length_append]
          exact hr3
        have kb : Below w2.heap.size w2 (wr.alloc (.cells #[.int .i64 pd, .int .i64 pf, .int .i64 px] 73)) := Below.alloc HB.out HB.out.size _
        have HB3 : Hid (Below w2.heap.size w2 w3) := ⟨hg3.os.trans kb.os, hg3.tape.trans kb.tape, hg3.output.trans kb.output, Nat.le_trans kb.size hg3.size, fun i hi => (hg3.block i (Nat.lt_of_lt_of_le hi kb.size) (fun e => by have := HOwn.out i e.symm; omega)).trans (kb.block i hi)⟩
        have HG3 : Hid (∀ g, Value.ownBlock (.slice (some ⟨g', 0, none⟩) (L.length + 1) cap') = some g → w2.heap.size ≤ g) := by
          intro g hg
          have hgg : g' = g := by simpa [Value.ownBlock] using hg
          subst hgg
          rcases hown3 with e | e
          · exact HOwn.out _ e
          · have := hws.out
            omega
        clear hr3 hg3 hown3 kb hrow c0 c1 c2
        go_wp2_with (fail)
        go_roundw
        case rel => exact ⟨m + 1, by omega, by omega, by go_num, by rw [HS2.out]; exact HR3.out, HG3.out, HB3.out⟩
        case measure => simp [intOf]; omega
      · have hdp : ¬ 0 < (G m).dst := fun e => hf (d1.1 e)
        have HS2 : Hid (lstF (roundsF C r 6) (m + 1) = lstF (roundsF C r 6) m) := by show _ = _; rw [HS.out, if_neg hf]
        generalize (G m).dst = pd at c0 hdp
        have HRow : Hid _ := hrow
        clear d1 d2 hf HS hown hbel hrow c1 c2
        go_wp2_with (fail)
        go_roundw
        case rel => exact ⟨m + 1, by omega, by omega, by go_num, by rw [HS2.out]; exact HRow.out, HOwn.out, HB.out⟩
        case measure => simp [intOf]; omega
    · have hm6' : ¬ (m : Int) ≤ 6 := by omega
      have hme : m = 7 := by omega
      subst hme
      rw [HE.out] at hrow
      obtain ⟨ra, rc, rfl, hR⟩ := Row.hs hrow
      have HR : Hid _ := hR
      have HBE : Hid _ := below_chain HK2.out hbel
      clear hR hrow hown hbel
      go_wp2_with (fail)
      go_ret
      first | exact ⟨_, _, rfl, HR.out, HBE.out⟩ | exact ⟨_, ⟨_, rfl⟩, HR.out, HBE.out⟩
end Go.Proofs.Ytielnomhdahciaa
