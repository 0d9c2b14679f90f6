/-
  'TopWay' returns true at all states and roots, and changes nothing that was there.
-/
import Derived.Test.YtielnomhdahciaaWaysIn
import Derived.Deep.DeepCutAuto
namespace Go.Proofs.Ytielnomhdahciaa
open Go.RowKit St
namespace topWay

def bC (b : Nat → Bool) : Array Value := (Array.range 7).map fun i => .bool (b i)
theorem bC_get (b : Nat → Bool) (i : Nat) (h : i < 7) : (bC b)[i]? = some (.bool (b i)) := by simp [bC, h]
def updB (b : Nat → Bool) (n : Nat) : Nat → Bool := fun x => if x = n then true else b x
theorem bC_set (b : Nat → Bool) (n : Nat) : (bC b).setIfInBounds n (.bool true) = bC (updB b n) := by
  apply Array.ext_getElem?
  intro i
  rw [Array.getElem?_setIfInBounds]
  by_cases hi : i < 7
  · rw [bC_get _ i hi, bC_get _ i hi]
    by_cases e : n = i
    · subst e
      simp [updB, bC, hi]
    · have e2 : ¬ i = n := fun h => e h.symm
      simp [updB, e, e2]
  · have hs : ∀ D : Nat → Bool, (bC D)[i]? = none := fun D => Array.getElem?_eq_none (by simp [bC]; omega)
    rw [hs, hs]
    split
    · simp [bC]; omega
    · rfl
theorem infoB : (Try.prog.info? 79).map (fun i => (i.zero, i.size)) = some (some (.agg (bC fun _ => false)), 7) := by kernel_rfl
theorem zeroB (w : World) : (zeroValue 79).run Try.prog w = .ok (.agg (bC fun _ => false)) w := (zero_of_info infoB).1 w
/-- How far is still to go. -/
def rest (C : Grid) (a k : Nat) : Int := if a = k then 0 else farF C a k

set_option maxRecDepth 100000 in
set_option maxHeartbeats 8000000 in
theorem walk (a : Option Addr) (n cap : Nat) (S : Nat → SV) (E : Nat → List Opt) (x : Int) (w : World) (h : StsR w a n S E) :
    Calls Try.prog 8 #[.slice a n cap, .int .i64 x] w fun e w' => e = .returned (.bool true) ∧ Below w.heap.size w w' := by
  have h0 := nearby_any w
  go_enter Try.func8, Try.ntmps8
  go_wp2_with (fail)
  refine h0.mono ?_
  rintro e w1 ⟨rfl, b1⟩
  clear h0
  have hl := lightStates_any a n cap S E w1 (h.below b1)
  go_wp2_with (fail)
  refine hl.mono ?_
  rintro e w2 ⟨⟨t, rfl, hb⟩, b2⟩
  have hb2 := below_chain b1 b2
  clear hl b1 b2
  cases t
  · clear hb
    go_wp2_with (fail)
    go_ret
    exact ⟨rfl, hb2⟩
  obtain ⟨hn6, hok⟩ := hb rfl
  clear hb
  have HOK : Hid _ := hok
  clear hok
  by_cases h1 : x < 1
  · go_wp2_with (fail)
    go_ret
    exact ⟨rfl, hb2⟩
  by_cases h2 : 6 < x
  · go_wp2_with (fail)
    go_ret
    exact ⟨rfl, hb2⟩
  obtain ⟨r, rfl⟩ : ∃ r : Nat, x = (r : Int) := ⟨x.toNat, by omega⟩
  have HED : Hid (∀ (u v : Nat) W, Below w.heap.size w W → Calls Try.prog 42 #[.slice a n cap, .int .i64 (u : Int), .int .i64 (v : Int)] W fun e w' => e = .returned (.int .i64 (bothG (tellF S E n) u v)) ∧ Below W.heap.size W w') :=
    fun u v W hW => edge_law a n cap S E u v W (h.below hW) (by omega) HOK.out
  have HHO : Hid (∀ (r : Nat) W, 1 ≤ r → r ≤ 6 → Below w.heap.size w W → Calls Try.prog 37 #[.slice a n cap, .int .i64 (r : Int)] W fun e w' => ∃ b c, e = .returned (.slice b (hopsL (bothG (tellF S E n)) r).length c) ∧ HsR w' b (hopsL (bothG (tellF S E n)) r).length (hopsL (bothG (tellF S E n)) r) ∧ Below W.heap.size W w') :=
    fun r W r1 r6 hW => hops_any a n cap S E r W (h.below hW) (by omega) HOK.out r1 r6
  have HC : Hid (∀ u v, 0 ≤ bothG (tellF S E n) u v) := fun u v => (bothG_range (tellF_range S E n HOK.out) u v).1
  have HFB : Hid (∀ u v, farF (bothG (tellF S E n)) u v ≤ 5900) := fun u v => ((roundsF_far u (bothG_range (tellF_range S E n HOK.out)) 6) v).2
  have HD : Hid (∀ u, bothG (tellF S E n) u u = 0) := both_diag S E n HOK.out
  have HI : Hid (∀ u v, 0 < bothG (tellF S E n) u v → (1 ≤ u ∧ u ≤ 6) ∧ 1 ≤ v ∧ v ≤ 6) := both_in S E n HOK.out
  generalize bothG (tellF S E n) = C at HED HHO HC HD HI HFB
  clear HOK
  have hh := HHO.out r w2 (by omega) (by omega) hb2
  have HB2 : Hid _ := hb2
  clear hb2
  have HLM : Hid (∀ (j : Nat) p, (hopsL C r)[j]? = some p → ∃ k : Nat, k < 7 ∧ p = roundsF C r 6 k ∧ 0 < farF C r k) := fun j p hp => by
    obtain ⟨k, k1, k2, k3⟩ := (hops_mem C r p).1 (List.mem_of_getElem? hp)
    exact ⟨k, k1, k2, k3⟩
  have hL7 : (hopsL C r).length ≤ 7 := lstF_length _ 7
  obtain ⟨L, hLe⟩ : ∃ L, hopsL C r = L := ⟨_, rfl⟩
  rw [hLe] at hh HLM hL7
  clear hLe
  have hz := zeroB
  obtain ⟨Z, hZ⟩ : ∃ Z, bC (fun _ => false) = Z := ⟨_, rfl⟩
  rw [hZ] at hz
  have HZ : Hid _ := hZ
  clear hZ
  go_wp2_with (fail)
  refine hh.mono ?_
  rintro e w3 ⟨hb, hc, rfl, r3, k3⟩
  obtain ⟨ln, hln⟩ : ∃ ln, L.length = ln := ⟨_, rfl⟩
  rw [hln] at r3 hL7
  rw [hln]
  have HB3 : Hid _ := below_chain HB2.out k3
  have HR3 : Hid _ := r3
  clear hh r3 k3
  go_wp2_with (fail)
  go_loopw [7] (fun v wr => ∃ i : Nat, i ≤ ln ∧ v = .int .i64 i ∧ Below w3.heap.size w3 wr) (fun v _ => ln - (intOf v).toNat)
  case atStart => exact ⟨0, by omega, rfl, Below.refl _ _⟩
  case round =>
    obtain ⟨i, hi, rfl, hbel⟩ := hrel
    have HB : Hid _ := hbel
    clear hbel
    by_cases hil : i < ln
    · have hil' : (i : Int) < (ln : Int) := by omega
      have hg : L[i]? = some (L[i]'(by omega)) := List.getElem?_eq_getElem (by omega)
      obtain ⟨k, hk7, hpe, hkf⟩ := HLM.out i _ hg
      have hdst := (best_way HC.out (HD.out r) k hkf).1
      rcases HR3.out.row with e | ⟨hb', ho, e, hcs⟩
      · omega
      subst e
      have HCE : Hid (∀ W, Below w3.heap.size w3 W → W.cell? ⟨hb', ho + i * 3, none⟩ = some (.int .i64 (k : Int)) ∧ W.cell? ⟨hb', ho + i * 3 + 1, none⟩ = some (.int .i64 (farF C r k))) := by
        intro W hW
        obtain ⟨c0, c1, c2⟩ := hcs i _ hg
        rw [hpe] at c0 c1
        have hdst2 : (roundsF C r 6 k).dst = (k : Int) := hdst
        rw [hdst2] at c0
        have l := World.block_lt_of_cell? w3 _ c0
        exact ⟨(hW.cell (p := ⟨hb', ho + i * 3, none⟩) l).trans c0, (hW.cell (p := ⟨hb', ho + i * 3 + 1, none⟩) l).trans c1⟩
      clear hg hpe hdst hcs
      have hkr := far_root HC.out (HD.out r)
      have hrk : r ≠ k := by
        rintro rfl
        omega
      have HRK : Hid _ := hrk
      have HKF : Hid _ := hkf
      clear hkr hrk hkf
      go_wp2_with (fail)
      obtain ⟨W4, hW4⟩ : ∃ W4, wr.alloc (.cells Z 79) = W4 := ⟨_, rfl⟩
      have k4 : Below wr.heap.size wr W4 := by rw [← hW4]; exact below_alloc _ _
      have hN : Blk W4 wr.heap.size (bC fun _ => false) 79 := by rw [← hW4, HZ.out]; exact Blk.new _ _ _
      rw [hW4]
      obtain ⟨N, hNe⟩ : ∃ N, wr.heap.size = N := ⟨_, rfl⟩
      rw [hNe] at hN
      have HlN : Hid (w3.heap.size ≤ N) := by show _ ≤ _; rw [← hNe]; exact HB.out.size
      have HB4 : Hid (Below w3.heap.size w3 W4) := below_chain HB.out k4
      rw [hNe]
      have HN : Hid _ := hN
      clear hW4 k4 hNe hN HB
      go_loopw [8, 9] (fun v f wr => ∃ (at' : Nat) (ff : Int) (bn : Nat → Bool), v = .int .i64 at' ∧ f = .int .i64 ff ∧ 0 ≤ ff ∧ ff + rest C at' k = farF C r k ∧ (at' = k ∨ 0 < farF C at' k) ∧ (1 ≤ at' ∧ at' ≤ 6) ∧ (∀ y, bn y = true → rest C at' k < farF C y k) ∧ Blk wr N (bC bn) 79 ∧ Below w3.heap.size w3 wr) (fun v _ _ => (rest C (intOf v).toNat k).toNat)
      case atStart => exact ⟨r, 0, fun _ => false, rfl, rfl, Int.le_refl _, by rw [rest, if_neg HRK.out]; omega, .inr HKF.out, ⟨by omega, by omega⟩, (fun y hy => by cases hy), HN.out, HB4.out⟩
      case round =>
        clear HN HB4
        obtain ⟨at', ff, bn, rfl, rfl, hff, hsum, hknown, hin, hbn, hN, hbel⟩ := hrel
        obtain ⟨c0, c1⟩ := HCE.out wr hbel
        by_cases hak : at' = k
        · subst hak
          have hne : ((at' : Int) != (at' : Int)) = false := by simp
          have hfe : ff = farF C r at' := by rw [rest, if_pos rfl] at hsum; omega
          subst hfe
          have hne2 : (farF C r at' != farF C r at') = false := by simp
          have HB : Hid _ := hbel
          clear hbel hN hbn hsum
          generalize farF C r at' = fz at c1 hne2 ⊢
          go_wp2_with (fail)
          go_roundw
          case rel => exact ⟨i + 1, by omega, by go_num, HB.out⟩
          case measure => simp [intOf]; omega
        · have hne : ((at' : Int) != (k : Int)) = true := by
            have : ¬ (at' : Int) = (k : Int) := by omega
            simpa using this
          have hkn : 0 < farF C at' k := hknown.resolve_left hak
          obtain ⟨f, hf1, hf2, hf3, hf4, hf5, hf6⟩ := far_next HC.out HD.out at' k hkn
          have hfi := HI.out at' f hf2
          have hbf : bn at' = false := by
            cases e : bn at' with
            | false => rfl
            | true =>
              have := hbn at' e
              rw [rest, if_neg hak] at this
              omega
          have hres : rest C at' k = C at' f + rest C f k := by rw [rest, if_neg hak, hf6]; rfl
          have n0 : wr.cell? ⟨N, at', none⟩ = some (.bool false) := (hN.cell at').trans (by rw [bC_get bn at' (by omega), hbf])
          have n1 := hN.frozen at'
          have lN := hN.lt
          have ha7 : (at' : Int) < 7 := by omega
          have hto := to_hops HC.out (HD.out at') k hk7
          rw [if_pos hkn] at hto
          have hhg := fun W hW => HHO.out at' W hin.1 hin.2 hW
          have hLa : (hopsL C at').length ≤ 7 := lstF_length _ 7
          obtain ⟨La, hLae⟩ : ∃ La, hopsL C at' = La := ⟨_, rfl⟩
          rw [hLae] at hhg hto hLa
          have HHG : Hid _ := hhg
          have HTO : Hid (∀ b c W, HsR W b La.length La → Calls Try.prog 40 #[.slice b La.length c, .int .i64 (k : Int)] W fun e w' => e = .returned (.tuple #[.agg #[.int .i64 (roundsF C at' 6 k).dst, .int .i64 (roundsF C at' 6 k).far, .int .i64 (f : Int)], .bool true]) ∧ Below W.heap.size W w') := by
            intro b c W hW
            have := to_any b La.length c La (k : Int) W hW (by omega)
            rw [hto] at this
            simp only [Option.getD_some, Option.isSome_some, hf1] at this
            exact this
          clear hLae hhg hto hf1
          generalize (roundsF C at' 6 k).dst = q0 at HTO
          generalize (roundsF C at' 6 k).far = q1 at HTO
          have HN5 : Hid (Blk (wr.setCell ⟨N, at', none⟩ (.bool true)) N (bC (updB bn at')) 79) := by show Blk _ _ _ _; rw [← bC_set]; exact hN.set at' _
          have HB5 : Hid (Below w3.heap.size w3 (wr.setCell ⟨N, at', none⟩ (.bool true))) := Below.setCell hbel HlN.out _
          have hcb := HFB.out r k
          have HM : Hid (0 ≤ C at' f ∧ rest C f k < rest C at' k ∧ ff + C at' f + rest C f k = farF C r k ∧ ff + C at' f ≤ 5900 ∧ 0 < C at' f) := by
            have h9 : 0 ≤ rest C f k := by unfold rest; split; exact Int.le_refl _; exact far_nn HC.out (HD.out f) k
            refine ⟨by omega, by omega, by omega, by omega, hf2⟩
          have HBN : Hid (∀ y, updB bn at' y = true → rest C f k < farF C y k) := by
            intro y hy
            have h9 := HM.out.2.1
            simp only [updB] at hy
            by_cases e : y = at'
            · subst e
              have e9 : rest C y k = farF C y k := by rw [rest, if_neg hak]
              rw [e9] at h9
              exact h9
            · rw [if_neg e] at hy
              have := hbn y hy
              omega
          have HKN : Hid (f = k ∨ 0 < farF C f k) := by
            by_cases e : f = k
            · exact .inl e
            · exact .inr (hf5 e)
          have HFI : Hid _ := hfi.2
          obtain ⟨V, hV⟩ : ∃ V, wr.setCell ⟨N, at', none⟩ (.bool true) = V := ⟨_, rfl⟩
          rw [hV] at HN5 HB5
          have HVe : Hid _ := hV
          have KW : Below w.heap.size w V := below_chain HB3.out HB5.out
          have KD : Below w.heap.size w V.drew := below_drewN KW 1
          have KA : Below w.heap.size w (V.alloc (.cells #[.int .i64 0, .int .i64 0, .int .i64 0] 73)).drew := below_drewN (KW.alloc KW.size _) 1
          have KDV : Below V.heap.size V V.drew := below_drewN (Below.refl _ _) 1
          have F0 := (HCE.out _ (below_drewN HB5.out 1)).1
          clear hV hknown hbn hsum hak hkn hf2 hf3 hf4 hf5 hf6 hfi hbf hres hN hbel c1 hcb
          go_upto_region 17 with fail
          rw [HVe.out]
          have HKD : Hid (Below w3.heap.size w3 V.drew) := below_drewN HB5.out 1
          have HKA : Hid (Below w3.heap.size w3 (V.alloc (.cells #[.int .i64 0, .int .i64 0, .int .i64 0] 73)).drew) := below_drewN (Below.alloc HB5.out HB5.out.size _) 1
          have FA := (HCE.out _ HKA.out).1
          have HNL : Hid (N < V.heap.size) := Blk.lt HN5.out
          go_cut [11, 12] (fun p z wx => (∃ Y, p = .pointer (some ⟨Y, 0, none⟩) ∧ wx.cell? ⟨Y, 2, none⟩ = some (.int .i64 (f : Int))) ∧ z = .bool true ∧ Below w3.heap.size w3 wx ∧ Blk wx N (bC (updB bn at')) 79)
          case first =>
            go_region_held3 (fun x => x.cell? ⟨hb', ho + i * 3, none⟩ = some (.int .i64 (k : Int)))
              (first | assumption | exact F0 | exact FA | exact F1 | exact F1a | exact F2 | exact F2a | exact F2b | exact F2s | exact F2t)
              (first
                | (go_at_call 37; refine (HHG.out _ KD).mono ?_; rintro e w5 ⟨b5, c5, rfl, r5, k5⟩; have B5 : Below w3.heap.size w3 w5 := below_chain HKD.out k5; have F1 := (HCE.out w5 B5).1; have F1a := (HCE.out _ (B5.alloc B5.size (.cells #[.int .i64 0, .int .i64 0, .int .i64 0] 73))).1; have N5 : Blk w5 N (bC (updB bn at')) 79 := Blk.below (Blk.drewN HN5.out 1) k5)
                | (go_at_call 37; refine (HHG.out _ KA).mono ?_; rintro e w5 ⟨b5, c5, rfl, r5, k5⟩; have B5 : Below w3.heap.size w3 w5 := below_chain HKA.out k5; have F1 := (HCE.out w5 B5).1; have N5 : Blk w5 N (bC (updB bn at')) 79 := Blk.below (Blk.drewN (Blk.below HN5.out (below_alloc _ _)) 1) k5; have hy : Blk w5 V.heap.size #[.int .i64 0, .int .i64 0, .int .i64 0] 73 := Blk.below (Blk.drewN (Blk.new V _ _) 1) k5)
                | (go_at_call 40; refine (HTO.out _ _ _ r5).mono ?_; rintro e w6 ⟨rfl, k6⟩; have B6 := below_chain B5 k6; have F2 := (HCE.out w6 B6).1; have F2a := (HCE.out _ (B6.alloc B6.size (.cells #[.int .i64 0, .int .i64 0, .int .i64 0] 73))).1; have N6 := Blk.below N5 k6; have F2b := (HCE.out _ (B6.alloc B6.size (.cells #[.int .i64 q0, .int .i64 q1, .int .i64 (f : Int)] 73))).1; have F2t := (HCE.out _ (((B6.setCell (p := ⟨V.heap.size, 0, none⟩) HB5.out.size (.int .i64 q0)).setCell (p := ⟨V.heap.size, 1, none⟩) HB5.out.size (.int .i64 q1)).setCell (p := ⟨V.heap.size, 2, none⟩) HB5.out.size (.int .i64 (f : Int)))).1; try (have hy6 := Blk.below hy k6; have y0 := hy6.cell 0; have y1 := hy6.cell 1; have y2 := hy6.cell 2; have f0 := hy6.frozen 0; have f1 := hy6.frozen 1; have f2 := hy6.frozen 2; have ly := hy6.lt))
                | (go_at_call 40; refine (HTO.out _ _ _ (r5.below (below_alloc _ _))).mono ?_; rintro e w6 ⟨rfl, k6⟩; have B6 := below_chain (B5.alloc B5.size (.cells #[.int .i64 0, .int .i64 0, .int .i64 0] 73)) k6; have F2 := (HCE.out w6 B6).1; have F2s := (HCE.out _ (((B6.setCell (p := ⟨w5.heap.size, 0, none⟩) B5.size (.int .i64 q0)).setCell (p := ⟨w5.heap.size, 1, none⟩) B5.size (.int .i64 q1)).setCell (p := ⟨w5.heap.size, 2, none⟩) B5.size (.int .i64 (f : Int)))).1; have N6 := Blk.below (Blk.below N5 (below_alloc _ (.cells #[.int .i64 0, .int .i64 0, .int .i64 0] 73))) k6; have hy6 : Blk w6 w5.heap.size #[.int .i64 0, .int .i64 0, .int .i64 0] 73 := Blk.below (Blk.new w5 _ _) k6; have y0 := hy6.cell 0; have y1 := hy6.cell 1; have y2 := hy6.cell 2; have f0 := hy6.frozen 0; have f1 := hy6.frozen 1; have f2 := hy6.frozen 2; have ly := hy6.lt))
            all_goals
              go_wp2_with (fail)
              go_meet
              first
                | exact ⟨⟨_, rfl, Blk.cell (Blk.new w6 #[.int .i64 q0, .int .i64 q1, .int .i64 (f : Int)] 73) 2⟩, rfl, B6.alloc B6.size _, Blk.below N6 (below_alloc _ _)⟩
                | exact ⟨⟨_, rfl, (Blk.cell (Blk.set (Blk.set (Blk.set hy6 0 (.int .i64 q0)) 1 (.int .i64 q1)) 2 (.int .i64 (f : Int))) 2).trans rfl⟩, rfl, Below.setCell (Below.setCell (Below.setCell B6 (by show w3.heap.size ≤ w5.heap.size; exact B5.size) _) (by show w3.heap.size ≤ w5.heap.size; exact B5.size) _) (by show w3.heap.size ≤ w5.heap.size; exact B5.size) _, Blk.other (Blk.other (Blk.other N6 (Nat.ne_of_lt (Blk.lt N5)) _) (Nat.ne_of_lt (Blk.lt N5)) _) (Nat.ne_of_lt (Blk.lt N5)) _⟩
                | exact ⟨⟨_, rfl, (Blk.cell (Blk.set (Blk.set (Blk.set hy6 0 (.int .i64 q0)) 1 (.int .i64 q1)) 2 (.int .i64 (f : Int))) 2).trans rfl⟩, rfl, Below.setCell (Below.setCell (Below.setCell B6 (by show w3.heap.size ≤ V.heap.size; exact HB5.out.size) _) (by show w3.heap.size ≤ V.heap.size; exact HB5.out.size) _) (by show w3.heap.size ≤ V.heap.size; exact HB5.out.size) _, Blk.other (Blk.other (Blk.other N6 (Nat.ne_of_lt HNL.out) _) (Nat.ne_of_lt HNL.out) _) (Nat.ne_of_lt HNL.out) _⟩
          case rest =>
            obtain ⟨⟨Y, rfl, yc⟩, rfl, hB7, hN7⟩ := hcut
            obtain ⟨W7, rfl⟩ : ∃ W7, W7 = wc := ⟨_, rfl⟩
            have he := HED.out at' f W7 (below_chain HB3.out hB7)
            have lY : Y < W7.heap.size := World.block_lt_of_cell? W7 _ yc
            obtain ⟨fi1, fi2⟩ := HFI.out
            have g1 : ¬ (f : Int) < 1 := by omega
            have g2 : ¬ 6 < (f : Int) := by omega
            obtain ⟨m1, m2, m3, m4, m5⟩ := HM.out
            have HM2 : Hid (rest C f k < rest C at' k ∧ ff + C at' f + rest C f k = farF C r k) := ⟨m2, m3⟩
            have HB7 : Hid _ := hB7
            have HN7 : Hid _ := hN7
            have HR0 : Hid (0 ≤ rest C f k) := by show 0 ≤ _; unfold rest; split; exact Int.le_refl _; exact far_nn HC.out (HD.out f) k
            clear hB7 hN7 KW KD KA KDV F0 FA m2 m3 HM HTO HHG HKD HKA HNL n0 n1 lN c0 HVe HN5 HB5
            generalize C at' f = cf at he m1 m4 m5 HM2
            go_wp2_with (fail)
            refine he.mono ?_
            rintro e w8 ⟨rfl, k8⟩
            have yc8 := (k8.cell (p := ⟨Y, 2, none⟩) lY).trans yc
            have HB8 : Hid _ := below_chain HB7.out k8
            have HN8 : Hid _ := Blk.below HN7.out k8
            clear he k8 yc
            go_wp2_with (fail)
            go_roundw
            case rel => exact ⟨f, ff + cf, updB bn at', rfl, by go_num, by omega, HM2.out.2, HKN.out, ⟨fi1, fi2⟩, HBN.out, HN8.out, HB8.out⟩
            case measure =>
              have h9 := HM2.out.1
              have h8 := HR0.out
              simp [intOf]
              omega
    · have hil' : ¬ (i : Int) < (ln : Int) := by omega
      go_wp2_with (fail)
      go_ret
      exact ⟨rfl, below_chain HB3.out HB.out⟩
end topWay
end Go.Proofs.Ytielnomhdahciaa
