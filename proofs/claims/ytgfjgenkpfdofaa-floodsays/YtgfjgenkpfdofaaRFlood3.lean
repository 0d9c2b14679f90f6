/-
  The document's base of states: Take.
-/
import Derived.Test.YtgfjgenkpfdofaaRFlood2
import Derived.Test.YtgfjgenkpfdofaaStRNewer
namespace Go.Proofs.Ytgfjgenkpfdofaa
open Go.RowKit St

set_option maxRecDepth 100000 in
set_option maxHeartbeats 4000000 in
theorem rtake_port (M g ports : Nat) (K : Nat → SV) (O : Nat → Nat → Bool) (p own seq : Int) (a : Option Addr) (n cap : Nat) (w : World) (h : RB w M g ports K O) (hp : ¬ (0 ≤ p ∧ p < (ports : Int))) :
    Calls Try.prog 11 #[.pointer (some ⟨M, 0, none⟩), .int .i64 p, .agg #[.int .i64 own, .int .i64 seq, .slice a n cap]] w fun e w' => e = .returned (.tuple #[.int .i64 0, .int .i64 1]) ∧ Below w.heap.size w w' := by
  have kb := below_alloc w (.cells #[.int .i64 own, .int .i64 seq, .slice a n cap] 35)
  have c21 := (h.below kb).owed
  have lM := (h.below kb).k.lt
  have main : ∀ Q : Prop, (p < 0 → Q) → (¬ p < 0 → (ports : Int) ≤ p → Q) → Q := fun Q q1 q2 => by
    by_cases e : p < 0
    · exact q1 e
    · exact q2 e (by omega)
  clear h hp
  refine main _ ?_ ?_ <;> clear main
  all_goals
    intros
    go_enter Try.func11, Try.ntmps11
    go_wp2_with (fail)
    go_ret2
    exact ⟨rfl, kb⟩
set_option maxRecDepth 100000 in
set_option maxHeartbeats 4000000 in
theorem rtake_bad (M g ports : Nat) (K : Nat → SV) (O : Nat → Nat → Bool) (p : Nat) (own seq : Int) (a : Option Addr) (n cap : Nat) (es : List Opt) (w : World) (h : RB w M g ports K O) (hp : p < ports) (hn : n ≤ maxLen) (ho : OptR w a n es) (hf : stF own seq es ≠ 0) :
    Calls Try.prog 11 #[.pointer (some ⟨M, 0, none⟩), .int .i64 (p : Int), .agg #[.int .i64 own, .int .i64 seq, .slice a n cap]] w fun e w' => e = .returned (.tuple #[.int .i64 0, .int .i64 (stF own seq es : Int)]) ∧ Below w.heap.size w w' := by
  have kb := below_alloc w (.cells #[.int .i64 own, .int .i64 seq, .slice a n cap] 35)
  have c21 := (h.below kb).owed
  have lM := (h.below kb).k.lt
  have hp0 : ¬ (p : Int) < 0 := by omega
  have hp1 : ¬ (ports : Int) ≤ (p : Int) := by omega
  have hfa := fault_any own seq a n cap es _ hn (ho.below kb)
  have hz : (0 : Int) < ((stF own seq es : Nat) : Int) := by omega
  obtain ⟨z, hze⟩ : ∃ z, ((stF own seq es : Nat) : Int) = z := ⟨_, rfl⟩
  rw [hze] at hfa hz
  rw [hze]
  clear hze hf h
  go_enter Try.func11, Try.ntmps11
  go_wp2_with (fail)
  refine hfa.mono ?_
  rintro e w1 ⟨rfl, k1⟩
  have HK : Hid _ := below_chain kb k1
  clear hfa kb k1
  go_wp2_with (fail)
  go_ret2
  exact ⟨rfl, HK.out⟩
/-- What Take leaves owed. -/
def takO (O : Nat → Nat → Bool) (ports p o : Nat) (r : Int) (x y : Nat) : Bool := updO (fun x y => if r = 1 then setO O ports o x y else O x y) p o (decide (r < 0)) x y
/-- What Take leaves known. -/
def takK (K : Nat → SV) (o : Nat) (s : SV) (r : Int) : Nat → SV := if r = 1 then updS K o s else K
/-- How new, beside what is known. -/
def rNew (K : Nat → SV) (o : Nat) (seq : Int) (es fs : List Opt) : Int := if 0 < (K o).seq then newS seq es (K o).seq fs else 1

set_option maxRecDepth 100000 in
set_option maxHeartbeats 8000000 in
theorem rtake_ok (M g ports : Nat) (K : Nat → SV) (O : Nat → Nat → Bool) (p o : Nat) (seq : Int) (a : Option Addr) (n cap : Nat) (es fs : List Opt) (w : World) (h : RB w M g ports K O) (hp : p < ports) (hports : ports ≤ 3) (ho : OptR w a n es) (hfs : OptR w (K o).a (K o).n fs) (hfv : ∀ e ∈ fs, (1 ≤ e.1 ∧ e.1 ≤ 6) ∧ (1 ≤ e.2 ∧ e.2 ≤ 20)) (hf : stF (o : Int) seq es = 0) :
    Calls Try.prog 11 #[.pointer (some ⟨M, 0, none⟩), .int .i64 (p : Int), .agg #[.int .i64 (o : Int), .int .i64 seq, .slice a n cap]] w fun e w' => e = .returned (.tuple #[.int .i64 (rNew K o seq es fs), .int .i64 0]) ∧
      (∃ O', RB w' M g ports (takK K o ⟨(o : Int), seq, a, n, cap⟩ (rNew K o seq es fs)) O' ∧ (∀ x y, O' x y = takO O ports p o (rNew K o seq es fs) x y)) ∧ KeptR w w' M g := by
  have hso := (stF_zero hf).1
  have h6 := (stF_zero hf).2.2.1
  have hn : n ≤ maxLen := by have := ho.1; unfold maxLen; omega
  have hn6 : n ≤ 6 := by have := ho.1; omega
  have ho7 : (o : Int) < 7 := by omega
  have hp0 : ¬ (p : Int) < 0 := by omega
  have hp1 : ¬ (ports : Int) ≤ (p : Int) := by omega
  have hp2 : (p : Int) < (ports : Int) := by omega
  have kb := below_alloc w (.cells #[.int .i64 (o : Int), .int .i64 seq, .slice a n cap] 35)
  have hfa := fault_any (o : Int) seq a n cap es _ hn (ho.below kb)
  rw [hf] at hfa
  have hX0 := Blk.new w #[.int .i64 (o : Int), .int .i64 seq, .slice a n cap] 35
  have hR0 := h.below kb
  have c21 := hR0.owed
  have lM0 := hR0.k.lt
  obtain ⟨X, hXe⟩ : ∃ X, w.heap.size = X := ⟨_, rfl⟩
  have hMX : M < X ∧ g < X := ⟨by rw [← hXe]; exact h.k.lt, by rw [← hXe]; exact h.o.lt⟩
  have HXe : Hid _ := hXe
  have HHf : Hid _ := hf
  clear hf h6 h hXe
  go_enter Try.func11, Try.ntmps11
  go_wp2_with (fail)
  refine hfa.mono ?_
  rintro e w1 ⟨rfl, k1⟩
  have kb1 := below_chain kb k1
  have hX := hX0.below k1
  have hR := hR0.below k1
  rw [HXe.out] at hX
  rw [HXe.out]
  obtain ⟨q0, q1, q2⟩ := kC_get K (.slice (some ⟨g, 0, none⟩) ports ports) o (by omega)
  have HM : Hid (∀ W, Blk W M (kC K (.slice (some ⟨g, 0, none⟩) ports ports)) 38 → W.cell? ⟨M, o * 3, none⟩ = some (.int .i64 (K o).own) ∧ W.cell? ⟨M, o * 3 + 1, none⟩ = some (.int .i64 (K o).seq) ∧ W.cell? ⟨M, o * 3 + 2, none⟩ = some (.slice (K o).a (K o).n (K o).cap)) :=
    fun W hW => ⟨(hW.cell _).trans q0, (hW.cell _).trans q1, (hW.cell _).trans q2⟩
  have HR : Hid _ := hR
  have HX : Hid _ := hX
  have HKB : Hid _ := kb1
  clear hfa kb k1 hX0 hR0 hX hR q0 q1 q2 c21 lM0
  have HO : Hid (∀ W, Below w1.heap.size w1 W → OptR W a n es) := fun W hW => (ho.below HKB.out).below hW
  have HFS : Hid (∀ W, Below w1.heap.size w1 W → OptR W (K o).a (K o).n fs) := fun W hW => (hfs.below HKB.out).below hW
  have x0 : w1.cell? ⟨X, 0, none⟩ = some (.int .i64 (o : Int)) := Blk.cell HX.out 0
  have m1 := (HM.out w1 HR.out.k).2.1
  have lM := HR.out.k.lt
  have lX := Blk.lt HX.out
  clear ho hfs
  by_cases hk : 0 < (K o).seq
  · have HRV : Hid (rNew K o seq es fs = newS seq es (K o).seq fs) := by show _ = _; rw [rNew, if_pos hk]
    have hes := edgF_all _ es 0 (stF_zero HHf.out).2.2.2
    have HNW : Hid (∀ W, Below w1.heap.size w1 W → Calls Try.prog 31 #[.agg #[.int .i64 (o : Int), .int .i64 seq, .slice a n cap], .agg #[.int .i64 (K o).own, .int .i64 (K o).seq, .slice (K o).a (K o).n (K o).cap]] W fun e w' => e = .returned (.int .i64 (newS seq es (K o).seq fs)) ∧ Below W.heap.size W w') :=
      fun W hW => rnewer_any _ _ _ _ _ _ _ _ _ _ _ _ W (HO.out W hW) (HFS.out W hW) (by omega) hes hfv
    have HF : Hid (∀ W, Below w1.heap.size w1 W → (W.cell? ⟨X, 0, none⟩ = some (.int .i64 (o : Int)) ∧ W.cell? ⟨X, 1, none⟩ = some (.int .i64 seq) ∧ W.cell? ⟨X, 2, none⟩ = some (.slice a n cap)) ∧ W.cell? ⟨M, o * 3, none⟩ = some (.int .i64 (K o).own) ∧ W.cell? ⟨M, o * 3 + 1, none⟩ = some (.int .i64 (K o).seq) ∧ W.cell? ⟨M, o * 3 + 2, none⟩ = some (.slice (K o).a (K o).n (K o).cap)) := by
      intro W hW
      have q := Blk.below HX.out hW
      exact ⟨⟨Blk.cell q 0, Blk.cell q 1, Blk.cell q 2⟩, HM.out W (HR.out.k.below hW)⟩
    have hr3 := newS_three seq (K o).seq es fs
    generalize newS seq es (K o).seq fs = r at HRV HNW hr3
    generalize (K o).own = ko at HNW HF
    generalize (K o).seq = kq at m1 hk HNW HF
    generalize (K o).a = ka at HNW HF
    generalize (K o).n = kn at HNW HF
    generalize (K o).cap = kc at HNW HF
    clear hes
    go_upto_region 7 with fail
    go_quiet (fail)
    go_upto_region 8 with fail
    obtain ⟨W2, hW2⟩ : ∃ W2, w1.drewN nq = W2 := ⟨_, rfl⟩
    have kW : Below w1.heap.size w1 W2 := by rw [← hW2]; exact below_drewN (Below.refl _ _) _
    rw [hW2]
    have KD : Below w1.heap.size w1 W2.drew := below_drewN kW 1
    have F0 := HF.out _ KD
    clear hW2 x0 m1 lM lX kW
    go_region_held3 (fun x => (x.cell? ⟨X, 0, none⟩ = some (.int .i64 (o : Int)) ∧ x.cell? ⟨X, 1, none⟩ = some (.int .i64 seq) ∧ x.cell? ⟨X, 2, none⟩ = some (.slice a n cap)) ∧ x.cell? ⟨M, o * 3, none⟩ = some (.int .i64 ko) ∧ x.cell? ⟨M, o * 3 + 1, none⟩ = some (.int .i64 kq) ∧ x.cell? ⟨M, o * 3 + 2, none⟩ = some (.slice ka kn kc))
      (first | assumption | exact F0 | exact F1)
      ((go_at_call 31; refine (HNW.out _ KD).mono ?_; rintro e W5 ⟨rfl, k5⟩; have F1 := HF.out _ (below_chain KD k5)))
    have k15 := below_chain KD k5
    clear F0 F1 k5 KD
    by_cases hr1 : r = 1
    · have HRN : Hid (rNew K o seq es fs = 1) := by show _ = _; rw [HRV.out, hr1]
      subst hr1
      clear hr3
      have hset := rset_ok M g ports K O o seq a n cap es W5 (HR.out.below k15) hports (HO.out W5 k15) HHf.out
      have x0 : W5.cell? ⟨X, 0, none⟩ = some (.int .i64 (o : Int)) := Blk.cell (Blk.below HX.out k15) 0
      have x1 : W5.cell? ⟨X, 1, none⟩ = some (.int .i64 seq) := Blk.cell (Blk.below HX.out k15) 1
      have x2 : W5.cell? ⟨X, 2, none⟩ = some (.slice a n cap) := Blk.cell (Blk.below HX.out k15) 2
      have HKx : Hid _ := k15
      go_wp2_with (fail)
      refine hset.mono ?_
      rintro e w3 ⟨rfl, ⟨O1, hR3, hO1⟩, kr3⟩
      have hX3 : Blk w3 X #[.int .i64 (o : Int), .int .i64 seq, .slice a n cap] 35 := Blk.keep (Blk.below HX.out HKx.out) (kr3.block X (Blk.lt (Blk.below HX.out HKx.out)) (by omega) (by omega))
      have y0 : w3.cell? ⟨X, 0, none⟩ = some (.int .i64 (o : Int)) := hX3.cell 0
      have c21 := hR3.owed
      have o1 := (hR3.o.cell (p * 7 + o)).trans (oC_get ports O1 p o hp (by omega))
      have o2 := hR3.o.frozen (p * 7 + o)
      have lM3 := hR3.k.lt
      have lg3 := hR3.o.lt
      have HR3 : Hid _ := hR3
      have HO1 : Hid _ := hO1
      have HK3 : Hid (KeptR w w3 M g) := KeptR.trans (KeptR.of_below M g (below_chain HKB.out HKx.out)) kr3
      clear hset x0 x1 x2 hR3 hO1 kr3 hX3
      go_wp2_with (fail)
      go_region
      all_goals
        go_wp2_with (fail)
        go_ret2
        refine ⟨by rw [HRN.out]; rfl, ⟨updO O1 p o false, ?_, fun x y => ?_⟩, KeptR.drewN (KeptR.setCell HK3.out (.inr rfl) _) 1⟩
        · rw [HRN.out, takK, if_pos rfl]
          refine ⟨Blk.drewN (Blk.other HR3.out.k HR3.out.ne _) 1, ?_, HR3.out.ne⟩
          rw [← oC_set _ _ _ _ _ (by omega)]
          exact Blk.drewN (Blk.set HR3.out.o _ _) 1
        · rw [HRN.out]
          simp only [takO, updO]
          by_cases e : x = p ∧ y = o
          · rw [if_pos e, if_pos e]
            rfl
          · rw [if_neg e, if_neg e, HO1.out x y]
            rfl
    · have hr1' : (r == 1) = false := by simpa using hr1
      have hX3 := Blk.below HX.out k15
      have hR3 := HR.out.below k15
      have y0 : W5.cell? ⟨X, 0, none⟩ = some (.int .i64 (o : Int)) := hX3.cell 0
      have c21 := hR3.owed
      have o1 := (hR3.o.cell (p * 7 + o)).trans (oC_get ports O p o hp (by omega))
      have o2 := hR3.o.frozen (p * 7 + o)
      have lM3 := hR3.k.lt
      have lg3 := hR3.o.lt
      have HR3 : Hid _ := hR3
      have HR1 : Hid _ := hr1
      have HK3 : Hid (KeptR w W5 M g) := KeptR.of_below M g (below_chain HKB.out k15)
      clear hR3 hX3 hr1 hr3 k15
      go_wp2_with (fail)
      go_region
      all_goals
        go_wp2_with (fail)
        go_ret2
        refine ⟨by rw [HRV.out]; rfl, ⟨updO O p o (decide (r < 0)), ?_, fun x y => ?_⟩, KeptR.drewN (KeptR.setCell HK3.out (.inr rfl) _) 1⟩
        · rw [HRV.out, takK, if_neg HR1.out]
          refine ⟨Blk.drewN (Blk.other HR3.out.k HR3.out.ne _) 1, ?_, HR3.out.ne⟩
          rw [← oC_set _ _ _ _ _ (by omega)]
          exact Blk.drewN (Blk.set HR3.out.o _ _) 1
        · rw [HRV.out]
          simp only [takO, updO]
          rw [if_neg HR1.out]
  · have HRN : Hid (rNew K o seq es fs = 1) := by show _ = _; rw [rNew, if_neg hk]
    generalize (K o).seq = kq at m1 hk
    go_upto_region 7 with fail
    go_quiet (fail)
    obtain ⟨W2, hW2⟩ : ∃ W2, w1.drewN nq = W2 := ⟨_, rfl⟩
    have kW : Below w1.heap.size w1 W2 := by rw [← hW2]; exact below_drewN (Below.refl _ _) _
    rw [hW2]
    clear hW2 x0 m1 lM lX
    have hset := rset_ok M g ports K O o seq a n cap es W2 (HR.out.below kW) hports (HO.out W2 kW) HHf.out
    have x0 : W2.cell? ⟨X, 0, none⟩ = some (.int .i64 (o : Int)) := Blk.cell (Blk.below HX.out kW) 0
    have x1 : W2.cell? ⟨X, 1, none⟩ = some (.int .i64 seq) := Blk.cell (Blk.below HX.out kW) 1
    have x2 : W2.cell? ⟨X, 2, none⟩ = some (.slice a n cap) := Blk.cell (Blk.below HX.out kW) 2
    have HKx : Hid _ := kW
    go_wp2_with (fail)
    refine hset.mono ?_
    rintro e w3 ⟨rfl, ⟨O1, hR3, hO1⟩, kr3⟩
    have hX3 : Blk w3 X #[.int .i64 (o : Int), .int .i64 seq, .slice a n cap] 35 := Blk.keep (Blk.below HX.out HKx.out) (kr3.block X (Blk.lt (Blk.below HX.out HKx.out)) (by omega) (by omega))
    have y0 : w3.cell? ⟨X, 0, none⟩ = some (.int .i64 (o : Int)) := hX3.cell 0
    have c21 := hR3.owed
    have o1 := (hR3.o.cell (p * 7 + o)).trans (oC_get ports O1 p o hp (by omega))
    have o2 := hR3.o.frozen (p * 7 + o)
    have lM3 := hR3.k.lt
    have lg3 := hR3.o.lt
    have HR3 : Hid _ := hR3
    have HO1 : Hid _ := hO1
    have HK3 : Hid (KeptR w w3 M g) := KeptR.trans (KeptR.of_below M g (below_chain HKB.out HKx.out)) kr3
    clear hset x0 x1 x2 hR3 hO1 kr3 hX3
    go_wp2_with (fail)
    go_region
    all_goals
      go_wp2_with (fail)
      go_ret2
      refine ⟨by rw [HRN.out]; rfl, ⟨updO O1 p o false, ?_, fun x y => ?_⟩, KeptR.drewN (KeptR.setCell HK3.out (.inr rfl) _) 1⟩
      · rw [HRN.out, takK, if_pos rfl]
        refine ⟨Blk.drewN (Blk.other HR3.out.k HR3.out.ne _) 1, ?_, HR3.out.ne⟩
        rw [← oC_set _ _ _ _ _ (by omega)]
        exact Blk.drewN (Blk.set HR3.out.o _ _) 1
      · rw [HRN.out]
        simp only [takO, updO]
        by_cases e : x = p ∧ y = o
        · rw [if_pos e, if_pos e]
          rfl
        · rw [if_neg e, if_neg e, HO1.out x y]
          rfl
end Go.Proofs.Ytgfjgenkpfdofaa
