/-
  The document's base of states: Heard, Part.
-/
import Derived.Test.YtgfjgenkpfdofaaRFlood3
namespace Go.Proofs.Ytgfjgenkpfdofaa
open Go.RowKit St

set_option maxRecDepth 100000 in
set_option maxHeartbeats 4000000 in
theorem rheard_port (M g ports : Nat) (K : Nat → SV) (O : Nat → Nat → Bool) (p own seq : Int) (a : Option Addr) (n cap : Nat) (w : World) (h : RB w M g ports K O) (hp : ¬ (0 ≤ p ∧ p < (ports : Int))) :
    Calls Try.prog 13 #[.pointer (some ⟨M, 0, none⟩), .int .i64 p, .agg #[.int .i64 own, .int .i64 seq, .slice a n cap]] w fun e w' => e = .returned (.int .i64 1) ∧ Below w.heap.size w w' := by
  have kb := below_alloc w (.cells #[.int .i64 own, .int .i64 seq, .slice a n cap] 35)
  have c21 := (h.below kb).owed
  have lM := (h.below kb).k.lt
  have main : ∀ Q : Prop, (p < 0 → Q) → (¬ p < 0 → (ports : Int) ≤ p → Q) → Q := fun Q q1 q2 => by
    by_cases e : p < 0
    · exact q1 e
    · exact q2 e (by omega)
  clear h hp
  refine main _ ?_ ?_ <;> clear main
  all_goals
    intros
    go_enter Try.func13, Try.ntmps13
    go_wp2_with (fail)
    go_ret
    exact ⟨rfl, kb⟩
set_option maxRecDepth 100000 in
set_option maxHeartbeats 4000000 in
theorem rheard_bad (M g ports : Nat) (K : Nat → SV) (O : Nat → Nat → Bool) (p : Nat) (own seq : Int) (a : Option Addr) (n cap : Nat) (es : List Opt) (w : World) (h : RB w M g ports K O) (hp : p < ports) (hn : n ≤ maxLen) (ho : OptR w a n es) (hf : stF own seq es ≠ 0) :
    Calls Try.prog 13 #[.pointer (some ⟨M, 0, none⟩), .int .i64 (p : Int), .agg #[.int .i64 own, .int .i64 seq, .slice a n cap]] w fun e w' => e = .returned (.int .i64 (stF own seq es : Int)) ∧ Below w.heap.size w w' := by
  have kb := below_alloc w (.cells #[.int .i64 own, .int .i64 seq, .slice a n cap] 35)
  have c21 := (h.below kb).owed
  have lM := (h.below kb).k.lt
  have hp0 : ¬ (p : Int) < 0 := by omega
  have hp1 : ¬ (ports : Int) ≤ (p : Int) := by omega
  have hfa := fault_any own seq a n cap es _ hn (ho.below kb)
  have hz : (0 : Int) < ((stF own seq es : Nat) : Int) := by omega
  obtain ⟨z, hze⟩ : ∃ z, ((stF own seq es : Nat) : Int) = z := ⟨_, rfl⟩
  rw [hze] at hfa hz
  rw [hze]
  clear hze hf h
  go_enter Try.func13, Try.ntmps13
  go_wp2_with (fail)
  refine hfa.mono ?_
  rintro e w1 ⟨rfl, k1⟩
  have HK : Hid _ := below_chain kb k1
  clear hfa kb k1
  go_wp2_with (fail)
  go_ret
  exact ⟨rfl, HK.out⟩
/-- Is it heard of as it is known? -/
def hrd (K : Nat → SV) (o : Nat) (seq : Int) (es fs : List Opt) : Bool := if (K o).seq = 0 then true else decide (newS (K o).seq fs seq es ≤ 0)
def hrdO (O : Nat → Nat → Bool) (p o : Nat) (c : Bool) (x y : Nat) : Bool := if c = true then updO O p o false x y else O x y

set_option maxRecDepth 100000 in
set_option maxHeartbeats 8000000 in
theorem rheard_ok (M g ports : Nat) (K : Nat → SV) (O : Nat → Nat → Bool) (p o : Nat) (seq : Int) (a : Option Addr) (n cap : Nat) (es fs : List Opt) (w : World) (h : RB w M g ports K O) (hp : p < ports) (ho : OptR w a n es) (hfs : OptR w (K o).a (K o).n fs) (hf6 : fs.length ≤ 6) (hfv : ∀ e ∈ fs, (1 ≤ e.1 ∧ e.1 ≤ 6) ∧ (1 ≤ e.2 ∧ e.2 ≤ 20)) (hf : stF (o : Int) seq es = 0) :
    Calls Try.prog 13 #[.pointer (some ⟨M, 0, none⟩), .int .i64 (p : Int), .agg #[.int .i64 (o : Int), .int .i64 seq, .slice a n cap]] w fun e w' => e = .returned (.int .i64 0) ∧
      (∃ O', RB w' M g ports K O' ∧ (∀ x y, O' x y = hrdO O p o (hrd K o seq es fs) x y)) ∧ KeptR w w' M g := by
  have hso := (stF_zero hf).1
  have h6 := (stF_zero hf).2.2.1
  have hn : n ≤ maxLen := by have := ho.1; unfold maxLen; omega
  have hn6 : n ≤ 6 := by have := ho.1; omega
  have hk6 : (K o).n ≤ 6 := by have := hfs.1; omega
  have ho7 : (o : Int) < 7 := by omega
  have hp0 : ¬ (p : Int) < 0 := by omega
  have hp1 : ¬ (ports : Int) ≤ (p : Int) := by omega
  have hp2 : (p : Int) < (ports : Int) := by omega
  have kb := below_alloc w (.cells #[.int .i64 (o : Int), .int .i64 seq, .slice a n cap] 35)
  have hfa := fault_any (o : Int) seq a n cap es _ hn (ho.below kb)
  rw [hf] at hfa
  have hX0 := Blk.new w #[.int .i64 (o : Int), .int .i64 seq, .slice a n cap] 35
  have hR0 := h.below kb
  have c21 := hR0.owed
  have lM0 := hR0.k.lt
  obtain ⟨X, hXe⟩ : ∃ X, w.heap.size = X := ⟨_, rfl⟩
  have hMX : M < X ∧ g < X := ⟨by rw [← hXe]; exact h.k.lt, by rw [← hXe]; exact h.o.lt⟩
  have HXe : Hid _ := hXe
  have HHf : Hid _ := hf
  clear hf h6 h hXe
  go_enter Try.func13, Try.ntmps13
  go_wp2_with (fail)
  refine hfa.mono ?_
  rintro e w1 ⟨rfl, k1⟩
  have kb1 := below_chain kb k1
  have hX := hX0.below k1
  have hR := hR0.below k1
  rw [HXe.out] at hX
  rw [HXe.out]
  obtain ⟨q0, q1, q2⟩ := kC_get K (.slice (some ⟨g, 0, none⟩) ports ports) o (by omega)
  have HM : Hid (∀ W, Blk W M (kC K (.slice (some ⟨g, 0, none⟩) ports ports)) 38 → W.cell? ⟨M, o * 3, none⟩ = some (.int .i64 (K o).own) ∧ W.cell? ⟨M, o * 3 + 1, none⟩ = some (.int .i64 (K o).seq) ∧ W.cell? ⟨M, o * 3 + 2, none⟩ = some (.slice (K o).a (K o).n (K o).cap)) :=
    fun W hW => ⟨(hW.cell _).trans q0, (hW.cell _).trans q1, (hW.cell _).trans q2⟩
  have HR : Hid _ := hR
  have HX : Hid _ := hX
  have HKB : Hid _ := kb1
  have HO : Hid (∀ W, Below w1.heap.size w1 W → OptR W a n es) := fun W hW => (ho.below HKB.out).below hW
  have HFS : Hid (∀ W, Below w1.heap.size w1 W → OptR W (K o).a (K o).n fs) := fun W hW => (hfs.below HKB.out).below hW
  clear hfa kb k1 hX0 hR0 hX hR q0 q1 q2 c21 lM0 kb1 ho hfs
  have x0 : w1.cell? ⟨X, 0, none⟩ = some (.int .i64 (o : Int)) := Blk.cell HX.out 0
  have m1 := (HM.out w1 HR.out.k).2.1
  have lM := HR.out.k.lt
  have lX := Blk.lt HX.out
  by_cases hk : (K o).seq = 0
  · have hk' : ((K o).seq == 0) = true := by simpa using hk
    have HRV : Hid (hrd K o seq es fs = true) := by show _ = _; rw [hrd, if_pos hk]
    generalize (K o).seq = kq at m1 hk'
    clear hk
    go_upto_region 6 with fail
    go_quiet (fail)
    obtain ⟨W5, hW5⟩ : ∃ W5, w1.drewN nq = W5 := ⟨_, rfl⟩
    have k15 : Below w1.heap.size w1 W5 := by rw [← hW5]; exact below_drewN (Below.refl _ _) _
    rw [hW5]
    clear hW5 x0 m1 lM lX
    have hX3 := Blk.below HX.out k15
    have hR3 := HR.out.below k15
    have y0 : W5.cell? ⟨X, 0, none⟩ = some (.int .i64 (o : Int)) := hX3.cell 0
    have c21 := hR3.owed
    have o1 := (hR3.o.cell (p * 7 + o)).trans (oC_get ports O p o hp (by omega))
    have o2 := hR3.o.frozen (p * 7 + o)
    have lM3 := hR3.k.lt
    have lg3 := hR3.o.lt
    have HR3 : Hid _ := hR3
    have HK3 : Hid (KeptR w W5 M g) := KeptR.of_below M g (below_chain HKB.out k15)
    clear hR3 hX3 k15
    go_wp2_with (fail)
    go_region
    all_goals
      go_wp2_with (fail)
      go_ret
      refine ⟨rfl, ⟨updO O p o false, ⟨Blk.drewN (Blk.other HR3.out.k HR3.out.ne _) 1, ?_, HR3.out.ne⟩, fun x y => ?_⟩, KeptR.drewN (KeptR.setCell HK3.out (.inr rfl) _) 1⟩
      · rw [← oC_set _ _ _ _ _ (by omega)]
        exact Blk.drewN (Blk.set HR3.out.o _ _) 1
      · rw [HRV.out]
        rfl
  · have hk' : ((K o).seq == 0) = false := by simpa using hk
    have HRV0 : Hid (hrd K o seq es fs = decide (newS (K o).seq fs seq es ≤ 0)) := by show _ = _; rw [hrd, if_neg hk]
    have hes := edgF_all _ es 0 (stF_zero HHf.out).2.2.2
    have HNW : Hid (∀ W, Below w1.heap.size w1 W → Calls Try.prog 31 #[.agg #[.int .i64 (K o).own, .int .i64 (K o).seq, .slice (K o).a (K o).n (K o).cap], .agg #[.int .i64 (o : Int), .int .i64 seq, .slice a n cap]] W fun e w' => e = .returned (.int .i64 (newS (K o).seq fs seq es)) ∧ Below W.heap.size W w') :=
      fun W hW => rnewer_any _ _ _ _ _ _ _ _ _ _ _ _ W (HFS.out W hW) (HO.out W hW) (by omega) hfv hes
    have HF : Hid (∀ W, Below w1.heap.size w1 W → (W.cell? ⟨X, 0, none⟩ = some (.int .i64 (o : Int)) ∧ W.cell? ⟨X, 1, none⟩ = some (.int .i64 seq) ∧ W.cell? ⟨X, 2, none⟩ = some (.slice a n cap)) ∧ W.cell? ⟨M, o * 3, none⟩ = some (.int .i64 (K o).own) ∧ W.cell? ⟨M, o * 3 + 1, none⟩ = some (.int .i64 (K o).seq) ∧ W.cell? ⟨M, o * 3 + 2, none⟩ = some (.slice (K o).a (K o).n (K o).cap)) := by
      intro W hW
      have q := Blk.below HX.out hW
      exact ⟨⟨Blk.cell q 0, Blk.cell q 1, Blk.cell q 2⟩, HM.out W (HR.out.k.below hW)⟩
    generalize newS (K o).seq fs seq es = r at HRV0 HNW
    generalize (K o).own = ko at HNW HF
    generalize (K o).seq = kq at m1 hk' HNW HF
    generalize (K o).a = ka at HNW HF
    generalize (K o).n = kn at HNW HF
    generalize (K o).cap = kc at HNW HF
    have KD : Below w1.heap.size w1 w1.drew := below_drewN (Below.refl _ _) 1
    have F0 := HF.out _ KD
    clear hes hk x0 m1 lX
    go_upto_region 6 with fail
    go_region_held3 (fun x => (x.cell? ⟨X, 0, none⟩ = some (.int .i64 (o : Int)) ∧ x.cell? ⟨X, 1, none⟩ = some (.int .i64 seq) ∧ x.cell? ⟨X, 2, none⟩ = some (.slice a n cap)) ∧ x.cell? ⟨M, o * 3, none⟩ = some (.int .i64 ko) ∧ x.cell? ⟨M, o * 3 + 1, none⟩ = some (.int .i64 kq) ∧ x.cell? ⟨M, o * 3 + 2, none⟩ = some (.slice ka kn kc))
      (first | assumption | exact F0 | exact F1)
      ((go_at_call 31; refine (HNW.out _ KD).mono ?_; rintro e W5 ⟨rfl, k5⟩; have F1 := HF.out _ (below_chain KD k5)))
    have k15 := below_chain KD k5
    clear F0 F1 k5 KD lM
    by_cases hr : r ≤ 0
    · have HRV : Hid (hrd K o seq es fs = true) := by show _ = _; rw [HRV0.out, decide_eq_true hr]
      have hX3 := Blk.below HX.out k15
      have hR3 := HR.out.below k15
      have y0 : W5.cell? ⟨X, 0, none⟩ = some (.int .i64 (o : Int)) := hX3.cell 0
      have c21 := hR3.owed
      have o1 := (hR3.o.cell (p * 7 + o)).trans (oC_get ports O p o hp (by omega))
      have o2 := hR3.o.frozen (p * 7 + o)
      have lM3 := hR3.k.lt
      have lg3 := hR3.o.lt
      have HR3 : Hid _ := hR3
      have HK3 : Hid (KeptR w W5 M g) := KeptR.of_below M g (below_chain HKB.out k15)
      clear hR3 hX3 k15
      go_wp2_with (fail)
      go_region
      all_goals
        go_wp2_with (fail)
        go_ret
        refine ⟨rfl, ⟨updO O p o false, ⟨Blk.drewN (Blk.other HR3.out.k HR3.out.ne _) 1, ?_, HR3.out.ne⟩, fun x y => ?_⟩, KeptR.drewN (KeptR.setCell HK3.out (.inr rfl) _) 1⟩
        · rw [← oC_set _ _ _ _ _ (by omega)]
          exact Blk.drewN (Blk.set HR3.out.o _ _) 1
        · rw [HRV.out]
          rfl
    · have HRV : Hid (hrd K o seq es fs = false) := by show _ = _; rw [HRV0.out, decide_eq_false hr]
      have HR3 : Hid _ := HR.out.below k15
      have HK3 : Hid (KeptR w W5 M g) := KeptR.of_below M g (below_chain HKB.out k15)
      clear k15
      go_wp2_with (fail)
      go_ret
      refine ⟨rfl, ⟨O, HR3.out, fun x y => ?_⟩, HK3.out⟩
      rw [HRV.out]
      rfl
end Go.Proofs.Ytgfjgenkpfdofaa
