/-
  The document's base of states: Set, Part.
-/
import Derived.Test.YtgfjgenkpfdofaaRFlood
namespace Go.Proofs.Ytgfjgenkpfdofaa
open Go.RowKit St

/-- What Set leaves owed. -/
def setO (O : Nat → Nat → Bool) (ports o x y : Nat) : Bool := if y = o ∧ x < ports then true else O x y
set_option maxRecDepth 100000 in
set_option maxHeartbeats 4000000 in
theorem rset_bad (M : Nat) (own seq : Int) (a : Option Addr) (n cap : Nat) (es : List Opt) (w : World) (hn : n ≤ maxLen) (ho : OptR w a n es) (hf : stF own seq es ≠ 0) :
    Calls Try.prog 9 #[.pointer (some ⟨M, 0, none⟩), .agg #[.int .i64 own, .int .i64 seq, .slice a n cap]] w fun e w' => e = .returned (.int .i64 (stF own seq es : Int)) ∧ Below w.heap.size w w' := by
  have kb := below_alloc w (.cells #[.int .i64 own, .int .i64 seq, .slice a n cap] 35)
  have hfa := fault_any own seq a n cap es _ hn (ho.below kb)
  have hz : (0 : Int) < ((stF own seq es : Nat) : Int) := by omega
  obtain ⟨z, hze⟩ : ∃ z, ((stF own seq es : Nat) : Int) = z := ⟨_, rfl⟩
  rw [hze] at hfa hz
  rw [hze]
  clear hze hf
  go_enter Try.func9, Try.ntmps9
  go_wp2_with (fail)
  refine hfa.mono ?_
  rintro e w1 ⟨rfl, k1⟩
  have HK : Hid _ := below_chain kb k1
  clear hfa kb k1
  go_wp2_with (fail)
  go_ret
  exact ⟨rfl, HK.out⟩

set_option maxRecDepth 100000 in
set_option maxHeartbeats 8000000 in
theorem rset_ok (M g ports : Nat) (K : Nat → SV) (O : Nat → Nat → Bool) (o : Nat) (seq : Int) (a : Option Addr) (n cap : Nat) (es : List Opt) (w : World) (h : RB w M g ports K O) (hports : ports ≤ 3) (ho : OptR w a n es) (hf : stF (o : Int) seq es = 0) :
    Calls Try.prog 9 #[.pointer (some ⟨M, 0, none⟩), .agg #[.int .i64 (o : Int), .int .i64 seq, .slice a n cap]] w fun e w' => e = .returned (.int .i64 0) ∧ (∃ O', RB w' M g ports (updS K o ⟨(o : Int), seq, a, n, cap⟩) O' ∧ (∀ x y, O' x y = setO O ports o x y)) ∧ KeptR w w' M g := by
  have hso := (stF_zero hf).1
  have h6 := (stF_zero hf).2.2.1
  have hn : n ≤ maxLen := by have := ho.1; unfold maxLen; omega
  have ho7 : (o : Int) < 7 := by omega
  have kb := below_alloc w (.cells #[.int .i64 (o : Int), .int .i64 seq, .slice a n cap] 35)
  have hfa := fault_any (o : Int) seq a n cap es _ hn (ho.below kb)
  rw [hf] at hfa
  have hX0 := Blk.new w #[.int .i64 (o : Int), .int .i64 seq, .slice a n cap] 35
  have hR0 := h.below kb
  obtain ⟨X, hXe⟩ : ∃ X, w.heap.size = X := ⟨_, rfl⟩
  have hMX : M < X ∧ g < X := ⟨by rw [← hXe]; exact h.k.lt, by rw [← hXe]; exact h.o.lt⟩
  have HXe : Hid _ := hXe
  clear hf h6 h ho hXe
  go_enter Try.func9, Try.ntmps9
  go_wp2_with (fail)
  refine hfa.mono ?_
  rintro e w1 ⟨rfl, k1⟩
  have hX := hX0.below k1
  have hR := hR0.below k1
  have HK1 : Hid (KeptR w w1 M g) := KeptR.of_below M g (below_chain kb k1)
  rw [HXe.out] at hX
  rw [HXe.out]
  obtain ⟨q0, q1, q2⟩ := kC_get K (.slice (some ⟨g, 0, none⟩) ports ports) o (by omega)
  have m0 := (hR.k.cell (o * 3)).trans q0
  have m1 := (hR.k.cell (o * 3 + 1)).trans q1
  have m2 := (hR.k.cell (o * 3 + 2)).trans q2
  have f0 := hR.k.frozen (o * 3)
  have f1 := hR.k.frozen (o * 3 + 1)
  have f2 := hR.k.frozen (o * 3 + 2)
  have x0 : w1.cell? ⟨X, 0, none⟩ = some (.int .i64 (o : Int)) := hX.cell 0
  have x1 : w1.cell? ⟨X, 1, none⟩ = some (.int .i64 seq) := hX.cell 1
  have x2 : w1.cell? ⟨X, 2, none⟩ = some (.slice a n cap) := hX.cell 2
  have lM := hR.k.lt
  have HR : Hid _ := hR
  have HX : Hid _ := hX
  clear hfa kb k1 hX0 hR0 hX hR q0 q1 q2
  obtain ⟨W2, hW2⟩ : ∃ W2, (((w1.setCell ⟨M, o * 3, none⟩ (.int .i64 (o : Int))).setCell ⟨M, o * 3 + 1, none⟩ (.int .i64 seq)).setCell ⟨M, o * 3 + 2, none⟩ (.slice a n cap)).drew = W2 := ⟨_, rfl⟩
  have HR2 : Hid (RB W2 M g ports (updS K o ⟨(o : Int), seq, a, n, cap⟩) O) := by
    have hne := HR.out.ne
    refine ⟨?_, ?_, hne⟩
    · rw [← hW2, ← kC_set K _ o ⟨(o : Int), seq, a, n, cap⟩ (by omega)]
      exact Blk.drewN (Blk.set (Blk.set (Blk.set HR.out.k _ _) _ _) _ _) 1
    · rw [← hW2]
      exact Blk.drewN (Blk.other (Blk.other (Blk.other HR.out.o hne.symm _) hne.symm _) hne.symm _) 1
  have HX2 : Hid (Blk W2 X #[.int .i64 (o : Int), .int .i64 seq, .slice a n cap] 35) := by
    show Blk _ _ _ _
    rw [← hW2]
    exact Blk.drewN (Blk.other (Blk.other (Blk.other HX.out (by omega) _) (by omega) _) (by omega) _) 1
  have HK2 : Hid (KeptR w W2 M g) := by
    show KeptR _ _ _ _
    rw [← hW2]
    exact KeptR.drewN (KeptR.setCell (KeptR.setCell (KeptR.setCell HK1.out (.inl rfl) _) (.inl rfl) _) (.inl rfl) _) 1
  have HW2 : Hid _ := hW2
  clear hW2 HR HX HK1
  go_wp2_with (fail)
  go_region
  all_goals
    rw [HW2.out]
    have c21 := (HR2.out).owed
    clear m0 m1 m2 f0 f1 f2 x0 x1 x2 lM
    go_wp2_with (fail)
    go_loopw [6] (fun v wr => ∃ (i : Nat) (O' : Nat → Nat → Bool), i ≤ ports ∧ v = .int .i64 i ∧ (∀ x y, O' x y = setO O i o x y) ∧ RB wr M g ports (updS K o ⟨(o : Int), seq, a, n, cap⟩) O' ∧ Blk wr X #[.int .i64 (o : Int), .int .i64 seq, .slice a n cap] 35 ∧ KeptR w wr M g) (fun v _ => ports - (intOf v).toNat)
    case atStart => exact ⟨0, O, by omega, rfl, fun x y => by simp [setO], HR2.out, HX2.out, HK2.out⟩
    case round =>
      clear HR2 HX2 HK2 c21
      obtain ⟨i, O', hi, rfl, hO, hR, hX, hk⟩ := hrel
      have HO : Hid _ := hO
      have c21 := hR.owed
      have lM := hR.k.lt
      by_cases hip : i < ports
      · have hip' : (i : Int) < (ports : Int) := by omega
        have x0 : wr.cell? ⟨X, 0, none⟩ = some (.int .i64 (o : Int)) := hX.cell 0
        have o1 := (hR.o.cell (i * 7 + o)).trans (oC_get ports O' i o hip (by omega))
        have o2 := hR.o.frozen (i * 7 + o)
        have lg := hR.o.lt
        have HR : Hid _ := hR
        have HX : Hid _ := hX
        have HK : Hid _ := hk
        clear hO hR hX hk
        go_wp2_with (fail)
        go_region
        all_goals
          go_wp2_with (fail)
          go_roundw
          case rel =>
            refine ⟨i + 1, updO O' i o true, by omega, by go_num, fun x y => ?_, ⟨Blk.drewN (Blk.other HR.out.k HR.out.ne _) 1, ?_, HR.out.ne⟩, Blk.drewN (Blk.other HX.out (by omega) _) 1, KeptR.drewN (KeptR.setCell HK.out (.inr rfl) _) 1⟩
            · simp only [updO]
              by_cases e : x = i ∧ y = o
              · rw [if_pos e]
                simp [setO, e.1, e.2]
              · rw [if_neg e, HO.out x y]
                simp only [setO]
                by_cases e2 : y = o ∧ x < i
                · rw [if_pos e2, if_pos ⟨e2.1, by omega⟩]
                · rw [if_neg e2, if_neg (fun e3 => e2 ⟨e3.1, by omega⟩)]
            · rw [← oC_set _ _ _ _ _ (by omega)]
              exact Blk.drewN (Blk.set HR.out.o _ _) 1
          case measure => simp [intOf]; omega
      · have hip' : ¬ (i : Int) < (ports : Int) := by omega
        have HF : Hid (∃ O', RB wr M g ports (updS K o ⟨(o : Int), seq, a, n, cap⟩) O' ∧ (∀ x y, O' x y = setO O ports o x y)) := by
          have hie : i = ports := by omega
          rw [← hie] at hR ⊢
          exact ⟨O', hR, hO⟩
        have HK : Hid _ := hk
        clear hO hR hX hk
        go_wp2_with (fail)
        go_ret
        exact ⟨rfl, HF.out, HK.out⟩
end Go.Proofs.Ytgfjgenkpfdofaa
