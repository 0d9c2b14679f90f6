/-
  The program's hello package: mayBe, Bytes, Parse; the document's HelloOf, Hear, Tick.
-/
import Derived.Test.YtjchmcclmbmggabHelloWalk
import Derived.Test.YtjchmcclmbmggabStPure
import Derived.Test.YtjchmcclmbmggabSame
namespace Go.Proofs.Ytjchmcclmbmggab
open Go.RowKit
open St (u8 u8_nat)

theorem conv2 (W : World) (a b : Int) (a0 : 0 ≤ a) (a1 : a ≤ 255) (b0 : 0 ≤ b) (b1 : b ≤ 255) : (convert 53 9 (.slice (some ⟨W.heap.size, 0, none⟩) 2 2)).run Try.prog (W.alloc (.cells #[.int .u8 a, .int .u8 b] 5)) = .ok (.string ⟨#[u8 a, u8 b]⟩) (W.alloc (.cells #[.int .u8 a, .int .u8 b] 5)) := by
  have h : Row (W.alloc (.cells #[.int .u8 a, .int .u8 b] 5)) 1 (.slice (some ⟨W.heap.size, 0, none⟩) 2 2) 2 (cells8 [u8 a, u8 b]) := by
    refine Row.made W 1 _ _ (0, 0) 2 2 _ rfl rfl (Nat.le_refl _) (by decide) (.inl rfl) ?_
    intro j u hu
    simp only [cells8, List.map_cons, List.map_nil, u8_nat a a0 a1, u8_nat b b0 b1] at hu
    simpa using hu
  exact Row.back h 53 9 5 Try.underlying53 Try.underlying5 Try.underlying9

def helB (f s : Int) : Bool := decide (1 ≤ f) && decide (f ≤ 6) && decide (0 ≤ s) && decide (s ≤ 6)
theorem helB_cases (f s : Int) : ∀ (Q : Prop), (¬ 1 ≤ f → helB f s = false → Q) → (1 ≤ f → ¬ f ≤ 6 → helB f s = false → Q) → (1 ≤ f → f ≤ 6 → ¬ 0 ≤ s → helB f s = false → Q) → (1 ≤ f → f ≤ 6 → 0 ≤ s → ¬ s ≤ 6 → helB f s = false → Q) → (1 ≤ f → f ≤ 6 → 0 ≤ s → s ≤ 6 → helB f s = true → Q) → Q := by
  intro Q q1 q2 q3 q4 q5
  by_cases h1 : 1 ≤ f
  · by_cases h2 : f ≤ 6
    · by_cases h3 : 0 ≤ s
      · by_cases h4 : s ≤ 6
        · exact q5 h1 h2 h3 h4 (by simp [helB, h1, h2, h3, h4])
        · exact q4 h1 h2 h3 h4 (by simp [helB, h4])
      · exact q3 h1 h2 h3 (by simp [helB, h3])
    · exact q2 h1 h2 (by simp [helB, h2])
  · exact q1 h1 (by simp [helB, h1])

set_option maxRecDepth 100000 in
theorem mayBe_any (f s : Int) (w : World) : Calls Try.prog 66 #[.agg #[.int .i64 f, .int .i64 s]] w fun e w' => e = .returned (.bool (helB f s)) ∧ Below w.heap.size w w' := by
  refine helB_cases f s _ ?_ ?_ ?_ ?_ ?_
  all_goals
    intros
    rename_i hv
    rw [hv]
    clear hv
    go_enter Try.func66, Try.ntmps66
    go_wp2
    go_ret
    exact ⟨by first | rfl | (simp; omega), below_alloc _ _⟩

set_option maxRecDepth 100000 in
theorem hbytes_bad (f s : Int) (w : World) (h : helB f s = false) : Calls Try.prog 21 #[.agg #[.int .i64 f, .int .i64 s]] w fun e w' => e = .returned (.tuple #[.string ByteArray.empty, .iface 111 (.int .i64 1)]) ∧ Below w.heap.size w w' := by
  have hm := mayBe_any f s (w.alloc (.cells #[.int .i64 f, .int .i64 s] 42))
  rw [h] at hm
  have hw0 := below_alloc w (.cells #[.int .i64 f, .int .i64 s] 42)
  go_enter Try.func21, Try.ntmps21
  go_wp2_with (fail)
  refine hm.mono ?_
  rintro e w1 ⟨rfl, k1⟩
  go_wp2_with (fail)
  go_ret2
  exact ⟨rfl, below_chain hw0 k1⟩

set_option maxRecDepth 100000 in
theorem hbytes_good (f s : Int) (w : World) (h1 : 1 ≤ f) (h2 : f ≤ 6) (h3 : 0 ≤ s) (h4 : s ≤ 6) (h : helB f s = true) : Calls Try.prog 21 #[.agg #[.int .i64 f, .int .i64 s]] w fun e w' => e = .returned (.tuple #[.string ⟨#[u8 f, u8 s]⟩, .nilIface]) ∧ Below w.heap.size w w' := by
  have hm := mayBe_any f s (w.alloc (.cells #[.int .i64 f, .int .i64 s] 42))
  rw [h] at hm
  have hw0 := below_alloc w (.cells #[.int .i64 f, .int .i64 s] 42)
  have hA := Blk.new w #[.int .i64 f, .int .i64 s] 42
  have hcv := fun W => conv2 W f s (by omega) (by omega) (by omega) (by omega)
  clear h
  go_enter Try.func21, Try.ntmps21
  go_wp2_with (fail)
  refine hm.mono ?_
  rintro e w1 ⟨rfl, k1⟩
  have hB := hA.below k1
  have c0 : w1.cell? ⟨w.heap.size, 0, none⟩ = some (.int .i64 f) := hB.cell 0
  have c1 : w1.cell? ⟨w.heap.size, 1, none⟩ = some (.int .i64 s) := hB.cell 1
  have l1 : w.heap.size < w1.heap.size := hB.lt
  have hk := below_chain hw0 k1
  clear hA hB hm k1
  go_wp2_with (fail)
  go_ret2
  exact ⟨rfl, hk.alloc hk.size _⟩

/-- What bytes are as a hello. -/
def helR (l : List UInt8) : Int × Int × Nat :=
  if l.length = 2 ∧ helB ((l.getD 0 0).toNat : Int) ((l.getD 1 0).toNat : Int) = true then (((l.getD 0 0).toNat : Int), ((l.getD 1 0).toNat : Int), 0) else (0, 0, 4)
theorem byte_get (s : ByteArray) (k : Nat) (h : k < s.size) : s.data.toList.getD k 0 = s[k] := by
  have h' : k < s.data.toList.length := by simpa using h
  rw [List.getD_eq_getElem?_getD, List.getElem?_eq_getElem h']
  rfl

set_option maxRecDepth 100000 in
set_option maxHeartbeats 1000000 in
theorem hparse_any (s : ByteArray) (w : World) : Calls Try.prog 18 #[.string s] w fun e w' => e = .returned (.tuple #[.agg #[.int .i64 (helR s.data.toList).1, .int .i64 (helR s.data.toList).2.1], errV (helR s.data.toList).2.2]) ∧ Below w.heap.size w w' := by
  have hz := zeroHello
  have hl : s.data.toList.length = s.size := by simp
  by_cases h2 : s.size = 2
  · have b0 : 0 < s.size := by omega
    have b1 : 1 < s.size := by omega
    have z0 : (0 : Int) < (s.size : Int) := by omega
    have z1 : (1 : Int) < (s.size : Int) := by omega
    have hb0 := s[0].toNat_lt
    have hb1 := s[1].toNat_lt
    have g2 : ((s.size : Int) != 2) = false := by rw [h2]; rfl
    have hw0 : Below w.heap.size w ((w.alloc (.cells #[.int .i64 0, .int .i64 0] 42)).alloc (.cells #[.int .i64 (s[0].toNat : Int), .int .i64 (s[1].toNat : Int)] 42)).drew := below_drew ((below_alloc _ _).alloc (by simp) _)
    have hR := (Blk.new w #[.int .i64 0, .int .i64 0] 42).below (below_alloc (w.alloc (.cells #[.int .i64 0, .int .i64 0] 42)) (.cells #[.int .i64 (s[0].toNat : Int), .int .i64 (s[1].toNat : Int)] 42))
    have hX : Blk ((w.alloc (.cells #[.int .i64 0, .int .i64 0] 42)).alloc (.cells #[.int .i64 (s[0].toNat : Int), .int .i64 (s[1].toNat : Int)] 42)) (w.heap.size + 1) #[.int .i64 (s[0].toNat : Int), .int .i64 (s[1].toNat : Int)] 42 := Blk.newN _ _ _ _ (by simp)
    have HV : Hid (helR s.data.toList = if helB (s[0].toNat : Int) (s[1].toNat : Int) = true then ((s[0].toNat : Int), (s[1].toNat : Int), 0) else (0, 0, 4)) := by
      show _ = _
      unfold helR
      rw [byte_get s 0 b0, byte_get s 1 b1, hl]
      simp [h2]
    have HS : Hid (s.size = 2) := h2
    clear h2 hl
    go_enter Try.func18, Try.ntmps18
    go_wp2_with (fail)
    go_region
    go_wp2_with (fail)
    obtain ⟨W1, hW1⟩ : ∃ W1, ((w.alloc (.cells #[.int .i64 0, .int .i64 0] 42)).alloc (.cells #[.int .i64 (s[0].toNat : Int), .int .i64 (s[1].toNat : Int)] 42)).drew = W1 := ⟨_, rfl⟩
    have hR1 : Blk W1 w.heap.size #[.int .i64 0, .int .i64 0] 42 := by rw [← hW1]; exact hR
    have hX1 : Blk W1 (w.heap.size + 1) #[.int .i64 (s[0].toNat : Int), .int .i64 (s[1].toNat : Int)] 42 := by rw [← hW1]; exact hX
    rw [hW1] at hw0 ⊢
    clear hW1 hR hX
    generalize s[0].toNat = x at *
    generalize s[1].toNat = y at *
    refine (mayBe_any (x : Int) (y : Int) _).mono ?_
    rintro e w2 ⟨rfl, k2⟩
    have hR2 := hR1.below k2
    have hX2 := hX1.below k2
    have r0 : w2.cell? ⟨w.heap.size, 0, none⟩ = some (.int .i64 0) := hR2.cell 0
    have r1 : w2.cell? ⟨w.heap.size, 1, none⟩ = some (.int .i64 0) := hR2.cell 1
    have rf := hR2.frozen
    have rl := hR2.lt
    have x0 : w2.cell? ⟨w.heap.size + 1, 0, none⟩ = some (.int .i64 (x : Int)) := hX2.cell 0
    have x1 : w2.cell? ⟨w.heap.size + 1, 1, none⟩ = some (.int .i64 (y : Int)) := hX2.cell 1
    have hk := below_chain hw0 k2
    cases hq : helB (x : Int) (y : Int)
    · have HV2 : Hid (helR s.data.toList = (0, 0, 4)) := by show _ = _; rw [HV.out, if_neg (by simp [hq])]
      clear HV hq
      go_wp2_with (fail)
      rw [HV2.out]
      refine bodyPost_ret (v := .tuple #[.agg #[.int .i64 0, .int .i64 0], .iface 111 (.int .i64 4)]) (by simp [results, Try.results18, go_sem, r0, r1]) rfl ?_
      exact ⟨rfl, (hk.setCell (Nat.le_refl _) _).setCell (Nat.le_refl _) _⟩
    · have HV2 : Hid (helR s.data.toList = ((x : Int), (y : Int), 0)) := by show _ = _; rw [HV.out, if_pos hq]
      clear HV hq
      go_wp2_with (fail)
      rw [HV2.out]
      refine bodyPost_ret (v := .tuple #[.agg #[.int .i64 (x : Int), .int .i64 (y : Int)], .nilIface]) (by simp [results, Try.results18, go_sem, r0, r1]) rfl ?_
      exact ⟨rfl, (hk.setCell (Nat.le_refl _) _).setCell (Nat.le_refl _) _⟩
  · have g2 : ((s.size : Int) != 2) = true := by rw [bne_iff_ne]; omega
    have hw1 := below_alloc w (.cells #[.int .i64 0, .int .i64 0] 42)
    have HV : Hid (helR s.data.toList = (0, 0, 4)) := by show _ = _; unfold helR; rw [hl, if_neg (by omega)]
    clear h2 hl
    go_enter Try.func18, Try.ntmps18
    go_wp2_with (fail)
    rw [HV.out]
    refine bodyPost_ret (v := .tuple #[.agg #[.int .i64 0, .int .i64 0], .iface 111 (.int .i64 4)]) (by simp [results, Try.results18, go_sem]) rfl ?_
    exact ⟨rfl, hw1⟩

theorem zeroRPeer (w : World) : (zeroValue 50).run Try.prog w = .ok (.agg #[.int .i64 0, .bool false, .int .i64 0]) w := by kernel_rfl
set_option maxRecDepth 100000 in
theorem rhear_any (a c me f s : Int) (b : Bool) (w : World) : Calls Try.prog 23 #[.agg #[.int .i64 a, .bool b, .int .i64 c], .int .i64 me, .agg #[.int .i64 f, .int .i64 s]] w fun e w' =>
    e = .returned (.agg #[.int .i64 (hearP me f s).1, .bool (hearP me f s).2.1, .int .i64 (hearP me f s).2.2]) ∧ Below w.heap.size w w' := by
  have hz := zeroRPeer
  have hb : ∀ (A B C : Array Value) (t u v : TypeId), Below w.heap.size w (((w.alloc (.cells A t)).alloc (.cells B u)).alloc (.cells C v)) := fun A B C t u v => ((below_alloc _ _).alloc (by simp) _).alloc (by simp; omega) _
  cases q : (f == me)
  · have hv : hearP me f s = (f, s == me, 4) := by simp at q; simp [hearP, q]
    rw [hv]
    clear hv
    go_enter Try.func23, Try.ntmps23
    go_wp2
    refine bodyPost_ret (v := .agg #[.int .i64 f, .bool (s == me), .int .i64 4]) (by simp [results, Try.results23, go_sem]) rfl ?_
    exact ⟨rfl, hb _ _ _ _ _ _⟩
  · have hv : hearP me f s = (0, false, 0) := by simp at q; simp [hearP, q]
    rw [hv]
    clear hv
    go_enter Try.func23, Try.ntmps23
    go_wp2
    refine bodyPost_ret (v := .agg #[.int .i64 0, .bool false, .int .i64 0]) (by simp [results, Try.results23, go_sem]) rfl ?_
    exact ⟨rfl, hb _ _ _ _ _ _⟩
set_option maxRecDepth 100000 in
theorem rtick_any (a c : Int) (b : Bool) (w : World) (hc : 0 ≤ c) (hc2 : c ≤ 100) : Calls Try.prog 25 #[.agg #[.int .i64 a, .bool b, .int .i64 c]] w fun e w' =>
    e = .returned (.agg #[.int .i64 (tickP (a, b, c)).1, .bool (tickP (a, b, c)).2.1, .int .i64 (tickP (a, b, c)).2.2]) ∧ Below w.heap.size w w' := by
  have hz := zeroRPeer
  have hb : ∀ (A B : Array Value) (t u : TypeId), Below w.heap.size w ((w.alloc (.cells A t)).alloc (.cells B u)) := fun A B t u => (below_alloc _ _).alloc (by simp) _
  by_cases q : c ≤ 1
  · have hv : tickP (a, b, c) = (0, false, 0) := by simp [tickP, q]
    rw [hv]
    clear hv
    go_enter Try.func25, Try.ntmps25
    go_wp2
    refine bodyPost_ret (v := .agg #[.int .i64 0, .bool false, .int .i64 0]) (by simp [results, Try.results25, go_sem]) rfl ?_
    exact ⟨rfl, hb _ _ _ _⟩
  · have hv : tickP (a, b, c) = (a, b, c - 1) := by simp [tickP, q]
    rw [hv]
    clear hv
    go_enter Try.func25, Try.ntmps25
    go_wp2
    refine bodyPost_ret (v := .agg #[.int .i64 a, .bool b, .int .i64 (c - 1)]) (by simp [results, Try.results25, go_sem]) rfl ?_
    exact ⟨rfl, hb _ _ _ _⟩

set_option maxRecDepth 100000 in
set_option maxHeartbeats 1000000 in
theorem hof_any (s : ByteArray) (w : World) : Calls Try.prog 19 #[.string s] w fun e w' => e = .returned (.tuple #[.agg #[.int .i64 (helR s.data.toList).1, .int .i64 (helR s.data.toList).2.1], .int .i64 ((helR s.data.toList).2.2 : Int)]) ∧ Below w.heap.size w w' := by
  have hz := zeroHello
  have hl : s.data.toList.length = s.size := by simp
  have hw1 := below_alloc w (.cells #[.int .i64 0, .int .i64 0] 42)
  by_cases h2 : s.size = 2
  · have b0 : 0 < s.size := by omega
    have b1 : 1 < s.size := by omega
    have z0 : (0 : Int) < (s.size : Int) := by omega
    have z1 : (1 : Int) < (s.size : Int) := by omega
    have hb0 := s[0].toNat_lt
    have hb1 := s[1].toNat_lt
    have g2 : ((s.size : Int) != 2) = false := by rw [h2]; rfl
    have HV : Hid (helR s.data.toList = if helB (s[0].toNat : Int) (s[1].toNat : Int) = true then ((s[0].toNat : Int), (s[1].toNat : Int), 0) else (0, 0, 4)) := by
      show _ = _
      unfold helR
      rw [byte_get s 0 b0, byte_get s 1 b1, hl]
      simp [h2]
    clear h2 hl
    by_cases q1 : (s[0].toNat : Int) < 1
    · have HV2 : Hid (helR s.data.toList = (0, 0, 4)) := by show _ = _; rw [HV.out, if_neg (by simp [helB]; omega)]
      go_enter Try.func19, Try.ntmps19
      go_wp2_with (fail)
      rw [HV2.out]
      refine bodyPost_ret (v := .tuple #[.agg #[.int .i64 0, .int .i64 0], .int .i64 4]) (by simp [results, Try.results19, go_sem]) rfl ?_
      exact ⟨rfl, hw1⟩
    · by_cases q2 : (6 : Int) < (s[0].toNat : Int)
      · have HV2 : Hid (helR s.data.toList = (0, 0, 4)) := by show _ = _; rw [HV.out, if_neg (by simp [helB]; omega)]
        go_enter Try.func19, Try.ntmps19
        go_wp2_with (fail)
        rw [HV2.out]
        refine bodyPost_ret (v := .tuple #[.agg #[.int .i64 0, .int .i64 0], .int .i64 4]) (by simp [results, Try.results19, go_sem]) rfl ?_
        exact ⟨rfl, hw1⟩
      · by_cases q3 : (6 : Int) < (s[1].toNat : Int)
        · have HV2 : Hid (helR s.data.toList = (0, 0, 4)) := by show _ = _; rw [HV.out, if_neg (by simp [helB]; omega)]
          go_enter Try.func19, Try.ntmps19
          go_wp2_with (fail)
          rw [HV2.out]
          refine bodyPost_ret (v := .tuple #[.agg #[.int .i64 0, .int .i64 0], .int .i64 4]) (by simp [results, Try.results19, go_sem]) rfl ?_
          exact ⟨rfl, hw1⟩
        · have HV2 : Hid (helR s.data.toList = ((s[0].toNat : Int), (s[1].toNat : Int), 0)) := by show _ = _; rw [HV.out, if_pos (by simp [helB]; omega)]
          go_enter Try.func19, Try.ntmps19
          go_wp2_with (fail)
          go_region
          go_wp2_with (fail)
          rw [HV2.out]
          refine bodyPost_ret (v := .tuple #[.agg #[.int .i64 (s[0].toNat : Int), .int .i64 (s[1].toNat : Int)], .int .i64 0]) (by simp [results, Try.results19, go_sem]) rfl ?_
          exact ⟨rfl, below_drew (below_alloc _ _)⟩
  · have g2 : ((s.size : Int) != 2) = true := by rw [bne_iff_ne]; omega
    have HV : Hid (helR s.data.toList = (0, 0, 4)) := by show _ = _; unfold helR; rw [hl, if_neg (by omega)]
    clear h2 hl
    go_enter Try.func19, Try.ntmps19
    go_wp2_with (fail)
    rw [HV.out]
    refine bodyPost_ret (v := .tuple #[.agg #[.int .i64 0, .int .i64 0], .int .i64 4]) (by simp [results, Try.results19, go_sem]) rfl ?_
    exact ⟨rfl, hw1⟩

set_option maxRecDepth 100000 in
set_option maxHeartbeats 1000000 in
theorem hellos_true (w : World) : Calls Try.prog 17 #[] w fun e w' => e = .returned (.bool true) ∧ Below w.heap.size w w' := by
  have hz := zeroPeer
  have hz2 := zeroHello
  have h1 := hear_any 0 0 1 2 1 false w
  have e1 : hearP 1 2 1 = (2, true, 4) := by decide
  rw [e1] at h1
  have h3 := fun W => hbytes_good 1 2 W (by decide) (by decide) (by decide) (by decide) (by decide)
  have e3 : (⟨#[u8 1, u8 2]⟩ : ByteArray) = ⟨#[1, 2]⟩ := by decide +kernel
  rw [e3] at h3
  clear e1 e3
  go_enter Try.func17, Try.ntmps17
  go_wp2_with (fail)
  refine h1.mono ?_
  rintro e w1 ⟨rfl, k1⟩
  have hA := Blk.new w1 #[.int .i64 2, .bool true, .int .i64 4] 49
  have hk1 := k1.alloc k1.size (.cells #[.int .i64 2, .bool true, .int .i64 4] 49)
  go_wp2_with (fail)
  refine (says_any 2 4 1 true _).mono ?_
  rintro e w2 ⟨rfl, k2⟩
  go_wp2_with (fail)
  refine (h3 _).mono ?_
  rintro e w3 ⟨rfl, k3⟩
  have k23 := below_chain k2 k3
  have hB := hA.below k23
  have c1 : w3.cell? ⟨w1.heap.size, 1, none⟩ = some (.bool true) := hB.cell 1
  have l3 := hB.lt
  have hk := below_chain hk1 k23
  go_wp2_with (fail)
  refine (same_ok 0 _).mono ?_
  rintro e w4 ⟨rfl, rfl⟩
  go_wp2_with (fail)
  go_ret
  exact ⟨rfl, hk⟩
end Go.Proofs.Ytjchmcclmbmggab
