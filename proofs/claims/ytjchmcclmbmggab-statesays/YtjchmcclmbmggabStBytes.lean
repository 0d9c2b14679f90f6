/-
  A state's bytes, by the program's Bytes.
-/
import Derived.Test.YtjchmcclmbmggabStCheck
namespace Go.Proofs.Ytjchmcclmbmggab
open Go.RowKit St

theorem infoByte : (Try.prog.info? 5).map (fun i => (i.zero, i.size, i.bytes)) = some (some (.int .u8 0), 1, 1) := by kernel_rfl

/-- The four bytes ahead of the edges. -/
def stH (own seq : Int) : List UInt8 := [St.u8 own, St.u8 (seq % 256), St.u8 (seq / 256 % 256), St.u8 (seq / 65536)]
theorem stH_len (own seq : Int) : (stH own seq).length = 4 := rfl
theorem head_row (w : World) (own seq : Int) (p1 : 1 ≤ own) (p2 : own ≤ 6) (p3 : 1 ≤ seq) (p4 : seq ≤ 1000000) : Row (w.alloc (.cells #[.int .u8 own, .int .u8 (seq % 256), .int .u8 (seq / 256 % 256), .int .u8 (seq / 65536)] 5)) 1 (.slice (some ⟨w.heap.size, 0, none⟩) 4 4) 4 (cells8 [St.u8 own, St.u8 (seq % 256), St.u8 (seq / 256 % 256), St.u8 (seq / 65536)]) := by
  refine Row.made w 1 _ _ (0, 0) 4 4 _ rfl rfl (Nat.le_refl _) (by decide) (.inl rfl) ?_
  intro j u hu
  simp only [cells8, List.map_cons, List.map_nil, u8_nat own (by omega) (by omega), u8_nat (seq % 256) (by omega) (by omega), u8_nat (seq / 256 % 256) (by omega) (by omega), u8_nat (seq / 65536) (by omega) (by omega)] at hu
  simpa using hu

set_option maxRecDepth 100000 in
set_option maxHeartbeats 2000000 in
theorem bytes_bad (own seq : Int) (a : Option Addr) (n cap : Nat) (os : List Opt) (w : World) (hn : n ≤ 1000000) (ho : OptR w a n os) (hf : stF own seq os ≠ 0) :
    Calls Try.prog 30 #[.agg #[.int .i64 own, .int .i64 seq, .slice a n cap]] w fun e w' => e = .returned (.tuple #[.string ByteArray.empty, errV (stF own seq os)]) ∧ Below w.heap.size w w' := by
  have hw1 := below_alloc w (.cells #[.int .i64 own, .int .i64 seq, .slice a n cap] 62)
  have hcall := check_any own seq a n cap os _ hn (ho.below hw1)
  generalize stF own seq os = f at hf hcall
  have e0 : errV f = .iface 111 (.int .i64 (f : Int)) := by simp [errV, hf]
  rw [e0] at hcall ⊢
  clear e0
  go_enter Try.func30, Try.ntmps30
  go_wp2_with (fail)
  refine hcall.mono ?_
  rintro e w1 ⟨rfl, hb1⟩
  go_wp2_with (fail)
  go_ret2
  exact ⟨rfl, below_chain hw1 hb1⟩

set_option maxRecDepth 100000 in
set_option maxHeartbeats 2000000 in
theorem bytes_good (own seq : Int) (a : Option Addr) (n cap : Nat) (os : List Opt) (w : World) (ho : OptR w a n os) (hf : stF own seq os = 0) :
    Calls Try.prog 30 #[.agg #[.int .i64 own, .int .i64 seq, .slice a n cap]] w fun e w' => e = .returned (.tuple #[.string ⟨(stB own seq os).toArray⟩, .nilIface]) ∧ Below w.heap.size w w' := by
  obtain ⟨i0, hi, hz0, hz1, hz2⟩ := info_parts infoByte
  obtain ⟨⟨p1, p2⟩, ⟨p3, p4⟩, p5, p6⟩ := stF_zero hf
  have hall := edgF_all own os 0 p6
  have hl := ho.1
  have hw1 := below_alloc w (.cells #[.int .i64 own, .int .i64 seq, .slice a n cap] 62)
  have hcall := check_any own seq a n cap os _ (by omega) (ho.below hw1)
  have e0 : errV 0 = .nilIface := rfl
  rw [hf, e0] at hcall
  clear e0 p6 hf
  go_enter Try.func30, Try.ntmps30
  go_wp2_with (fail)
  refine hcall.mono ?_
  rintro e w1 ⟨rfl, hb1⟩
  obtain ⟨q0, q1, q2, hz⟩ := box3 hb1
  have hw2 := below_chain hw1 hb1
  clear hb1 hcall hw1
  go_wp2_with (fail)
  have hE0 : Row (w1.alloc (.cells #[.int .u8 own, .int .u8 (seq % 256), .int .u8 (seq / 256 % 256), .int .u8 (seq / 65536)] 5)) 1 (.slice (some ⟨w1.heap.size, 0, none⟩) 4 4) 4 (cells8 [St.u8 own, St.u8 (seq % 256), St.u8 (seq / 256 % 256), St.u8 (seq / 65536)]) := head_row w1 own seq p1 p2 p3 p4
  have hb0 : Below w.heap.size w (w1.alloc (.cells #[.int .u8 own, .int .u8 (seq % 256), .int .u8 (seq / 256 % 256), .int .u8 (seq / 65536)] 5)) := hw2.alloc hw2.size _
  go_loopw [5, 31] (fun v i wr => ∃ (k g cp : Nat) (E : List UInt8), E = stH own seq ++ edB (os.take k) ∧ k ≤ n ∧ i = .int .i64 k ∧ v = .slice (some ⟨g, 0, none⟩) E.length cp ∧ Row wr 1 v E.length (cells8 E) ∧
      w.heap.size ≤ g ∧ Below w.heap.size w wr)
    (fun _ i _ => n - (intOf i).toNat)
  case atStart => exact ⟨0, w1.heap.size, 4, _, rfl, Nat.zero_le _, rfl, rfl, hE0, hw2.size, hb0⟩
  case round =>
    obtain ⟨k, g, cp, E, hEq, hk, rfl, rfl, hE, hgw, hbel⟩ := hrel
    have hEl : E.length ≤ 19 := by
      have h1 := edB_length (os.take k)
      have h2 : (os.take k).length ≤ 6 := by simp; omega
      rw [hEq, List.length_append, stH_len]; omega
    have HE : Hid (E = stH own seq ++ edB (os.take k)) := hEq
    have HL : Hid (os.length = n) := hl
    clear hEq hE0 hb0 hl
    have m2 : E.length + 2 ≤ maxLen := by unfold maxLen; omega
    have b2 : (E.length + 2) * 1 ≤ 140737488355328 := by omega
    by_cases hlt : k < n
    · have hor := ho.below hbel
      rcases hor.2 with h0 | ⟨b, off, rfl, hc⟩
      · omega
      have hlo : k < os.length := by rw [HL.out]; exact hlt
      obtain ⟨c1, c2⟩ := hc k hlo
      obtain ⟨⟨o1a, o1b⟩, ⟨o2a, o2b⟩⟩ := hall os[k] (List.getElem_mem _)
      have HT : Hid (os.take (k + 1) = os.take k ++ [os[k]]) := List.take_succ_eq_append_getElem hlo
      generalize os[k] = o at c1 c2 HT o1a o1b o2a o2b
      clear hc hor
      have hlt' : (k : Int) < (n : Int) := by omega
      have hw3 : Below w.heap.size w (wr.alloc (.cells #[.int .i64 o.1, .int .i64 o.2] 118)) := hbel.alloc hbel.size _
      have hE3 : Row (wr.alloc (.cells #[.int .i64 o.1, .int .i64 o.2] 118)) 1 (.slice (some ⟨g, 0, none⟩) E.length cp) E.length (cells8 E) := hE.alloc _
      go_wp2_with (at_builtin; go_must (refine wpList_append_row _ rfl (.tmp 35) (.tmp 42) 53 rfl 5 i0 (.int .u8 0) 1 1 Try.underlying53 hi hz0 hz1 hz2 rfl (by decide) _ E.length (cells8 E) rfl (hE3.alloc _) _ 2 2 [.int .u8 o.1, .int .u8 o.2] rfl rfl (by decide) ?hcc (one_ints _ _ _ _) m2 b2 ?_))
      case hcc =>
        have := cells_two (wr.alloc (.cells #[.int .i64 o.1, .int .i64 o.2] 118)) (.int .u8 o.1) (.int .u8 o.2) 5
        simpa using this
      intro g2 cap2 w2 hr2 hgr2 hown2
      have hown3 : some g = some g2 ∨ (wr.alloc (.cells #[.int .i64 o.1, .int .i64 o.2] 118)).heap.size + 1 ≤ g2 := by
        rcases hown2 with h | h
        · exact .inl h
        · exact .inr (by simp; omega)
      have R := row_step1 hgr2 hown3 hgw hw3
      have hr3 : Row w2 1 (.slice (some ⟨g2, 0, none⟩) (E.length + 2) cap2) (E ++ [St.u8 o.1, St.u8 o.2]).length (cells8 (E ++ [St.u8 o.1, St.u8 o.2])) := by
        rw [cells8_append, List.length_append]
        simp only [cells8, List.map_cons, List.map_nil, u8_nat o.1 (show 0 ≤ o.1 by omega) (show o.1 ≤ 255 by omega), u8_nat o.2 (show 0 ≤ o.2 by omega) (show o.2 ≤ 255 by omega)]
        exact hr2
      have HN : Hid (E ++ [St.u8 o.1, St.u8 o.2] = stH own seq ++ edB (os.take (k + 1))) := by
        show E ++ [St.u8 o.1, St.u8 o.2] = _
        rw [HE.out, HT.out, edB_snoc, List.append_assoc]
      have HLL : Hid ((E ++ [St.u8 o.1, St.u8 o.2]).length = E.length + 2) := by show (E ++ [St.u8 o.1, St.u8 o.2]).length = E.length + 2; simp
      clear hr2 hgr2 hown2 hown3 hE hbel hw3 hE3
      go_wp2_with (fail)
      go_roundw
      case rel => exact ⟨k + 1, g2, cap2, _, HN.out, by omega, by go_num, by rw [HLL.out], hr3, R.1, R.2⟩
      case measure => simp [intOf]; omega
    · have hback : (convert 53 9 (.slice (some ⟨g, 0, none⟩) E.length cp)).run Try.prog wr = .ok (.string ⟨E.toArray⟩) wr := Row.back hE 53 9 5 Try.underlying53 Try.underlying5 Try.underlying9
      have HF : Hid (stB own seq os = E) := by
        show stB own seq os = E
        have hkk : os.take k = os := List.take_of_length_le (by rw [HL.out]; omega)
        rw [HE.out, hkk]; rfl
      clear hE
      go_wp2_with (fail)
      rw [HF.out]
      go_ret2
      exact ⟨rfl, hbel⟩

theorem cells_two_drew (w : World) (x y : Value) (t : TypeId) : ∀ (j : Nat) (u : Value), [x, y][j]? = some u → (w.alloc (.cells #[x, y] t)).drew.cell? ((⟨w.heap.size, 0, none⟩ : Addr).add j) = some u := fun j u hu => cells_two w x y t j u hu
theorem far_cell {wr x1 : World} {ob : Obj} {g b o : Nat} {u : Value} (hg : (wr.alloc ob).drew.grownBy x1 (some g)) (hne : b ≠ g) (hc : wr.cell? ⟨b, o, none⟩ = some u) : x1.cell? ⟨b, o, none⟩ = some u := by
  have hlt : b < wr.heap.size := World.block_lt_of_cell? wr _ hc
  have h1 : x1.heap[b]? = wr.heap[b]? := by
    rw [hg.block b (by show b < (wr.alloc ob).heap.size; simp; omega) (fun e => by simp at e; omega)]
    exact Below.heap_alloc wr ob b hlt
  rw [World.cell?_of_block (w := wr) (a := ⟨b, o, none⟩) h1]
  exact hc

set_option maxRecDepth 100000 in
set_option maxHeartbeats 4000000 in
theorem rbytes_good (own seq : Int) (a : Option Addr) (n cap : Nat) (os : List Opt) (w : World) (ho : OptR w a n os) (hf : stF own seq os = 0) :
    Calls Try.prog 32 #[.agg #[.int .i64 own, .int .i64 seq, .slice a n cap]] w fun e w' => e = .returned (.string ⟨(stB own seq os).toArray⟩) ∧ Below w.heap.size w w' := by
  obtain ⟨i0, hi, hz0, hz1, hz2⟩ := info_parts infoByte
  obtain ⟨⟨p1, p2⟩, ⟨p3, p4⟩, p5, p6⟩ := stF_zero hf
  have hall := edgF_all own os 0 p6
  have hl := ho.1
  have hw1 := below_alloc w (.cells #[.int .i64 own, .int .i64 seq, .slice a n cap] 62)
  clear p6 hf
  go_enter Try.func32, Try.ntmps32
  go_wp2_with (fail)
  obtain ⟨W1, hW1⟩ : ∃ W1, W1 = w.alloc (.cells #[.int .i64 own, .int .i64 seq, .slice a n cap] 62) := ⟨_, rfl⟩
  have hz : w.heap.size < W1.heap.size := by rw [hW1]; simp
  have hb1 : Below W1.heap.size W1 (W1.alloc (.cells #[.int .u8 own, .int .u8 (seq % 256), .int .u8 (seq / 256 % 256), .int .u8 (seq / 65536)] 5)) := below_alloc _ _
  have hbox : ∀ wq, Below W1.heap.size W1 wq → wq.cell? ⟨w.heap.size, 2, none⟩ = some (.slice a n cap) := by
    intro wq hq
    rw [hW1] at hq
    exact (box3 hq).2.2.1
  have hE0 := head_row W1 own seq p1 p2 p3 p4
  have hsz : W1.heap.size = w.heap.size + 1 := by rw [hW1]; simp
  rw [hsz] at hE0
  rw [← hW1] at hw1
  rw [← hW1]
  have HW : Hid _ := hW1
  clear hW1
  go_loopw [3, 4] (fun v i wr => ∃ (k g cp : Nat) (E : List UInt8), E = stH own seq ++ edB (os.take k) ∧ k ≤ n ∧ i = .int .i64 k ∧ v = .slice (some ⟨g, 0, none⟩) E.length cp ∧ Row wr 1 v E.length (cells8 E) ∧
      W1.heap.size ≤ g ∧ Below W1.heap.size W1 wr)
    (fun _ i _ => n - (intOf i).toNat)
  case atStart => exact ⟨0, w.heap.size + 1, 4, _, rfl, Nat.zero_le _, rfl, rfl, hE0, by omega, hb1⟩
  case round =>
    obtain ⟨k, g, cp, E, hEq, hk, rfl, rfl, hE, hgw, hbel⟩ := hrel
    have hEl : E.length ≤ 19 := by
      have h1 := edB_length (os.take k)
      have h2 : (os.take k).length ≤ 6 := by simp; omega
      rw [hEq, List.length_append, stH_len]; omega
    have HE : Hid (E = stH own seq ++ edB (os.take k)) := hEq
    have HL : Hid (os.length = n) := hl
    have HSZ : Hid (W1.heap.size = w.heap.size + 1) := hsz
    have hwr := below_chain hw1 hbel
    have bx := hbox wr hbel
    clear hEq hE0 hl hb1 hsz
    have m2 : E.length + 2 ≤ maxLen := by unfold maxLen; omega
    have b2 : (E.length + 2) * 1 ≤ 140737488355328 := by omega
    by_cases hlt : k < n
    · have how := ho.2
      rcases how with h0 | ⟨b, off, rfl, hc⟩
      · omega
      have hlo : k < os.length := by rw [HL.out]; exact hlt
      have hbb : b < w.heap.size := World.block_lt_of_cell? w _ (hc k hlo).1
      obtain ⟨c1w, c2w⟩ := hc k hlo
      have c1 := (hwr.cell (p := ⟨b, off + k * 2, none⟩) hbb).trans c1w
      have c2 := (hwr.cell (p := ⟨b, off + k * 2 + 1, none⟩) hbb).trans c2w
      obtain ⟨⟨o1a, o1b⟩, ⟨o2a, o2b⟩⟩ := hall os[k] (List.getElem_mem _)
      have HT : Hid (os.take (k + 1) = os.take k ++ [os[k]]) := List.take_succ_eq_append_getElem hlo
      generalize os[k] = o at c1 c2 HT c1w c2w o1a o1b o2a o2b
      have w1' : IntKind.u8.wrap o.1 = o.1 := IntWalk.u8_in _ ⟨by omega, by omega⟩
      have w2' : IntKind.u8.wrap o.2 = o.2 := IntWalk.u8_in _ ⟨by omega, by omega⟩
      have hgb : b ≠ g := by omega
      have hgw2 : w.heap.size ≠ g := by omega
      clear hc c1w c2w
      have hlt' : (k : Int) < (n : Int) := by omega
      have g0 : (0 : Int) ≤ (k : Int) := by omega
      have n1 := World.new_ne wr _ bx
      have n2 := World.new_ne wr _ c1
      have n3 := World.new_ne wr _ c2
      go_wp2_with (fail)
      go_region_held3 (fun w' => w'.cell? ⟨w.heap.size, 2, none⟩ = some (.slice (some ⟨b, off, none⟩) n cap) ∧ w'.cell? ⟨b, off + k * 2, none⟩ = some (.int .i64 o.1) ∧ w'.cell? ⟨b, off + k * 2 + 1, none⟩ = some (.int .i64 o.2)) (first | go_keep | (refine ⟨?_, ?_, ?_⟩ <;> assumption))
        ((refine step_append_row (by rfl) (.tmp 29) (.tmp 44) 53 (by rfl) 5 i0 (.int .u8 0) 1 1 Try.underlying53 hi hz0 hz1 hz2 (by rfl) (by decide) (.slice (some ⟨g, 0, none⟩) E.length cp) E.length (cells8 E) (by rfl) ((hE.alloc _).drew) _ 2 2 [.int .u8 o.1, .int .u8 o.2] (by rfl) (by rfl) (by decide) (cells_two_drew _ _ _ _) (one_ints _ _ _ _) m2 b2 ?_; intro g' cap' x1 hr1 hg1 hown1; have d0 := far_cell hg1 hgw2 bx; have d1 := far_cell hg1 hgb c1; have d2 := far_cell hg1 hgb c2))
      have hown3 : some g = some g' ∨ wr.heap.size + 1 ≤ g' := by
        rcases hown1 with h | h
        · exact .inl h
        · exact .inr (by have h2 : (wr.alloc (Obj.cells #[Value.int .u8 o.1, Value.int .u8 o.2] 5)).heap.size = wr.heap.size + 1 := by simp
                         rw [← h2]; exact h)
      have R := row_step1 (w := W1) (wr := wr) ⟨hg1.os, hg1.tape, hg1.output, hg1.size, hg1.block⟩ hown3 hgw hbel
      have hr3 : Row x1 1 (.slice (some ⟨g', 0, none⟩) (E.length + 2) cap') (E ++ [St.u8 o.1, St.u8 o.2]).length (cells8 (E ++ [St.u8 o.1, St.u8 o.2])) := by
        rw [cells8_append, List.length_append]
        simp only [cells8, List.map_cons, List.map_nil, u8_nat o.1 (show 0 ≤ o.1 by omega) (show o.1 ≤ 255 by omega), u8_nat o.2 (show 0 ≤ o.2 by omega) (show o.2 ≤ 255 by omega)]
        exact hr1
      have HN : Hid (E ++ [St.u8 o.1, St.u8 o.2] = stH own seq ++ edB (os.take (k + 1))) := by
        show E ++ [St.u8 o.1, St.u8 o.2] = _
        rw [HE.out, HT.out, edB_snoc, List.append_assoc]
      have HLL : Hid ((E ++ [St.u8 o.1, St.u8 o.2]).length = E.length + 2) := by show (E ++ [St.u8 o.1, St.u8 o.2]).length = E.length + 2; simp
      clear hr1 hg1 hown1 hown3 hE hbel d0 d1 d2 bx c1 c2
      go_wp2_with (fail)
      go_roundw
      case rel => exact ⟨k + 1, g', cap', _, HN.out, by omega, by go_num, by rw [HLL.out], hr3, R.1, R.2⟩
      case measure => simp [intOf]; omega
    · have hback : (convert 53 9 (.slice (some ⟨g, 0, none⟩) E.length cp)).run Try.prog wr = .ok (.string ⟨E.toArray⟩) wr := Row.back hE 53 9 5 Try.underlying53 Try.underlying5 Try.underlying9
      have HF : Hid (stB own seq os = E) := by
        show stB own seq os = E
        have hkk : os.take k = os := List.take_of_length_le (by rw [HL.out]; omega)
        rw [HE.out, hkk]; rfl
      clear hE
      go_wp2_with (fail)
      rw [HF.out]
      go_ret
      exact ⟨rfl, hwr⟩
end Go.Proofs.Ytjchmcclmbmggab
