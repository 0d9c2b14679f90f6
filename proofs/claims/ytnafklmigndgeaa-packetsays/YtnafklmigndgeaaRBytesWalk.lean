/-
  The document's PacketBytes, of a packet that may be.
-/
import Derived.Test.YtnafklmigndgeaaFaultWalk
namespace Go.Proofs.Ytnafklmigndgeaa
open Go.RowKit Plain

theorem far_cell {wr x1 : World} {ob : Obj} {g b o : Nat} {u : Value} (hg : (wr.alloc ob).drew.grownBy x1 (some g)) (hne : b ≠ g) (hc : wr.cell? ⟨b, o, none⟩ = some u) : x1.cell? ⟨b, o, none⟩ = some u := by
  have hlt : b < wr.heap.size := World.block_lt_of_cell? wr _ hc
  have h1 : x1.heap[b]? = wr.heap[b]? := by
    rw [hg.block b (by show b < (wr.alloc ob).heap.size; simp; omega) (fun e => by simp at e; omega)]
    exact Below.heap_alloc wr ob b hlt
  rw [World.cell?_of_block (w := wr) (a := ⟨b, o, none⟩) h1]
  exact hc

set_option maxRecDepth 100000 in
set_option maxHeartbeats 4000000 in
theorem rbytes_good (code id : Int) (a : Option Addr) (n cap : Nat) (os : List Opt) (w : World) (ho : OptR w a n os) (hf : packF code id os = 0) :
    Calls Try.prog 24 #[.agg #[.int .i64 code, .int .i64 id, .slice a n cap]] w fun e w' => e = .returned (.string ⟨(packB code id os).toArray⟩) ∧ Below w.heap.size w w' := by
  obtain ⟨i0, hi, hz0, hz1, hz2⟩ := info_parts info5
  obtain ⟨p1, p2, ⟨p3, p4⟩, p5, p6, p7⟩ := packF_zero hf
  have hall := optF_all os [] p7
  have hl := ho.1
  have hw1 : Below w.heap.size w (w.alloc (.cells #[.int .i64 code, .int .i64 id, .slice a n cap] 47)) := (Below.refl _ _).alloc (Nat.le_refl _) _
  clear p6 p7 hf
  go_enter Try.func24, Try.ntmps24
  go_wp2_with (fail)
  obtain ⟨W1, hW1⟩ : ∃ W1, W1 = w.alloc (.cells #[.int .i64 code, .int .i64 id, .slice a n cap] 47) := ⟨_, rfl⟩
  have hz : w.heap.size < W1.heap.size := by rw [hW1]; simp
  have hb1 : Below W1.heap.size W1 (W1.alloc (.cells #[.int .u8 code, .int .u8 id, .int .u8 (n : Int)] 5)) := (Below.refl _ _).alloc (Nat.le_refl _) _
  have hbox : ∀ wq, Below W1.heap.size W1 wq → wq.cell? ⟨w.heap.size, 2, none⟩ = some (.slice a n cap) := by
    intro wq hq
    rw [hW1] at hq
    exact (box_cells hq).2.2.1
  have hE0 : Row (W1.alloc (.cells #[.int .u8 code, .int .u8 id, .int .u8 (n : Int)] 5)) 1 (.slice (some ⟨W1.heap.size, 0, none⟩) 3 3) 3 (cells8 [u8 code, u8 id, u8 os.length]) := by
    refine Row.made W1 1 5 _ (0, 0) 3 3 _ rfl rfl (Nat.le_refl _) (by decide) (.inl rfl) ?_
    intro j u hu
    simp only [cells8, List.map_cons, List.map_nil, u8_nat code (by omega) (by omega), u8_nat id p3 p4, hl, u8_nat (n : Int) (by omega) (by omega)] at hu
    simpa using hu
  have hsz : W1.heap.size = w.heap.size + 1 := by rw [hW1]; simp
  rw [hsz] at hE0
  rw [← hW1] at hw1
  rw [← hW1]
  have HW : Hid _ := hW1
  clear hW1
  go_loopw [3, 4] (fun v i wr => ∃ (k g cp : Nat) (E : List UInt8), E = u8 code :: u8 id :: u8 os.length :: optsB (os.take k) ∧ k ≤ n ∧ i = .int .i64 k ∧ v = .slice (some ⟨g, 0, none⟩) E.length cp ∧ Row wr 1 v E.length (cells8 E) ∧
      W1.heap.size ≤ g ∧ Below W1.heap.size W1 wr)
    (fun _ i _ => n - (intOf i).toNat)
  case atStart => exact ⟨0, w.heap.size + 1, 3, _, rfl, Nat.zero_le _, rfl, rfl, hE0, by omega, hb1⟩
  case round =>
    obtain ⟨k, g, cp, E, hEq, hk, rfl, rfl, hE, hgw, hbel⟩ := hrel
    have hEl : E.length ≤ 19 := by
      have h1 := optsB_length (os.take k)
      have h2 : (os.take k).length ≤ 8 := by simp; omega
      rw [hEq]; simp only [List.length_cons]; omega
    have HE : Hid (E = u8 code :: u8 id :: u8 os.length :: optsB (os.take k)) := hEq
    have HL : Hid (os.length = n) := hl
    have HSZ : Hid (W1.heap.size = w.heap.size + 1) := hsz
    have hwr := below_chain hw1 hbel
    have bx := hbox wr hbel
    clear hEq hE0 hl hb1 hsz
    have m2 : E.length + 2 ≤ maxLen := by unfold maxLen; omega
    have b2 : (E.length + 2) * 1 ≤ 140737488355328 := by omega
    by_cases hlt : k < n
    · have hor := ho.below hwr
      have how := ho.2
      rcases how with h0 | ⟨b, off, rfl, hc⟩
      · omega
      have hlo : k < os.length := by rw [HL.out]; exact hlt
      have hbb : b < w.heap.size := World.block_lt_of_cell? w _ (hc k hlo).1
      obtain ⟨c1w, c2w⟩ := hc k hlo
      have c1 := (hwr.cell (p := ⟨b, off + k * 2, none⟩) hbb).trans c1w
      have c2 := (hwr.cell (p := ⟨b, off + k * 2 + 1, none⟩) hbb).trans c2w
      obtain ⟨a1, a2⟩ := hall os[k] (List.getElem_mem _)
      have HT : Hid (os.take (k + 1) = os.take k ++ [os[k]]) := List.take_succ_eq_append_getElem hlo
      generalize os[k] = o at c1 c2 HT a1 a2 c1w c2w
      obtain ⟨o1a, o1b⟩ := (isB_iff o.1).mp a1
      obtain ⟨o2a, o2b⟩ := (isB_iff o.2).mp a2
      have w1' : IntKind.u8.wrap o.1 = o.1 := IntWalk.u8_in _ ⟨by omega, by omega⟩
      have w2' : IntKind.u8.wrap o.2 = o.2 := IntWalk.u8_in _ ⟨by omega, by omega⟩
      have hgb : b ≠ g := by omega
      have hgw2 : w.heap.size ≠ g := by omega
      clear hc a1 a2 hor c1w c2w
      have hlt' : (k : Int) < (n : Int) := by omega
      have g0 : (0 : Int) ≤ (k : Int) := by omega
      have n1 := World.new_ne wr _ bx
      have n2 := World.new_ne wr _ c1
      have n3 := World.new_ne wr _ c2
      go_wp2_with (fail)
      go_region_held3 (fun w' => w'.cell? ⟨w.heap.size, 2, none⟩ = some (.slice (some ⟨b, off, none⟩) n cap) ∧ w'.cell? ⟨b, off + k * 2, none⟩ = some (.int .i64 o.1) ∧ w'.cell? ⟨b, off + k * 2 + 1, none⟩ = some (.int .i64 o.2)) (first | go_keep | (refine ⟨?_, ?_, ?_⟩ <;> assumption))
        ((refine step_append_row (by rfl) (.tmp 23) (.tmp 38) 62 (by rfl) 5 i0 (.int .u8 0) 1 1 Try.underlying62 hi hz0 hz1 hz2 (by rfl) (by decide) (.slice (some ⟨g, 0, none⟩) E.length cp) E.length (cells8 E) (by rfl) ((hE.alloc _).drew) _ 2 2 [.int .u8 o.1, .int .u8 o.2] (by rfl) (by rfl) (by decide) (cells_two_drew _ _ _ _) (one_ints _ _ _ _) m2 b2 ?_; intro g' cap' x1 hr1 hg1 hown1; have d0 := far_cell hg1 hgw2 bx; have d1 := far_cell hg1 hgb c1; have d2 := far_cell hg1 hgb c2))
      have hown3 : some g = some g' ∨ wr.heap.size + 1 ≤ g' := by
        rcases hown1 with h | h
        · exact .inl h
        · exact .inr (by have h2 : (wr.alloc (Obj.cells #[Value.int .u8 o.1, Value.int .u8 o.2] 5)).heap.size = wr.heap.size + 1 := by simp
                         rw [← h2]; exact h)
      have R := row_step1 (w := W1) (wr := wr) ⟨hg1.os, hg1.tape, hg1.output, hg1.size, hg1.block⟩ hown3 hgw hbel
      have hr3 : Row x1 1 (.slice (some ⟨g', 0, none⟩) (E.length + 2) cap') (E ++ [u8 o.1, u8 o.2]).length (cells8 (E ++ [u8 o.1, u8 o.2])) := by
        rw [cells8_append, List.length_append]
        simp only [cells8, List.map_cons, List.map_nil, u8_nat o.1 o1a o1b, u8_nat o.2 o2a o2b]
        exact hr1
      have HN : Hid (E ++ [u8 o.1, u8 o.2] = u8 code :: u8 id :: u8 os.length :: optsB (os.take (k + 1))) := by
        show E ++ [u8 o.1, u8 o.2] = _
        rw [HE.out, HT.out, optsB_snoc]
        rfl
      have HLL : Hid ((E ++ [u8 o.1, u8 o.2]).length = E.length + 2) := by show (E ++ [u8 o.1, u8 o.2]).length = E.length + 2; simp
      clear hr1 hg1 hown1 hown3 hE hbel d0 d1 d2 bx c1 c2
      go_wp2_with (fail)
      go_roundw
      case rel => exact ⟨k + 1, g', cap', _, HN.out, by omega, by go_num, by rw [HLL.out], hr3, R.1, R.2⟩
      case measure => simp [intOf]; omega
    · have hback : (convert 62 9 (.slice (some ⟨g, 0, none⟩) E.length cp)).run Try.prog wr = .ok (.string ⟨E.toArray⟩) wr := Row.back hE 62 9 5 Try.underlying62 Try.underlying5 Try.underlying9
      have HF : Hid (packB code id os = E) := by
        show packB code id os = E
        have hkk : os.take k = os := List.take_of_length_le (by rw [HL.out]; omega)
        rw [HE.out, hkk]; rfl
      clear hE
      go_wp2_with (fail)
      rw [HF.out]
      go_ret
      exact ⟨rfl, hwr⟩
end Go.Proofs.Ytnafklmigndgeaa
