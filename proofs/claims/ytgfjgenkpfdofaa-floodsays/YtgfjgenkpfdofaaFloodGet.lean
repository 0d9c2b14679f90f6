/-
  A base of states: Get.
-/
import Derived.Test.YtgfjgenkpfdofaaFloodDo
namespace Go.Proofs.Ytgfjgenkpfdofaa
open Go.RowKit St

set_option maxRecDepth 100000 in
set_option maxHeartbeats 4000000 in
theorem get_any (B : Nat) (m : FM) (k : Nat) (kn : Int → Option SV) (ow : Nat → Int → Option SV) (i : Int) (t : SV) (ok : Bool) (fs : List Opt) (w : World) (h : FB w B m k kn ow) (hr : inR i) (hd : (kn i).getD SV.zero = t) (hs : (kn i).isSome = ok) (ht : OptR w t.a t.n fs) (hn : t.n ≤ 1000000) (hnil : NilOk t.a t.cap) :
    Calls Try.prog 23 #[.pointer (some ⟨B, 0, none⟩), .int .i64 i] w fun e w' => ∃ (a : Option Addr) (cap : Nat), e = .returned (.tuple #[.agg #[.int .i64 t.own, .int .i64 t.seq, .slice a fs.length cap], .bool ok]) ∧ OptR w' a fs.length fs ∧ NilOk a cap ∧ Below w.heap.size w w' := by
  obtain ⟨tw, ts, ta, tn, tc⟩ := t
  simp only at ht hn hnil
  have hz := zeroState
  have hb := below_alloc w (.cells #[.int .i64 0, .int .i64 0, .slice none 0 0] 35)
  obtain ⟨W1, hW1⟩ : ∃ W1, w.alloc (.cells #[.int .i64 0, .int .i64 0, .slice none 0 0] 35) = W1 := ⟨_, rfl⟩
  have hbl : W1.heap[w.heap.size]? = some (.cells #[.int .i64 0, .int .i64 0, .slice none 0 0] 35 (0, 0)) := by rw [← hW1]; exact heap_alloc_new w _
  have hs1 : W1.heap.size = w.heap.size + 1 := by rw [← hW1]; simp
  rw [hW1] at hb
  have HW : Hid _ := hW1
  clear hW1
  have h1 := h.below hb
  have hlk : (Instr.lookup 66 (.map (some m.bm)) (.int .i64 i) true).run Try.prog W1 = .ok (.tuple #[.agg #[.int .i64 tw, .int .i64 ts, .slice ta tn tc], .bool ok]) W1 := by
    have := h1.km.look_ok i hr
    rw [hd, hs] at this
    exact this
  have c0 := h1.c0
  have hl := h1.lt
  have hb2 : Below w.heap.size w (W1.alloc (.cells #[.int .i64 tw, .int .i64 ts, .slice ta tn tc] 35)) := hb.alloc hb.size _
  have hcp := copy_any tw ts ta tn tc fs _ hn hnil (ht.below hb2)
  have hY : (W1.alloc (.cells #[.int .i64 tw, .int .i64 ts, .slice ta tn tc] 35)).heap[w.heap.size]? = some (.cells #[.int .i64 0, .int .i64 0, .slice none 0 0] 35 (0, 0)) := by
    rw [Below.heap_alloc _ _ _ (by omega)]
    exact hbl
  have HB : Hid _ := hb2
  have HY : Hid _ := hY
  have HS : Hid _ := hs1
  clear h h1 hd hs ht hb hb2 hY hbl hs1
  go_enter Try.func23, Try.ntmps23
  go_upto_region 1 with fail
  rw [HW.out]
  go_wp2_with (fail)
  refine hcp.mono ?_
  rintro e w2 ⟨⟨va, vc, rfl, vo, vn, vl, vnew⟩, k2⟩
  clear hcp hlk c0
  have hY2 := (k2.block _ (Array.getElem?_eq_some_iff.1 HY.out).1).trans HY.out
  have y0 : w2.cell? ⟨w.heap.size, 0, none⟩ = some (.int .i64 0) := cell_of_row w2 _ 0 _ _ (0, 0) hY2
  have y1 : w2.cell? ⟨w.heap.size, 1, none⟩ = some (.int .i64 0) := cell_of_row w2 _ 1 _ _ (0, 0) hY2
  have y2 : w2.cell? ⟨w.heap.size, 2, none⟩ = some (.slice none 0 0) := cell_of_row w2 _ 2 _ _ (0, 0) hY2
  have fy := fun j => frozen_of_row w2 w.heap.size j _ _ hY2
  have ly : w.heap.size < w2.heap.size := World.block_lt_of_cell? w2 _ y0
  have hk := below_chain HB.out k2
  have HC : Hid (∀ u v x : Value, OptR (((w2.setCell ⟨w.heap.size, 0, none⟩ u).setCell ⟨w.heap.size, 1, none⟩ v).setCell ⟨w.heap.size, 2, none⟩ x) va fs.length fs ∧ NilOk va vc ∧ Below w.heap.size w (((w2.setCell ⟨w.heap.size, 0, none⟩ u).setCell ⟨w.heap.size, 1, none⟩ v).setCell ⟨w.heap.size, 2, none⟩ x)) := by
    intro u v x
    refine ⟨vo.kept (cap := vc) (fun j hj => ?_), vn, ((hk.setCell (Nat.le_refl _) _).setCell (Nat.le_refl _) _).setCell (Nat.le_refl _) _⟩
    have h1 := (vnew j hj).1
    have h2 := HS.out
    have h3 : w.heap.size + 1 ≤ j := by simp at h1; omega
    rw [Below.heap_setCell _ _ _ _ (by show j ≠ w.heap.size; omega), Below.heap_setCell _ _ _ _ (by show j ≠ w.heap.size; omega), Below.heap_setCell _ _ _ _ (by show j ≠ w.heap.size; omega)]
  clear vo vnew k2 hY2 hk
  go_wp2_with (fail)
  refine bodyPost_ret (v := .tuple #[.agg #[.int .i64 tw, .int .i64 ts, .slice va fs.length vc], .bool ok]) (by simp [results, Try.results23, go_sem, y0, y1, y2]) rfl ?_
  exact ⟨va, vc, rfl, HC.out _ _ _⟩
end Go.Proofs.Ytgfjgenkpfdofaa
