/-
  The document's Turn: what it answers, at every state and event.
-/
import Derived.Test.YtgfjgenkpfdofaaDoorAutoWalk
namespace Go.Proofs.YtgfjgenkpfdofaaDoor
open Go.RowKit

/-- The first k rows of the table are laid, one a block. -/
def RowsAt (w0 w : World) (k : Nat) : Prop := w.heap.size = w0.heap.size + k ∧ Below w0.heap.size w0 w ∧ ∀ e s, e < k → s < 10 → w.cell? ⟨w0.heap.size + e, s, none⟩ = some (.string ⟨(cellL s e).toArray⟩)
theorem RowsAt.zero (w : World) : RowsAt w w 0 := ⟨rfl, Below.refl _ _, fun e s he _ => absurd he (by omega)⟩
theorem RowsAt.step {w0 w : World} {k : Nat} (h : RowsAt w0 w k) (C : Array Value) (t : TypeId) (hC : ∀ s, s < 10 → C[s]? = some (.string ⟨(cellL s k).toArray⟩)) : RowsAt w0 (w.alloc (.cells C t)) (k + 1) := by
  refine ⟨by simp [h.1]; omega, h.2.1.alloc h.2.1.size _, fun e s he hs => ?_⟩
  by_cases hk : e = k
  · subst hk
    rw [← h.1, World.cell?_alloc_mark]
    exact hC s hs
  · have hc := h.2.2 e s (by omega) hs
    have := (below_alloc w (.cells C t)).cell (p := ⟨w0.heap.size + e, s, none⟩) (by show w0.heap.size + e < w.heap.size; rw [h.1]; omega)
    exact this.trans hc

section
variable {P : Program}
theorem wpList_rowS (w0 w : World) (k : Nat) (hR : RowsAt w0 w k) {ops : Array Oper} {rest : List Oper} {o : Oper} {a : Act} {Q : Exit → Act → World → Prop} (hgd : o.guard = none) (t e : TypeId) (parts : Array (Nat × Operand)) (ho : o.op = .buildSlice t 10 parts) (C : Array Value)
    (hrun : ∀ w : World, (Instr.buildSlice t 10 (parts.map fun (i, x) => (i, a.eval x))).run P w = .ok (.slice (some ⟨w.heap.size, 0, none⟩) 10 10) (w.alloc (.cells C e)))
    (hC : ∀ s, s < 10 → C[s]? = some (.string ⟨(cellL s k).toArray⟩))
    (h : ∀ w', RowsAt w0 w' (k + 1) → wpList P ops Q rest (a.put o.dst (.slice (some ⟨w0.heap.size + k, 0, none⟩) 10 10)) w') : wpList P ops Q (o :: rest) a w := by
  refine wpList_plain hgd fun K hK => ?_
  have hr := hrun w
  rw [hR.1] at hr
  unfold Oper.wp execOp
  simp only [ho, Sem.run_bind, Sem.run_pure, Result.andThen_ok, hr]
  exact hK _ _ (h _ (hR.step C e hC))
theorem wpList_outS (w0 w : World) (hR : RowsAt w0 w 12) {ops : Array Oper} {rest : List Oper} {o : Oper} {a : Act} {Q : Exit → Act → World → Prop} (hgd : o.guard = none) (t e : TypeId) (parts : Array (Nat × Operand)) (ho : o.op = .buildSlice t 12 parts) (C : Array Value)
    (hrun : ∀ w : World, (Instr.buildSlice t 12 (parts.map fun (i, x) => (i, a.eval x))).run P w = .ok (.slice (some ⟨w.heap.size, 0, none⟩) 12 12) (w.alloc (.cells C e)))
    (hC : ∀ s, s < 12 → C[s]? = some (.slice (some ⟨w0.heap.size + s, 0, none⟩) 10 10))
    (h : ∀ w', Below w0.heap.size w0 w' → (∀ e s, e < 12 → s < 10 → w'.cell? ⟨w0.heap.size + e, s, none⟩ = some (.string ⟨(cellL s e).toArray⟩)) → (∀ e, e < 12 → w'.cell? ⟨w0.heap.size + 12, e, none⟩ = some (.slice (some ⟨w0.heap.size + e, 0, none⟩) 10 10)) →
      wpList P ops Q rest (a.put o.dst (.slice (some ⟨w0.heap.size + 12, 0, none⟩) 12 12)) w') : wpList P ops Q (o :: rest) a w := by
  refine wpList_plain hgd fun K hK => ?_
  have hr := hrun w
  rw [hR.1] at hr
  unfold Oper.wp execOp
  simp only [ho, Sem.run_bind, Sem.run_pure, Result.andThen_ok, hr]
  refine hK _ _ (h _ (hR.2.1.alloc hR.2.1.size _) (fun e' s he hs => ?_) (fun e' he => ?_))
  · have hc := hR.2.2 e' s he hs
    have := (below_alloc w (.cells C e)).cell (p := ⟨w0.heap.size + e', s, none⟩) (by show w0.heap.size + e' < w.heap.size; rw [hR.1]; omega)
    exact this.trans hc
  · rw [← hR.1, World.cell?_alloc_mark]
    exact hC e' he
end
theorem lt_ten (p : Nat → Prop) (h0 : p 0) (h1 : p 1) (h2 : p 2) (h3 : p 3) (h4 : p 4) (h5 : p 5) (h6 : p 6) (h7 : p 7) (h8 : p 8) (h9 : p 9) : ∀ s, s < 10 → p s
  | 0, _ => h0 | 1, _ => h1 | 2, _ => h2 | 3, _ => h3 | 4, _ => h4 | 5, _ => h5 | 6, _ => h6 | 7, _ => h7 | 8, _ => h8 | 9, _ => h9
  | n + 10, h => absurd h (by omega)
theorem lt_twelve (p : Nat → Prop) (h0 : p 0) (h1 : p 1) (h2 : p 2) (h3 : p 3) (h4 : p 4) (h5 : p 5) (h6 : p 6) (h7 : p 7) (h8 : p 8) (h9 : p 9) (h10 : p 10) (h11 : p 11) : ∀ s, s < 12 → p s
  | 0, _ => h0 | 1, _ => h1 | 2, _ => h2 | 3, _ => h3 | 4, _ => h4 | 5, _ => h5 | 6, _ => h6 | 7, _ => h7 | 8, _ => h8 | 9, _ => h9 | 10, _ => h10 | 11, _ => h11
  | n + 12, h => absurd h (by omega)

set_option maxRecDepth 100000 in
set_option maxHeartbeats 4000000 in
theorem turn_none (s e : Nat) (S : ByteArray) (w : World) (hs : s < 10) (he : e < 12) (hS : (⟨(cellL s e).toArray⟩ : ByteArray) = S) (hq : (S.toList == [45]) = true) :
    Calls Tryd.prog 34 #[.int .i64 s, .int .i64 e] w fun x w' => x = .returned (.tuple #[.string ⟨#[]⟩, .int .i64 (-1)]) ∧ Below w.heap.size w w' := by
  have h0 : (0 : Int) ≤ s := by omega
  have h2 : (0 : Int) ≤ e := by omega
  have h4 : (s : Int) < 10 := by omega
  have h5 : (e : Int) < 12 := by omega
  go_enter Tryd.func34, Tryd.ntmps34
  go_wp2_with (refine wpList_rowS w _ 0 (RowsAt.zero w) rfl 86 9 _ rfl #[.string ⟨#[50]⟩, .string ⟨#[105, 114, 54]⟩, .string ⟨#[45]⟩, .string ⟨#[45]⟩, .string ⟨#[45]⟩, .string ⟨#[45]⟩, .string ⟨#[45]⟩, .string ⟨#[45]⟩, .string ⟨#[45]⟩, .string ⟨#[45]⟩] (fun _ => by kernel_rfl) (lt_ten _ rfl rfl rfl rfl rfl rfl rfl rfl rfl rfl) ?_)
  intro w1 R1
  go_wp2_with (refine wpList_rowS w _ 1 R1 rfl 86 9 _ rfl #[.string ⟨#[45]⟩, .string ⟨#[45]⟩, .string ⟨#[48]⟩, .string ⟨#[115, 49]⟩, .string ⟨#[48]⟩, .string ⟨#[49]⟩, .string ⟨#[49]⟩, .string ⟨#[49]⟩, .string ⟨#[49]⟩, .string ⟨#[100, 49]⟩] (fun _ => by kernel_rfl) (lt_ten _ rfl rfl rfl rfl rfl rfl rfl rfl rfl rfl) ?_)
  intro w2 R2
  clear R1
  go_wp2_with (refine wpList_rowS w _ 2 R2 rfl 86 9 _ rfl #[.string ⟨#[115, 49]⟩, .string ⟨#[49]⟩, .string ⟨#[105, 114, 54]⟩, .string ⟨#[51]⟩, .string ⟨#[53]⟩, .string ⟨#[53]⟩, .string ⟨#[54]⟩, .string ⟨#[55]⟩, .string ⟨#[56]⟩, .string ⟨#[57]⟩] (fun _ => by kernel_rfl) (lt_ten _ rfl rfl rfl rfl rfl rfl rfl rfl rfl rfl) ?_)
  intro w3 R3
  clear R2
  go_wp2_with (refine wpList_rowS w _ 3 R3 rfl 86 9 _ rfl #[.string ⟨#[48]⟩, .string ⟨#[102, 48]⟩, .string ⟨#[50]⟩, .string ⟨#[50]⟩, .string ⟨#[52]⟩, .string ⟨#[52]⟩, .string ⟨#[105, 116, 52]⟩, .string ⟨#[105, 116, 52]⟩, .string ⟨#[105, 116, 52]⟩, .string ⟨#[100, 105, 116, 52]⟩] (fun _ => by kernel_rfl) (lt_ten _ rfl rfl rfl rfl rfl rfl rfl rfl rfl rfl) ?_)
  intro w4 R4
  clear R3
  go_wp2_with (refine wpList_rowS w _ 4 R4 rfl 86 9 _ rfl #[.string ⟨#[45]⟩, .string ⟨#[45]⟩, .string ⟨#[45]⟩, .string ⟨#[45]⟩, .string ⟨#[116, 52]⟩, .string ⟨#[116, 53]⟩, .string ⟨#[114, 54]⟩, .string ⟨#[114, 54]⟩, .string ⟨#[114, 56]⟩, .string ⟨#[45]⟩] (fun _ => by kernel_rfl) (lt_ten _ rfl rfl rfl rfl rfl rfl rfl rfl rfl rfl) ?_)
  intro w5 R5
  clear R4
  go_wp2_with (refine wpList_rowS w _ 5 R5 rfl 86 9 _ rfl #[.string ⟨#[45]⟩, .string ⟨#[45]⟩, .string ⟨#[45]⟩, .string ⟨#[45]⟩, .string ⟨#[102, 50]⟩, .string ⟨#[102, 51]⟩, .string ⟨#[102, 51]⟩, .string ⟨#[102, 51]⟩, .string ⟨#[102, 51]⟩, .string ⟨#[45]⟩] (fun _ => by kernel_rfl) (lt_ten _ rfl rfl rfl rfl rfl rfl rfl rfl rfl rfl) ?_)
  intro w6 R6
  clear R5
  go_wp2_with (refine wpList_rowS w _ 6 R6 rfl 86 9 _ rfl #[.string ⟨#[45]⟩, .string ⟨#[45]⟩, .string ⟨#[107, 50]⟩, .string ⟨#[105, 114, 97, 56]⟩, .string ⟨#[52]⟩, .string ⟨#[53]⟩, .string ⟨#[97, 56]⟩, .string ⟨#[97, 117, 57]⟩, .string ⟨#[97, 56]⟩, .string ⟨#[100, 114, 97, 56]⟩] (fun _ => by kernel_rfl) (lt_ten _ rfl rfl rfl rfl rfl rfl rfl rfl rfl rfl) ?_)
  intro w7 R7
  clear R6
  go_wp2_with (refine wpList_rowS w _ 7 R7 rfl 86 9 _ rfl #[.string ⟨#[45]⟩, .string ⟨#[45]⟩, .string ⟨#[107, 50]⟩, .string ⟨#[105, 114, 110, 54]⟩, .string ⟨#[52]⟩, .string ⟨#[53]⟩, .string ⟨#[110, 54]⟩, .string ⟨#[110, 55]⟩, .string ⟨#[110, 54]⟩, .string ⟨#[100, 114, 110, 54]⟩] (fun _ => by kernel_rfl) (lt_ten _ rfl rfl rfl rfl rfl rfl rfl rfl rfl rfl) ?_)
  intro w8 R8
  clear R7
  go_wp2_with (refine wpList_rowS w _ 8 R8 rfl 86 9 _ rfl #[.string ⟨#[45]⟩, .string ⟨#[45]⟩, .string ⟨#[107, 50]⟩, .string ⟨#[107, 51]⟩, .string ⟨#[52]⟩, .string ⟨#[53]⟩, .string ⟨#[105, 55]⟩, .string ⟨#[114, 54]⟩, .string ⟨#[105, 117, 57]⟩, .string ⟨#[100, 114, 54]⟩] (fun _ => by kernel_rfl) (lt_ten _ rfl rfl rfl rfl rfl rfl rfl rfl rfl rfl) ?_)
  intro w9 R9
  clear R8
  go_wp2_with (refine wpList_rowS w _ 9 R9 rfl 86 9 _ rfl #[.string ⟨#[45]⟩, .string ⟨#[45]⟩, .string ⟨#[107, 50]⟩, .string ⟨#[107, 51]⟩, .string ⟨#[52]⟩, .string ⟨#[53]⟩, .string ⟨#[105, 114, 54]⟩, .string ⟨#[114, 54]⟩, .string ⟨#[105, 114, 56]⟩, .string ⟨#[100, 114, 54]⟩] (fun _ => by kernel_rfl) (lt_ten _ rfl rfl rfl rfl rfl rfl rfl rfl rfl rfl) ?_)
  intro w10 R10
  clear R9
  go_wp2_with (refine wpList_rowS w _ 10 R10 rfl 86 9 _ rfl #[.string ⟨#[45]⟩, .string ⟨#[45]⟩, .string ⟨#[107, 50]⟩, .string ⟨#[107, 51]⟩, .string ⟨#[107, 52]⟩, .string ⟨#[107, 53]⟩, .string ⟨#[107, 54]⟩, .string ⟨#[107, 54]⟩, .string ⟨#[107, 54]⟩, .string ⟨#[100, 122, 107, 53]⟩] (fun _ => by kernel_rfl) (lt_ten _ rfl rfl rfl rfl rfl rfl rfl rfl rfl rfl) ?_)
  intro w11 R11
  clear R10
  go_wp2_with (refine wpList_rowS w _ 11 R11 rfl 86 9 _ rfl #[.string ⟨#[45]⟩, .string ⟨#[45]⟩, .string ⟨#[50]⟩, .string ⟨#[51]⟩, .string ⟨#[102, 50]⟩, .string ⟨#[102, 51]⟩, .string ⟨#[54]⟩, .string ⟨#[54]⟩, .string ⟨#[56]⟩, .string ⟨#[100, 114, 54]⟩] (fun _ => by kernel_rfl) (lt_ten _ rfl rfl rfl rfl rfl rfl rfl rfl rfl rfl) ?_)
  intro w12 R12
  clear R11
  go_wp2_with (refine wpList_outS w _ R12 rfl 87 86 _ rfl #[.slice (some ⟨w.heap.size + 0, 0, none⟩) 10 10, .slice (some ⟨w.heap.size + 1, 0, none⟩) 10 10, .slice (some ⟨w.heap.size + 2, 0, none⟩) 10 10, .slice (some ⟨w.heap.size + 3, 0, none⟩) 10 10, .slice (some ⟨w.heap.size + 4, 0, none⟩) 10 10, .slice (some ⟨w.heap.size + 5, 0, none⟩) 10 10, .slice (some ⟨w.heap.size + 6, 0, none⟩) 10 10, .slice (some ⟨w.heap.size + 7, 0, none⟩) 10 10, .slice (some ⟨w.heap.size + 8, 0, none⟩) 10 10, .slice (some ⟨w.heap.size + 9, 0, none⟩) 10 10, .slice (some ⟨w.heap.size + 10, 0, none⟩) 10 10, .slice (some ⟨w.heap.size + 11, 0, none⟩) 10 10] (fun _ => by kernel_rfl) (lt_twelve _ rfl rfl rfl rfl rfl rfl rfl rfl rfl rfl rfl rfl) ?_)
  intro w13 hb hcells hrows
  clear R12
  have c1 := hrows e he
  have c2 := hcells e s he hs
  rw [hS] at c2
  clear hcells hrows
  go_wp2
  go_ret2
  exact ⟨rfl, hb⟩

set_option maxRecDepth 100000 in
set_option maxHeartbeats 4000000 in
theorem turn_some (s e : Nat) (S : ByteArray) (w : World) (hs : s < 10) (he : e < 12) (hS : (⟨(cellL s e).toArray⟩ : ByteArray) = S) (hq : (S.toList == [45]) = false) (n : Nat) (hl : S.size = n + 1) (hn : n ≤ 4) (d : Nat) (hd : (S[n]).toNat = 48 + d) (hd9 : d ≤ 9) :
    Calls Tryd.prog 34 #[.int .i64 s, .int .i64 e] w fun x w' => x = .returned (.tuple #[.string (S.extract 0 n), .int .i64 (d : Int)]) ∧ Below w.heap.size w w' := by
  have h0 : (0 : Int) ≤ s := by omega
  have h2 : (0 : Int) ≤ e := by omega
  have h4 : (s : Int) < 10 := by omega
  have h5 : (e : Int) < 12 := by omega
  have h7 : wrap64 ((S.size : Int) - 1) = n := by unfold wrap64; omega
  have h8 : ((0 : Int) ≤ (n : Int)) := by omega
  have h9 : ((n : Int) ≤ (S.size : Int)) := by omega
  have h10 : ((n : Int) < (S.size : Int)) := by omega
  go_enter Tryd.func34, Tryd.ntmps34
  go_wp2_with (refine wpList_rowS w _ 0 (RowsAt.zero w) rfl 86 9 _ rfl #[.string ⟨#[50]⟩, .string ⟨#[105, 114, 54]⟩, .string ⟨#[45]⟩, .string ⟨#[45]⟩, .string ⟨#[45]⟩, .string ⟨#[45]⟩, .string ⟨#[45]⟩, .string ⟨#[45]⟩, .string ⟨#[45]⟩, .string ⟨#[45]⟩] (fun _ => by kernel_rfl) (lt_ten _ rfl rfl rfl rfl rfl rfl rfl rfl rfl rfl) ?_)
  intro w1 R1
  go_wp2_with (refine wpList_rowS w _ 1 R1 rfl 86 9 _ rfl #[.string ⟨#[45]⟩, .string ⟨#[45]⟩, .string ⟨#[48]⟩, .string ⟨#[115, 49]⟩, .string ⟨#[48]⟩, .string ⟨#[49]⟩, .string ⟨#[49]⟩, .string ⟨#[49]⟩, .string ⟨#[49]⟩, .string ⟨#[100, 49]⟩] (fun _ => by kernel_rfl) (lt_ten _ rfl rfl rfl rfl rfl rfl rfl rfl rfl rfl) ?_)
  intro w2 R2
  clear R1
  go_wp2_with (refine wpList_rowS w _ 2 R2 rfl 86 9 _ rfl #[.string ⟨#[115, 49]⟩, .string ⟨#[49]⟩, .string ⟨#[105, 114, 54]⟩, .string ⟨#[51]⟩, .string ⟨#[53]⟩, .string ⟨#[53]⟩, .string ⟨#[54]⟩, .string ⟨#[55]⟩, .string ⟨#[56]⟩, .string ⟨#[57]⟩] (fun _ => by kernel_rfl) (lt_ten _ rfl rfl rfl rfl rfl rfl rfl rfl rfl rfl) ?_)
  intro w3 R3
  clear R2
  go_wp2_with (refine wpList_rowS w _ 3 R3 rfl 86 9 _ rfl #[.string ⟨#[48]⟩, .string ⟨#[102, 48]⟩, .string ⟨#[50]⟩, .string ⟨#[50]⟩, .string ⟨#[52]⟩, .string ⟨#[52]⟩, .string ⟨#[105, 116, 52]⟩, .string ⟨#[105, 116, 52]⟩, .string ⟨#[105, 116, 52]⟩, .string ⟨#[100, 105, 116, 52]⟩] (fun _ => by kernel_rfl) (lt_ten _ rfl rfl rfl rfl rfl rfl rfl rfl rfl rfl) ?_)
  intro w4 R4
  clear R3
  go_wp2_with (refine wpList_rowS w _ 4 R4 rfl 86 9 _ rfl #[.string ⟨#[45]⟩, .string ⟨#[45]⟩, .string ⟨#[45]⟩, .string ⟨#[45]⟩, .string ⟨#[116, 52]⟩, .string ⟨#[116, 53]⟩, .string ⟨#[114, 54]⟩, .string ⟨#[114, 54]⟩, .string ⟨#[114, 56]⟩, .string ⟨#[45]⟩] (fun _ => by kernel_rfl) (lt_ten _ rfl rfl rfl rfl rfl rfl rfl rfl rfl rfl) ?_)
  intro w5 R5
  clear R4
  go_wp2_with (refine wpList_rowS w _ 5 R5 rfl 86 9 _ rfl #[.string ⟨#[45]⟩, .string ⟨#[45]⟩, .string ⟨#[45]⟩, .string ⟨#[45]⟩, .string ⟨#[102, 50]⟩, .string ⟨#[102, 51]⟩, .string ⟨#[102, 51]⟩, .string ⟨#[102, 51]⟩, .string ⟨#[102, 51]⟩, .string ⟨#[45]⟩] (fun _ => by kernel_rfl) (lt_ten _ rfl rfl rfl rfl rfl rfl rfl rfl rfl rfl) ?_)
  intro w6 R6
  clear R5
  go_wp2_with (refine wpList_rowS w _ 6 R6 rfl 86 9 _ rfl #[.string ⟨#[45]⟩, .string ⟨#[45]⟩, .string ⟨#[107, 50]⟩, .string ⟨#[105, 114, 97, 56]⟩, .string ⟨#[52]⟩, .string ⟨#[53]⟩, .string ⟨#[97, 56]⟩, .string ⟨#[97, 117, 57]⟩, .string ⟨#[97, 56]⟩, .string ⟨#[100, 114, 97, 56]⟩] (fun _ => by kernel_rfl) (lt_ten _ rfl rfl rfl rfl rfl rfl rfl rfl rfl rfl) ?_)
  intro w7 R7
  clear R6
  go_wp2_with (refine wpList_rowS w _ 7 R7 rfl 86 9 _ rfl #[.string ⟨#[45]⟩, .string ⟨#[45]⟩, .string ⟨#[107, 50]⟩, .string ⟨#[105, 114, 110, 54]⟩, .string ⟨#[52]⟩, .string ⟨#[53]⟩, .string ⟨#[110, 54]⟩, .string ⟨#[110, 55]⟩, .string ⟨#[110, 54]⟩, .string ⟨#[100, 114, 110, 54]⟩] (fun _ => by kernel_rfl) (lt_ten _ rfl rfl rfl rfl rfl rfl rfl rfl rfl rfl) ?_)
  intro w8 R8
  clear R7
  go_wp2_with (refine wpList_rowS w _ 8 R8 rfl 86 9 _ rfl #[.string ⟨#[45]⟩, .string ⟨#[45]⟩, .string ⟨#[107, 50]⟩, .string ⟨#[107, 51]⟩, .string ⟨#[52]⟩, .string ⟨#[53]⟩, .string ⟨#[105, 55]⟩, .string ⟨#[114, 54]⟩, .string ⟨#[105, 117, 57]⟩, .string ⟨#[100, 114, 54]⟩] (fun _ => by kernel_rfl) (lt_ten _ rfl rfl rfl rfl rfl rfl rfl rfl rfl rfl) ?_)
  intro w9 R9
  clear R8
  go_wp2_with (refine wpList_rowS w _ 9 R9 rfl 86 9 _ rfl #[.string ⟨#[45]⟩, .string ⟨#[45]⟩, .string ⟨#[107, 50]⟩, .string ⟨#[107, 51]⟩, .string ⟨#[52]⟩, .string ⟨#[53]⟩, .string ⟨#[105, 114, 54]⟩, .string ⟨#[114, 54]⟩, .string ⟨#[105, 114, 56]⟩, .string ⟨#[100, 114, 54]⟩] (fun _ => by kernel_rfl) (lt_ten _ rfl rfl rfl rfl rfl rfl rfl rfl rfl rfl) ?_)
  intro w10 R10
  clear R9
  go_wp2_with (refine wpList_rowS w _ 10 R10 rfl 86 9 _ rfl #[.string ⟨#[45]⟩, .string ⟨#[45]⟩, .string ⟨#[107, 50]⟩, .string ⟨#[107, 51]⟩, .string ⟨#[107, 52]⟩, .string ⟨#[107, 53]⟩, .string ⟨#[107, 54]⟩, .string ⟨#[107, 54]⟩, .string ⟨#[107, 54]⟩, .string ⟨#[100, 122, 107, 53]⟩] (fun _ => by kernel_rfl) (lt_ten _ rfl rfl rfl rfl rfl rfl rfl rfl rfl rfl) ?_)
  intro w11 R11
  clear R10
  go_wp2_with (refine wpList_rowS w _ 11 R11 rfl 86 9 _ rfl #[.string ⟨#[45]⟩, .string ⟨#[45]⟩, .string ⟨#[50]⟩, .string ⟨#[51]⟩, .string ⟨#[102, 50]⟩, .string ⟨#[102, 51]⟩, .string ⟨#[54]⟩, .string ⟨#[54]⟩, .string ⟨#[56]⟩, .string ⟨#[100, 114, 54]⟩] (fun _ => by kernel_rfl) (lt_ten _ rfl rfl rfl rfl rfl rfl rfl rfl rfl rfl) ?_)
  intro w12 R12
  clear R11
  go_wp2_with (refine wpList_outS w _ R12 rfl 87 86 _ rfl #[.slice (some ⟨w.heap.size + 0, 0, none⟩) 10 10, .slice (some ⟨w.heap.size + 1, 0, none⟩) 10 10, .slice (some ⟨w.heap.size + 2, 0, none⟩) 10 10, .slice (some ⟨w.heap.size + 3, 0, none⟩) 10 10, .slice (some ⟨w.heap.size + 4, 0, none⟩) 10 10, .slice (some ⟨w.heap.size + 5, 0, none⟩) 10 10, .slice (some ⟨w.heap.size + 6, 0, none⟩) 10 10, .slice (some ⟨w.heap.size + 7, 0, none⟩) 10 10, .slice (some ⟨w.heap.size + 8, 0, none⟩) 10 10, .slice (some ⟨w.heap.size + 9, 0, none⟩) 10 10, .slice (some ⟨w.heap.size + 10, 0, none⟩) 10 10, .slice (some ⟨w.heap.size + 11, 0, none⟩) 10 10] (fun _ => by kernel_rfl) (lt_twelve _ rfl rfl rfl rfl rfl rfl rfl rfl rfl rfl rfl rfl) ?_)
  intro w13 hb hcells hrows
  clear R12
  have c1 := hrows e he
  have c2 := hcells e s he hs
  rw [hS] at c2
  clear hcells hrows
  go_wp2
  go_quiet (fail)
  go_wp2
  go_ret2
  refine ⟨?_, below_drewN hb _⟩
  rw [show (48 : Int) + (d : Int) - 48 = d by omega]
  rfl

/-- What the document's table answers: below 0: that does not come. -/
theorem turn_any (s e : Nat) (w : World) (hs : s < 10) (he : e < 12) : Calls Tryd.prog 34 #[.int .i64 s, .int .i64 e] w fun x w' =>
    x = .returned (.tuple #[.string ⟨(stepR s e).1.toArray⟩, .int .i64 (if (stepR s e).2.2 = 0 then (stepR s e).2.1 else -1)]) ∧ Below w.heap.size w w' := by
  obtain ⟨l1, l2, l3⟩ := cellL_ok e he s hs
  by_cases hq : cellL s e = [45]
  · refine (turn_none s e _ w hs he rfl (by rw [hq]; decide +kernel)).mono ?_
    rintro x w' ⟨rfl, hb⟩
    have hv : stepR s e = ([], 0, 7) := by unfold stepR; rw [if_pos hq]
    rw [hv]
    exact ⟨rfl, hb⟩
  · obtain ⟨c1, c2⟩ := cellL_cut e he s hs hq
    have l4 := l3.resolve_right hq
    have hv : stepR s e = ((cellL s e).dropLast, (((cellL s e).getLastD 0).toNat : Int) - 48, 0) := by unfold stepR; rw [if_neg hq]
    rw [hv]
    clear hv
    obtain ⟨L, hL⟩ : ∃ L, cellL s e = L := ⟨_, rfl⟩
    rw [hL] at l1 l2 l3 l4 c1 c2 hq ⊢
    have hsz : (⟨L.toArray⟩ : ByteArray).size = (L.length - 1) + 1 := by show L.toArray.size = _; simp; omega
    refine (turn_some s e ⟨L.toArray⟩ w hs he (by rw [hL]) ?_ (L.length - 1) hsz (by omega) ((L.getLastD 0).toNat - 48) ?_ (by omega)).mono ?_
    · rw [beq_eq_false_iff_ne]
      intro hb
      apply hq
      rw [← hb]
      simp [ByteArray.toList_eq]
    · rw [← c2]
      show (L.toArray[L.length - 1]'_).toNat = _
      rw [List.getElem_toArray, List.getD_eq_getElem?_getD, List.getElem?_eq_getElem (by omega)]
      rw [List.getD_eq_getElem?_getD, List.getElem?_eq_getElem (by omega)] at c2
      simp only [Option.getD_some] at c2 ⊢
      rw [c2]
      omega
    · rintro x w' ⟨rfl, hb⟩
      refine ⟨?_, hb⟩
      rw [c1]
      have hz : (((L.getLastD 0).toNat - 48 : Nat) : Int) = ((L.getLastD 0).toNat : Int) - 48 := by omega
      rw [hz]
      rfl
end Go.Proofs.YtgfjgenkpfdofaaDoor
