/-
  Blocks of cells; a grid of 7 by 7 numbers, seven hops, as their cells.
-/
import Derived.Test.YtgfjgenkpfdofaaDoorStsIn
import Derived.Deep.WholeRow
namespace Go.Proofs.YtgfjgenkpfdofaaDoor
open Go.RowKit St

theorem Blk.setRow {w : World} {B : Nat} {C D : Array Value} {t : TypeId} (h : Blk w B C t) : Blk (w.setRow B D) B D t := by
  unfold Blk at *
  simp only [World.setRow]
  rw [Array.getElem?_modify, if_pos rfl, h]
  rfl
theorem below_setRow {w a : World} {n B : Nat} (h : Below n w a) (hB : n ≤ B) (D : Array Value) : Below n w (a.setRow B D) := by
  refine ⟨h.os, h.tape, h.output, by simpa [World.setRow] using h.size, fun i hi => ?_⟩
  rw [← h.block i hi]
  simp only [World.setRow]
  rw [Array.getElem?_modify, if_neg (by omega)]
theorem Blk.otherRow {w : World} {B B' : Nat} {C D : Array Value} {t : TypeId} (h : Blk w B C t) (hne : B ≠ B') : Blk (w.setRow B' D) B C t := by
  unfold Blk at *
  simp only [World.setRow]
  rw [Array.getElem?_modify, if_neg (fun e => hne e.symm)]
  exact h

section
variable {P : Program}
theorem Blk.loadFrom {w : World} {B : Nat} {C : Array Value} {t : TypeId} (h : Blk w B C t) (n : Nat) (hn : C.size = n) : (loadCellsFrom ⟨B, 0, none⟩ 0 n #[]).run P w = .ok C w := by
  subst hn
  have := run_loadCells_list (P := P) w ⟨B, 0, none⟩ C.toList (fun j v hv => by
    rw [add_plain, h.cell j]
    simpa using hv)
  simpa [loadCells] using this
theorem Blk.loadAt {w : World} {B : Nat} {C : Array Value} {t : TypeId} (h : Blk w B C t) (n : Nat) (e : TypeId) (hu : P.underlying t = some (.array n e)) (hi : (P.info? t).map (·.size) = some C.size) : (Instr.loadAt t (.pointer (some ⟨B, 0, none⟩))).run P w = .ok (.agg C) w := by
  simp only [Instr.loadAt, Instr.sureAddr, Sem.run_bind, Sem.run_pure, Result.andThen]
  exact run_loadVar_row w B t t C (0, 0) _ h hu rfl hi
theorem Blk.storeFrom {w : World} {B : Nat} {C D : Array Value} {t : TypeId} (h : Blk w B C t) (hs : C.size = D.size) (h1 : D.all (·.oneCell') = true) : (storeCells ⟨B, 0, none⟩ D.toList 0).run P w = .ok () (w.setRow B D) := by
  have := run_storeCells_from (P := P) B t D.toList 0 C w h (by simp; omega) (fun v hv => (Array.all_eq_true_iff_forall_mem.1 h1) v (by simpa using hv))
  rw [this]
  congr 1
theorem Blk.storeAt {w : World} {B : Nat} {C D : Array Value} {t : TypeId} (h : Blk w B C t) (hs : C.size = D.size) (hi : (P.info? t).map (·.size) = some D.size) (h1 : D.all (·.oneCell') = true) : (Instr.storeAt t (.pointer (some ⟨B, 0, none⟩)) (.agg D)).run P w = .ok () (w.setRow B D) := by
  simp only [Instr.storeAt, Instr.sureAddr, Sem.run_bind, Sem.run_pure, Result.andThen]
  exact run_storeVar_row w B t t C D h hi hs h1
theorem wpList_load_blk (w : World) {ops : Array Oper} {rest : List Oper} {o : Oper} {a : Act} {Q : Exit → Act → World → Prop} (hgd : o.guard = none) (x : Operand) (t : TypeId) (ho : o.op = .load t x)
    (B : Nat) (C : Array Value) (n : Nat) (e : TypeId) (hx : a.eval x = .pointer (some ⟨B, 0, none⟩)) (hb : Blk w B C t) (hu : P.underlying t = some (.array n e)) (hi : (P.info? t).map (·.size) = some C.size)
    (h : wpList P ops Q rest (a.put o.dst (.agg C)) w) : wpList P ops Q (o :: rest) a w := by
  refine wpList_plain hgd fun K hK => ?_
  have hr := hb.loadAt n e hu hi
  unfold Oper.wp execOp
  simp only [ho, Sem.run_bind, Sem.run_pure, Result.andThen_ok, hx, hr]
  exact hK _ _ h
theorem wpList_store_blk (w : World) {ops : Array Oper} {rest : List Oper} {o : Oper} {a : Act} {Q : Exit → Act → World → Prop} (hgd : o.guard = none) (x y : Operand) (t : TypeId) (ho : o.op = .store t x y)
    (B : Nat) (C D : Array Value) (hx : a.eval x = .pointer (some ⟨B, 0, none⟩)) (hy : a.eval y = .agg D) (hb : Blk w B C t) (hs : C.size = D.size) (hi : (P.info? t).map (·.size) = some D.size) (h1 : D.all (·.oneCell') = true)
    (h : wpList P ops Q rest (a.put o.dst undef) (w.setRow B D)) : wpList P ops Q (o :: rest) a w := by
  refine wpList_plain hgd fun K hK => ?_
  have hr := hb.storeAt hs hi h1
  unfold Oper.wp execOp
  simp only [ho, Sem.run_bind, Sem.run_pure, Result.andThen_ok, hx, hy, hr]
  exact hK _ _ h
end
abbrev Grid := Nat → Nat → Int
def gC (C : Grid) : Array Value := (Array.range 49).map fun i => .int .i64 (C (i / 7) (i % 7))
theorem gC_size (C : Grid) : (gC C).size = 49 := by simp [gC]
theorem gC_at (C : Grid) (i : Nat) (h : i < 49) : (gC C)[i]? = some (.int .i64 (C (i / 7) (i % 7))) := by simp [gC, h]
theorem gC_get (C : Grid) (a b : Nat) (ha : a < 7) (hb : b < 7) : (gC C)[a * 7 + b]? = some (.int .i64 (C a b)) := by
  rw [gC_at C _ (by omega)]
  rw [show (a * 7 + b) / 7 = a by omega, show (a * 7 + b) % 7 = b by omega]
def updG (C : Grid) (a b : Nat) (v : Int) : Grid := fun x y => if x = a ∧ y = b then v else C x y
theorem gC_set (C : Grid) (a b : Nat) (v : Int) (hb : b < 7) : (gC C).setIfInBounds (a * 7 + b) (.int .i64 v) = gC (updG C a b v) := by
  apply Array.ext_getElem?
  intro i
  rw [Array.getElem?_setIfInBounds]
  by_cases hi : i < 49
  · rw [gC_at _ i hi, gC_at _ i hi, gC_size]
    by_cases e : a * 7 + b = i
    · rw [if_pos e, if_pos (by omega)]
      have h1 : i / 7 = a := by omega
      have h2 : i % 7 = b := by omega
      simp [updG, h1, h2]
    · rw [if_neg e]
      have : ¬ (i / 7 = a ∧ i % 7 = b) := by omega
      simp only [updG, if_neg this]
  · have hs : ∀ D : Grid, (gC D)[i]? = none := fun D => Array.getElem?_eq_none (by rw [gC_size]; omega)
    rw [hs, hs]
    split
    · rw [if_neg (by rw [gC_size]; omega)]
    · rfl
theorem gC_one (C : Grid) : (gC C).all (·.oneCell') = true := by
  rw [Array.all_eq_true_iff_forall_mem]
  intro v hv
  obtain ⟨i, _, rfl⟩ := Array.mem_map.1 hv
  rfl
/-- A hop: to, far, next. -/
structure HP where
  dst : Int
  far : Int
  nxt : Int
def HP.zero : HP := ⟨0, 0, 0⟩
def HP.cells (h : HP) : Array Value := #[.int .i64 h.dst, .int .i64 h.far, .int .i64 h.nxt]
def hopAt (H : Nat → HP) (i : Nat) : Value := .int .i64 (if i % 3 = 0 then (H (i / 3)).dst else if i % 3 = 1 then (H (i / 3)).far else (H (i / 3)).nxt)
def hC (H : Nat → HP) : Array Value := (Array.range 21).map (hopAt H)
theorem hC_size (H : Nat → HP) : (hC H).size = 21 := by simp [hC]
theorem hC_at (H : Nat → HP) (i : Nat) (h : i < 21) : (hC H)[i]? = some (hopAt H i) := by simp [hC, h]
theorem hC_get (H : Nat → HP) (n : Nat) (hn : n < 7) : (hC H)[n * 3]? = some (.int .i64 (H n).dst) ∧ (hC H)[n * 3 + 1]? = some (.int .i64 (H n).far) ∧ (hC H)[n * 3 + 2]? = some (.int .i64 (H n).nxt) := by
  rw [hC_at _ _ (by omega), hC_at _ _ (by omega), hC_at _ _ (by omega)]
  unfold hopAt
  rw [show n * 3 % 3 = 0 by omega, show n * 3 / 3 = n by omega, show (n * 3 + 1) % 3 = 1 by omega, show (n * 3 + 1) / 3 = n by omega, show (n * 3 + 2) % 3 = 2 by omega, show (n * 3 + 2) / 3 = n by omega]
  exact ⟨rfl, rfl, rfl⟩
theorem hC_one (H : Nat → HP) : (hC H).all (·.oneCell') = true := by
  rw [Array.all_eq_true_iff_forall_mem]
  intro v hv
  obtain ⟨i, _, rfl⟩ := Array.mem_map.1 hv
  rfl
def updH (H : Nat → HP) (n : Nat) (p : HP) : Nat → HP := fun x => if x = n then p else H x
theorem hC_set (H : Nat → HP) (n : Nat) (p : HP) (hn : n < 7) : (((hC H).setIfInBounds (n * 3) (.int .i64 p.dst)).setIfInBounds (n * 3 + 1) (.int .i64 p.far)).setIfInBounds (n * 3 + 2) (.int .i64 p.nxt) = hC (updH H n p) := by
  apply Array.ext_getElem?
  intro i
  rw [Array.getElem?_setIfInBounds, Array.getElem?_setIfInBounds, Array.getElem?_setIfInBounds]
  simp only [Array.size_setIfInBounds, hC_size]
  by_cases hi : i < 21
  · rw [hC_at _ i hi, hC_at _ i hi]
    unfold hopAt
    by_cases e : i / 3 = n
    · have hu : updH H n p (i / 3) = p := by simp [updH, e]
      rw [hu]
      rcases (show i % 3 = 0 ∨ i % 3 = 1 ∨ i % 3 = 2 by omega) with h0 | h0 | h0
      · rw [if_neg (show ¬ n * 3 + 2 = i by omega), if_neg (show ¬ n * 3 + 1 = i by omega), if_pos (show n * 3 = i by omega), if_pos (by omega), if_pos h0]
      · rw [if_neg (show ¬ n * 3 + 2 = i by omega), if_pos (show n * 3 + 1 = i by omega), if_pos (by omega), if_neg (by omega), if_pos h0]
      · rw [if_pos (show n * 3 + 2 = i by omega), if_pos (by omega), if_neg (by omega), if_neg (by omega)]
    · have hu : updH H n p (i / 3) = H (i / 3) := by simp [updH, e]
      rw [hu, if_neg (show ¬ n * 3 + 2 = i by omega), if_neg (show ¬ n * 3 + 1 = i by omega), if_neg (show ¬ n * 3 = i by omega)]
  · have hs : ∀ D : Nat → HP, (hC D)[i]? = none := fun D => Array.getElem?_eq_none (by rw [hC_size]; omega)
    rw [hs, hs, if_neg (show ¬ n * 3 + 2 = i by omega), if_neg (show ¬ n * 3 + 1 = i by omega), if_neg (show ¬ n * 3 = i by omega)]
end Go.Proofs.YtgfjgenkpfdofaaDoor
