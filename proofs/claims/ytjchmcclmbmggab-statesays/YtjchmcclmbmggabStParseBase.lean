/-
  Bytes read as a state, what both have in common.
-/
import Derived.Test.YtjchmcclmbmggabStBytes
namespace Go.Proofs.Ytjchmcclmbmggab
open Go.RowKit St

theorem keep_block {wr x1 : World} {o : Obj} {v : Value} {lo b : Nat} (hnew : ∀ k, v.ownBlock = some k → lo + 2 ≤ k) (hg : (wr.alloc o).drew.grownBy x1 v.ownBlock) (hb : b < lo + 2) (hlt : b < wr.heap.size) : x1.heap[b]? = wr.heap[b]? := by
  rw [hg.block b (by show b < (wr.alloc o).heap.size; simp; omega) (fun e => by have := hnew b e.symm; omega)]
  exact Below.heap_alloc wr o b hlt
theorem keep_cell {wr x1 : World} {o : Obj} {v u : Value} {lo j : Nat} (hnew : ∀ k, v.ownBlock = some k → lo + 2 ≤ k) (hg : (wr.alloc o).drew.grownBy x1 v.ownBlock) (hc : wr.cell? ⟨lo + 1, j, none⟩ = some u) : x1.cell? ⟨lo + 1, j, none⟩ = some u := by
  have hlt : lo + 1 < wr.heap.size := World.block_lt_of_cell? wr _ hc
  rw [World.cell?_of_block (w := wr) (a := ⟨lo + 1, j, none⟩) (keep_block (b := lo + 1) hnew hg (by omega) hlt)]
  exact hc
theorem keep_frozen {wr x1 : World} {o : Obj} {v u : Value} {lo j : Nat} (hnew : ∀ k, v.ownBlock = some k → lo + 2 ≤ k) (hg : (wr.alloc o).drew.grownBy x1 v.ownBlock) (hc : wr.cell? ⟨lo + 1, j, none⟩ = some u) (hf : wr.frozen? ⟨lo + 1, j, none⟩ = false) : x1.frozen? ⟨lo + 1, j, none⟩ = false := by
  have hlt : lo + 1 < wr.heap.size := World.block_lt_of_cell? wr _ hc
  rw [World.frozen?_of_block (w := wr) (a := ⟨lo + 1, j, none⟩) (keep_block (b := lo + 1) hnew hg (by omega) hlt)]
  exact hf

theorem pdrop_cons (s : ByteArray) (k : Nat) (h : k < s.size) : s.data.toList.drop k = s[k] :: s.data.toList.drop (k + 1) := by
  rw [List.drop_eq_getElem_cons (by simpa using h)]; rfl
theorem byte_get (s : ByteArray) (k : Nat) (h : k < s.size) : s.data.toList.getD k 0 = s[k] := by
  have h' : k < s.data.toList.length := by simpa using h
  rw [List.getD_eq_getElem?_getD, List.getElem?_eq_getElem h']
  rfl
/-- The result's cells. -/
theorem parse_result {w wr w1 : World} (hrb : wr.heap[w.heap.size]? = some (.cells #[.int .i64 0, .int .i64 0, .slice none 0 0] 62 (0, 0))) (hb : Below wr.heap.size wr w1) :
    w1.cell? ⟨w.heap.size, 0, none⟩ = some (.int .i64 0) ∧ w1.cell? ⟨w.heap.size, 1, none⟩ = some (.int .i64 0) ∧ w1.cell? ⟨w.heap.size, 2, none⟩ = some (.slice none 0 0) ∧ ∀ j, w1.frozen? ⟨w.heap.size, j, none⟩ = false := by
  have hlt : w.heap.size < wr.heap.size := (Array.getElem?_eq_some_iff.1 hrb).1
  have h1 : w1.heap[w.heap.size]? = some (.cells #[.int .i64 0, .int .i64 0, .slice none 0 0] 62 (0, 0)) := by rw [hb.block _ hlt]; exact hrb
  exact ⟨cell_of_row w1 _ 0 _ 62 (0, 0) h1, cell_of_row w1 _ 1 _ 62 (0, 0) h1, cell_of_row w1 _ 2 _ 62 (0, 0) h1, fun j => frozen_of_row w1 _ j _ 62 h1⟩
theorem or_add (x y k : Nat) (hx : x < 2 ^ k) (hs : 2 ^ k * y + x < 2 ^ 62) : bits .or .i64 (x : Int) ((2 ^ k * y : Nat) : Int) = ((2 ^ k * y + x : Nat) : Int) := by
  have h1 : (BitVec.ofInt 64 (x : Int) ||| BitVec.ofInt 64 ((2 ^ k * y : Nat) : Int)).toNat = 2 ^ k * y + x := by
    rw [BitVec.toNat_or, BitVec.ofInt_natCast, BitVec.ofInt_natCast, BitVec.toNat_ofNat, BitVec.toNat_ofNat, Nat.mod_eq_of_lt (by omega), Nat.mod_eq_of_lt (by omega), Nat.or_comm]
    exact (Nat.two_pow_add_eq_or_of_lt hx y).symm
  show IntKind.i64.wrap ((BitVec.ofInt 64 (x : Int) ||| BitVec.ofInt 64 ((2 ^ k * y : Nat) : Int)).toNat : Int) = _
  rw [h1, IntKind.wrap_i64]
  omega
theorem or_1 (x y : Nat) (hx : x < 256) (hy : y < 256) : bits .or .i64 (x : Int) ((y : Int) * (256 : Int)) = (x : Int) + (256 : Int) * (y : Int) := by
  have h := or_add x y 8 (by omega) (by omega)
  have e : ((2 ^ 8 * y : Nat) : Int) = (y : Int) * 256 := by omega
  rw [e] at h
  rw [h]
  omega
theorem or_2 (x y : Nat) (hx : x < 65536) (hy : y < 256) : bits .or .i64 (x : Int) ((y : Int) * (65536 : Int)) = (x : Int) + (65536 : Int) * (y : Int) := by
  have h := or_add x y 16 (by omega) (by omega)
  have e : ((2 ^ 16 * y : Nat) : Int) = (y : Int) * 65536 := by omega
  rw [e] at h
  rw [h]
  omega
/-- What Parse and StateOf answer; E: how the error is told. -/
def ParsedAs (E : Nat → Value) (l : List UInt8) (w : World) (e : Ending) (w' : World) : Prop :=
  ∃ (a : Option Addr) (n cap f : Nat) (own seq : Int) (os : List Opt), e = .returned (.tuple #[.agg #[.int .i64 own, .int .i64 seq, .slice a n cap], E f]) ∧ OptR w' a n os ∧ n ≤ cap ∧ parseR l = (own, seq, os, f) ∧ Below w.heap.size w w'
def numV (f : Nat) : Value := .int .i64 (f : Int)
theorem parseR_good (s : ByteArray) (Q : Int) (h4 : 4 ≤ s.size) (heq : s.size % 2 = 0) (hQ : (s[1].toNat : Int) + (256 : Int) * (s[2].toNat : Int) + (65536 : Int) * (s[3].toNat : Int) = Q) :
    parseR s.data.toList = if stF (s[0].toNat : Int) Q (pairs (s.data.toList.drop 4)) = 0 then ((s[0].toNat : Int), Q, pairs (s.data.toList.drop 4), 0) else (0, 0, [], 4) := by
  have hl : s.data.toList.length = s.size := by simp
  have hq : seqOf s.data.toList = Q := by
    unfold seqOf
    rw [byte_get s 1 (by omega), byte_get s 2 (by omega), byte_get s 3 (by omega), hQ]
  unfold parseR
  rw [hq, byte_get s 0 (by omega), hl, if_neg (by omega)]
/-- Behind the stores into the result. -/
theorem parse_end {w w1 : World} {ao : Option Addr} {k cp : Nat} {ok : List Opt} {x y z : Value} (hrow : Row w1 2 (.slice ao k cp) k (optCells ok)) (hnew : ∀ j, Value.ownBlock (.slice ao k cp) = some j → w.heap.size + 2 ≤ j) (hb : Below w.heap.size w w1) :
    OptR (((w1.setCell ⟨w.heap.size, 0, none⟩ x).setCell ⟨w.heap.size, 1, none⟩ y).setCell ⟨w.heap.size, 2, none⟩ z) ao k ok ∧ Below w.heap.size w (((w1.setCell ⟨w.heap.size, 0, none⟩ x).setCell ⟨w.heap.size, 1, none⟩ y).setCell ⟨w.heap.size, 2, none⟩ z) := by
  refine ⟨Row.opts (hrow.keep (by simp) (fun j hj => ?_)), ((hb.setCell (Nat.le_refl _) _).setCell (Nat.le_refl _) _).setCell (Nat.le_refl _) _⟩
  have := hnew j hj
  rw [Below.heap_setCell _ _ _ _ (by show j ≠ w.heap.size; omega), Below.heap_setCell _ _ _ _ (by show j ≠ w.heap.size; omega), Below.heap_setCell _ _ _ _ (by show j ≠ w.heap.size; omega)]
theorem heap_two_last (w : World) (a b : Obj) : ((w.alloc a).alloc b).drew.heap[w.heap.size + 1]? = some b := by
  have h := heap_alloc_new (w.alloc a) b
  have e : (w.alloc a).heap.size = w.heap.size + 1 := by simp
  rw [e] at h
  exact h
theorem heap_two_first (w : World) (a b : Obj) : ((w.alloc a).alloc b).drew.heap[w.heap.size]? = some a := by
  show ((w.alloc a).alloc b).heap[w.heap.size]? = some a
  rw [Below.heap_alloc (w.alloc a) b w.heap.size (by simp)]
  exact heap_alloc_new w a
/-- Behind a round: what is gathered, the packet's own cells, the result's. -/
theorem parse_step {w wr x1 : World} {ob : Obj} {ao : Option Addr} {k cp g' cap' : Nat} {ok : List Opt} {c d : Int} {x y : Nat}
    (hpb : wr.heap[w.heap.size + 1]? = some (.cells #[.int .i64 c, .int .i64 d, .slice ao k cp] 62 (0, 0)))
    (hrb : wr.heap[w.heap.size]? = some (.cells #[.int .i64 0, .int .i64 0, .slice none 0 0] 62 (0, 0)))
    (_hrow : Row wr 2 (.slice ao k cp) k (optCells ok)) (hnew : ∀ j, Value.ownBlock (.slice ao k cp) = some j → w.heap.size + 2 ≤ j) (hbel : Below w.heap.size w wr)
    (hr : Row x1 2 (.slice (some ⟨g', 0, none⟩) (k + 1) cap') (k + 1) (optCells ok ++ [.int .i64 (IntKind.i64.wrap (x : Int)), .int .i64 (IntKind.i64.wrap (y : Int))]))
    (hg : (wr.alloc ob).drew.grownBy x1 (Value.ownBlock (.slice ao k cp))) (hown : Value.ownBlock (.slice ao k cp) = some g' ∨ (wr.alloc ob).drew.heap.size ≤ g') (hx : x < 2 ^ 8) (hy : y < 2 ^ 8) :
    Row (x1.setCell ⟨w.heap.size + 1, 2, none⟩ (.slice (some ⟨g', 0, none⟩) (k + 1) cap')) 2 (.slice (some ⟨g', 0, none⟩) (k + 1) cap') (k + 1) (optCells (ok ++ [((x : Int), (y : Int))])) ∧
    (x1.setCell ⟨w.heap.size + 1, 2, none⟩ (.slice (some ⟨g', 0, none⟩) (k + 1) cap')).heap[w.heap.size + 1]? = some (.cells #[.int .i64 c, .int .i64 d, .slice (some ⟨g', 0, none⟩) (k + 1) cap'] 62 (0, 0)) ∧
    (x1.setCell ⟨w.heap.size + 1, 2, none⟩ (.slice (some ⟨g', 0, none⟩) (k + 1) cap')).heap[w.heap.size]? = some (.cells #[.int .i64 0, .int .i64 0, .slice none 0 0] 62 (0, 0)) ∧
    (∀ j, Value.ownBlock (.slice (some ⟨g', 0, none⟩) (k + 1) cap') = some j → w.heap.size + 2 ≤ j) ∧ Below w.heap.size w (x1.setCell ⟨w.heap.size + 1, 2, none⟩ (.slice (some ⟨g', 0, none⟩) (k + 1) cap')) := by
  have hlt : w.heap.size + 1 < wr.heap.size := (Array.getElem?_eq_some_iff.1 hpb).1
  have k1 := keep_block (b := w.heap.size + 1) hnew hg (by omega) hlt
  have k0 := keep_block (b := w.heap.size) hnew hg (by omega) (by omega)
  have hs0 : (wr.alloc ob).drew.heap.size = wr.heap.size + 1 := by show (wr.alloc ob).heap.size = _; simp
  have hgl : w.heap.size + 2 ≤ g' := by
    rcases hown with h | h
    · exact hnew g' h
    · omega
  have hp1 : x1.heap[w.heap.size + 1]? = some (.cells #[.int .i64 c, .int .i64 d, .slice ao k cp] 62 (0, 0)) := by rw [k1]; exact hpb
  refine ⟨?_, ?_, ?_, ?_, ?_⟩
  · have ex : IntKind.i64.wrap (x : Int) = (x : Int) := IntWalk.i64_in _ ⟨by omega, by omega⟩
    have ey : IntKind.i64.wrap (y : Int) = (y : Int) := IntWalk.i64_in _ ⟨by omega, by omega⟩
    rw [ex, ey, ← optCells_snoc ok ((x : Int), (y : Int))] at hr
    refine hr.keep (by simp) (fun j hj => ?_)
    have : g' = j := by simpa [Value.ownBlock] using hj
    exact Below.heap_setCell _ _ _ _ (by show j ≠ w.heap.size + 1; omega)
  · rw [setCell_eq_setRow x1 (w.heap.size + 1) 2 _ 62 (0, 0) _ hp1]
    exact setRow_heap x1 _ _ _ 62 (0, 0) hp1
  · rw [Below.heap_setCell _ _ _ _ (by show w.heap.size ≠ w.heap.size + 1; omega), k0]
    exact hrb
  · intro j hj
    have : g' = j := by simpa [Value.ownBlock] using hj
    omega
  · have hb2 : Below w.heap.size w (wr.alloc ob).drew := (hbel.alloc hbel.size _).drew
    refine Below.setCell ?_ (by show w.heap.size ≤ w.heap.size + 1; omega) _
    refine hb2.grown hg (by omega) (fun j hj => ?_)
    have := hnew j hj
    omega

end Go.Proofs.Ytjchmcclmbmggab
