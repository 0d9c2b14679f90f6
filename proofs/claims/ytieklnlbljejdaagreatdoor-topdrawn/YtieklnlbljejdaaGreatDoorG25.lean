/-
  StBytes StParseBase StParse
-/
import Derived.Test.YtieklnlbljejdaaGreatDoorG08
namespace Go.Proofs.YtieklnlbljejdaaGreatDoor
open Go.RowKit St
theorem infoByte : (Tryz.prog.info? 5).map (fun i => (i.zero, i.size, i.bytes)) = some (some (.int .u8 0), 1, 1) := by kernel_rfl
def stH (own seq : Int) : List UInt8 := [St.u8 own, St.u8 (seq % 256), St.u8 (seq / 256 % 256), St.u8 (seq / 65536)]
theorem stH_len (own seq : Int) : (stH own seq).length = 4 := rfl
theorem head_row (w : World) (own seq : Int) (p1 : 1 ≤ own) (p2 : own ≤ 6) (p3 : 1 ≤ seq) (p4 : seq ≤ 1000000) : Row (w.alloc (.cells #[.int .u8 own, .int .u8 (seq % 256), .int .u8 (seq / 256 % 256), .int .u8 (seq / 65536)] 5)) 1 (.slice (some ⟨w.heap.size, 0, none⟩) 4 4) 4 (cells8 [St.u8 own, St.u8 (seq % 256), St.u8 (seq / 256 % 256), St.u8 (seq / 65536)]) := by
 refine Row.made w 1 _ _ (0, 0) 4 4 _ rfl rfl (Nat.le_refl _) (by decide) (.inl rfl) ?_
 intro j u hu
 simp only [cells8, List.map_cons, List.map_nil, u8_nat own (by omega) (by omega), u8_nat (seq % 256) (by omega) (by omega), u8_nat (seq / 256 % 256) (by omega) (by omega), u8_nat (seq / 65536) (by omega) (by omega)] at hu
 simpa using hu
set_option maxRecDepth 100000 in
set_option maxHeartbeats 2000000 in
theorem bytes_good (own seq : Int) (a : Option Addr) (n cap : Nat) (os : List Opt) (w : World) (ho : OptR w a n os) (hf : stF own seq os = 0) :
 Calls Tryz.prog 198 #[.agg #[.int .i64 own, .int .i64 seq, .slice a n cap]] w fun e w' => e = .returned (.tuple #[.string ⟨(stB own seq os).toArray⟩, .nilIface]) ∧ Below w.heap.size w w' := by
 obtain ⟨i0, hi, hz0, hz1, hz2⟩ := info_parts infoByte
 obtain ⟨⟨p1, p2⟩, ⟨p3, p4⟩, p5, p6⟩ := stF_zero hf
 have hall := edgF_all own os 0 p6
 have hl := ho.1
 have hw1 := below_alloc w (.cells #[.int .i64 own, .int .i64 seq, .slice a n cap] 40)
 have hcall := scheck_any own seq a n cap os _ (by omega) (ho.below hw1)
 have e0 : errV 0 = .nilIface := rfl
 rw [hf, e0] at hcall
 clear e0 p6 hf
 go_enter Tryz.func198, Tryz.ntmps198
 go_wp2_with (fail)
 refine hcall.mono ?_
 rintro e w1 ⟨rfl, hb1⟩
 obtain ⟨q0, q1, q2, hz⟩ := box3 hb1
 have hw2 := below_chain hw1 hb1
 clear hb1 hcall hw1
 go_wp2_with (fail)
 have hE0 : Row (w1.alloc (.cells #[.int .u8 own, .int .u8 (seq % 256), .int .u8 (seq / 256 % 256), .int .u8 (seq / 65536)] 5)) 1 (.slice (some ⟨w1.heap.size, 0, none⟩) 4 4) 4 (cells8 [St.u8 own, St.u8 (seq % 256), St.u8 (seq / 256 % 256), St.u8 (seq / 65536)]) := head_row w1 own seq p1 p2 p3 p4
 have hb0 : Below w.heap.size w (w1.alloc (.cells #[.int .u8 own, .int .u8 (seq % 256), .int .u8 (seq / 256 % 256), .int .u8 (seq / 65536)] 5)) := hw2.alloc hw2.size _
 go_loopw [5, 31] (fun v i wr => ∃ (k g cp : Nat) (E : List UInt8), E = stH own seq ++ edB (os.take k) ∧ k ≤ n ∧ i = .int .i64 k ∧ v = .slice (some ⟨g, 0, none⟩) E.length cp ∧ Row wr 1 v E.length (cells8 E) ∧
  w.heap.size ≤ g ∧ Below w.heap.size w wr)
  (fun _ i _ => n - (intOf i).toNat)
 case atStart => exact ⟨0, w1.heap.size, 4, _, rfl, Nat.zero_le _, rfl, rfl, hE0, hw2.size, hb0⟩
 case round =>
  obtain ⟨k, g, cp, E, hEq, hk, rfl, rfl, hE, hgw, hbel⟩ := hrel
  have hEl : E.length ≤ 19 := by
   have h1 := edB_length (os.take k)
   have h2 : (os.take k).length ≤ 6 := by simp; omega
   rw [hEq, List.length_append, stH_len]; omega
  have HE : Hid (E = stH own seq ++ edB (os.take k)) := hEq
  have HL : Hid (os.length = n) := hl
  clear hEq hE0 hb0 hl
  have m2 : E.length + 2 ≤ maxLen := by unfold maxLen; omega
  have b2 : (E.length + 2) * 1 ≤ 140737488355328 := by omega
  by_cases hlt : k < n
  · have hor := ho.below hbel
    rcases hor.2 with h0 | ⟨b, off, rfl, hc⟩
    · omega
    have hlo : k < os.length := by rw [HL.out]; exact hlt
    obtain ⟨c1, c2⟩ := hc k hlo
    obtain ⟨⟨o1a, o1b⟩, ⟨o2a, o2b⟩⟩ := hall os[k] (List.getElem_mem _)
    have HT : Hid (os.take (k + 1) = os.take k ++ [os[k]]) := List.take_succ_eq_append_getElem hlo
    generalize os[k] = o at c1 c2 HT o1a o1b o2a o2b
    clear hc hor
    have hlt' : (k : Int) < (n : Int) := by omega
    have hw3 : Below w.heap.size w (wr.alloc (.cells #[.int .i64 o.1, .int .i64 o.2] 123)) := hbel.alloc hbel.size _
    have hE3 : Row (wr.alloc (.cells #[.int .i64 o.1, .int .i64 o.2] 123)) 1 (.slice (some ⟨g, 0, none⟩) E.length cp) E.length (cells8 E) := hE.alloc _
    go_wp2_with (at_builtin; go_must (refine wpList_append_row _ rfl (.tmp 35) (.tmp 42) 140 rfl 5 i0 (.int .u8 0) 1 1 Tryz.underlying140 hi hz0 hz1 hz2 rfl (by decide) _ E.length (cells8 E) rfl (hE3.alloc _) _ 2 2 [.int .u8 o.1, .int .u8 o.2] rfl rfl (by decide) ?hcc (one_ints _ _ _ _) m2 b2 ?_))
    case hcc =>
     have := cells_two (wr.alloc (.cells #[.int .i64 o.1, .int .i64 o.2] 123)) (.int .u8 o.1) (.int .u8 o.2) 5
     simpa using this
    intro g2 cap2 w2 hr2 hgr2 hown2
    have hown3 : some g = some g2 ∨ (wr.alloc (.cells #[.int .i64 o.1, .int .i64 o.2] 123)).heap.size + 1 ≤ g2 := by
     rcases hown2 with h | h
     · exact .inl h
     · exact .inr (by simp; omega)
    have R := row_step1 hgr2 hown3 hgw hw3
    have hr3 : Row w2 1 (.slice (some ⟨g2, 0, none⟩) (E.length + 2) cap2) (E ++ [St.u8 o.1, St.u8 o.2]).length (cells8 (E ++ [St.u8 o.1, St.u8 o.2])) := by
     rw [cells8_append, List.length_append]
     simp only [cells8, List.map_cons, List.map_nil, u8_nat o.1 (show 0 ≤ o.1 by omega) (show o.1 ≤ 255 by omega), u8_nat o.2 (show 0 ≤ o.2 by omega) (show o.2 ≤ 255 by omega)]
     exact hr2
    have HN : Hid (E ++ [St.u8 o.1, St.u8 o.2] = stH own seq ++ edB (os.take (k + 1))) := by
     show E ++ [St.u8 o.1, St.u8 o.2] = _
     rw [HE.out, HT.out, edB_snoc, List.append_assoc]
    have HLL : Hid ((E ++ [St.u8 o.1, St.u8 o.2]).length = E.length + 2) := by show (E ++ [St.u8 o.1, St.u8 o.2]).length = E.length + 2; simp
    clear hr2 hgr2 hown2 hown3 hE hbel hw3 hE3
    go_wp2_with (fail)
    go_roundw
    case rel => exact ⟨k + 1, g2, cap2, _, HN.out, by omega, by go_num, by rw [HLL.out], hr3, R.1, R.2⟩
    case measure => simp [intOf]; omega
  · have hback : (convert 140 9 (.slice (some ⟨g, 0, none⟩) E.length cp)).run Tryz.prog wr = .ok (.string ⟨E.toArray⟩) wr := Row.back hE 140 9 5 Tryz.underlying140 Tryz.underlying5 Tryz.underlying9
    have HF : Hid (stB own seq os = E) := by
     show stB own seq os = E
     have hkk : os.take k = os := List.take_of_length_le (by rw [HL.out]; omega)
     rw [HE.out, hkk]; rfl
    clear hE
    go_wp2_with (fail)
    rw [HF.out]
    go_ret2
    exact ⟨rfl, hbel⟩
theorem cells_two_drew (w : World) (x y : Value) (t : TypeId) : ∀ (j : Nat) (u : Value), [x, y][j]? = some u → (w.alloc (.cells #[x, y] t)).drew.cell? ((⟨w.heap.size, 0, none⟩ : Addr).add j) = some u := fun j u hu => cells_two w x y t j u hu
end Go.Proofs.YtieklnlbljejdaaGreatDoor

namespace Go.Proofs.YtieklnlbljejdaaGreatDoor
open Go.RowKit St
theorem keep_block {wr x1 : World} {o : Obj} {v : Value} {lo b : Nat} (hnew : ∀ k, v.ownBlock = some k → lo + 2 ≤ k) (hg : (wr.alloc o).drew.grownBy x1 v.ownBlock) (hb : b < lo + 2) (hlt : b < wr.heap.size) : x1.heap[b]? = wr.heap[b]? := by
 rw [hg.block b (by show b < (wr.alloc o).heap.size; simp; omega) (fun e => by have := hnew b e.symm; omega)]
 exact Below.heap_alloc wr o b hlt
theorem keep_cell {wr x1 : World} {o : Obj} {v u : Value} {lo j : Nat} (hnew : ∀ k, v.ownBlock = some k → lo + 2 ≤ k) (hg : (wr.alloc o).drew.grownBy x1 v.ownBlock) (hc : wr.cell? ⟨lo + 1, j, none⟩ = some u) : x1.cell? ⟨lo + 1, j, none⟩ = some u := by
 have hlt : lo + 1 < wr.heap.size := World.block_lt_of_cell? wr _ hc
 rw [World.cell?_of_block (w := wr) (a := ⟨lo + 1, j, none⟩) (keep_block (b := lo + 1) hnew hg (by omega) hlt)]
 exact hc
theorem keep_frozen {wr x1 : World} {o : Obj} {v u : Value} {lo j : Nat} (hnew : ∀ k, v.ownBlock = some k → lo + 2 ≤ k) (hg : (wr.alloc o).drew.grownBy x1 v.ownBlock) (hc : wr.cell? ⟨lo + 1, j, none⟩ = some u) (hf : wr.frozen? ⟨lo + 1, j, none⟩ = false) : x1.frozen? ⟨lo + 1, j, none⟩ = false := by
 have hlt : lo + 1 < wr.heap.size := World.block_lt_of_cell? wr _ hc
 rw [World.frozen?_of_block (w := wr) (a := ⟨lo + 1, j, none⟩) (keep_block (b := lo + 1) hnew hg (by omega) hlt)]
 exact hf
theorem pdrop_cons (s : ByteArray) (k : Nat) (h : k < s.size) : s.data.toList.drop k = s[k] :: s.data.toList.drop (k + 1) := by
 rw [List.drop_eq_getElem_cons (by simpa using h)]; rfl
theorem parse_result {w wr w1 : World} (hrb : wr.heap[w.heap.size]? = some (.cells #[.int .i64 0, .int .i64 0, .slice none 0 0] 40 (0, 0))) (hb : Below wr.heap.size wr w1) :
 w1.cell? ⟨w.heap.size, 0, none⟩ = some (.int .i64 0) ∧ w1.cell? ⟨w.heap.size, 1, none⟩ = some (.int .i64 0) ∧ w1.cell? ⟨w.heap.size, 2, none⟩ = some (.slice none 0 0) ∧ ∀ j, w1.frozen? ⟨w.heap.size, j, none⟩ = false := by
 have hlt : w.heap.size < wr.heap.size := (Array.getElem?_eq_some_iff.1 hrb).1
 have h1 : w1.heap[w.heap.size]? = some (.cells #[.int .i64 0, .int .i64 0, .slice none 0 0] 40 (0, 0)) := by rw [hb.block _ hlt]; exact hrb
 exact ⟨cell_of_row w1 _ 0 _ 40 (0, 0) h1, cell_of_row w1 _ 1 _ 40 (0, 0) h1, cell_of_row w1 _ 2 _ 40 (0, 0) h1, fun j => frozen_of_row w1 _ j _ 40 h1⟩
theorem or_add (x y k : Nat) (hx : x < 2 ^ k) (hs : 2 ^ k * y + x < 2 ^ 62) : bits .or .i64 (x : Int) ((2 ^ k * y : Nat) : Int) = ((2 ^ k * y + x : Nat) : Int) := by
 have h1 : (BitVec.ofInt 64 (x : Int) ||| BitVec.ofInt 64 ((2 ^ k * y : Nat) : Int)).toNat = 2 ^ k * y + x := by
  rw [BitVec.toNat_or, BitVec.ofInt_natCast, BitVec.ofInt_natCast, BitVec.toNat_ofNat, BitVec.toNat_ofNat, Nat.mod_eq_of_lt (by omega), Nat.mod_eq_of_lt (by omega), Nat.or_comm]
  exact (Nat.two_pow_add_eq_or_of_lt hx y).symm
 show IntKind.i64.wrap ((BitVec.ofInt 64 (x : Int) ||| BitVec.ofInt 64 ((2 ^ k * y : Nat) : Int)).toNat : Int) = _
 rw [h1, IntKind.wrap_i64]
 omega
theorem or_1 (x y : Nat) (hx : x < 256) (hy : y < 256) : bits .or .i64 (x : Int) ((y : Int) * (256 : Int)) = (x : Int) + (256 : Int) * (y : Int) := by
 have h := or_add x y 8 (by omega) (by omega)
 have e : ((2 ^ 8 * y : Nat) : Int) = (y : Int) * 256 := by omega
 rw [e] at h
 rw [h]
 omega
theorem or_2 (x y : Nat) (hx : x < 65536) (hy : y < 256) : bits .or .i64 (x : Int) ((y : Int) * (65536 : Int)) = (x : Int) + (65536 : Int) * (y : Int) := by
 have h := or_add x y 16 (by omega) (by omega)
 have e : ((2 ^ 16 * y : Nat) : Int) = (y : Int) * 65536 := by omega
 rw [e] at h
 rw [h]
 omega
def ParsedAs2 (E : Nat → Value) (l : List UInt8) (w : World) (e : Ending) (w' : World) : Prop :=
 ∃ (a : Option Addr) (n cap f : Nat) (own seq : Int) (os : List Opt), e = .returned (.tuple #[.agg #[.int .i64 own, .int .i64 seq, .slice a n cap], E f]) ∧ OptR w' a n os ∧ n ≤ cap ∧ parseR l = (own, seq, os, f) ∧ Below w.heap.size w w' ∧ NilOk a cap
theorem parseR_good (s : ByteArray) (Q : Int) (h4 : 4 ≤ s.size) (heq : s.size % 2 = 0) (hQ : (s[1].toNat : Int) + (256 : Int) * (s[2].toNat : Int) + (65536 : Int) * (s[3].toNat : Int) = Q) :
 parseR s.data.toList = if stF (s[0].toNat : Int) Q (pairs (s.data.toList.drop 4)) = 0 then ((s[0].toNat : Int), Q, pairs (s.data.toList.drop 4), 0) else (0, 0, [], 4) := by
 have hl : s.data.toList.length = s.size := by simp
 have hq : seqOf s.data.toList = Q := by
  unfold seqOf
  rw [byte_get s 1 (by omega), byte_get s 2 (by omega), byte_get s 3 (by omega), hQ]
 unfold parseR
 rw [hq, byte_get s 0 (by omega), hl, if_neg (by omega)]
theorem parse_end {w w1 : World} {ao : Option Addr} {k cp : Nat} {ok : List Opt} {x y z : Value} (hrow : Row w1 2 (.slice ao k cp) k (optCells ok)) (hnew : ∀ j, Value.ownBlock (.slice ao k cp) = some j → w.heap.size + 2 ≤ j) (hb : Below w.heap.size w w1) :
 OptR (((w1.setCell ⟨w.heap.size, 0, none⟩ x).setCell ⟨w.heap.size, 1, none⟩ y).setCell ⟨w.heap.size, 2, none⟩ z) ao k ok ∧ Below w.heap.size w (((w1.setCell ⟨w.heap.size, 0, none⟩ x).setCell ⟨w.heap.size, 1, none⟩ y).setCell ⟨w.heap.size, 2, none⟩ z) := by
 refine ⟨Row.opts (hrow.keep (by simp) (fun j hj => ?_)), ((hb.setCell (Nat.le_refl _) _).setCell (Nat.le_refl _) _).setCell (Nat.le_refl _) _⟩
 have := hnew j hj
 rw [Below.heap_setCell _ _ _ _ (by show j ≠ w.heap.size; omega), Below.heap_setCell _ _ _ _ (by show j ≠ w.heap.size; omega), Below.heap_setCell _ _ _ _ (by show j ≠ w.heap.size; omega)]
theorem heap_two_last (w : World) (a b : Obj) : ((w.alloc a).alloc b).drew.heap[w.heap.size + 1]? = some b := by
 have h := heap_alloc_new (w.alloc a) b
 have e : (w.alloc a).heap.size = w.heap.size + 1 := by simp
 rw [e] at h
 exact h
theorem heap_two_first (w : World) (a b : Obj) : ((w.alloc a).alloc b).drew.heap[w.heap.size]? = some a := by
 show ((w.alloc a).alloc b).heap[w.heap.size]? = some a
 rw [Below.heap_alloc (w.alloc a) b w.heap.size (by simp)]
 exact heap_alloc_new w a
theorem parse_step {w wr x1 : World} {ob : Obj} {ao : Option Addr} {k cp g' cap' : Nat} {ok : List Opt} {c d : Int} {x y : Nat}
 (hpb : wr.heap[w.heap.size + 1]? = some (.cells #[.int .i64 c, .int .i64 d, .slice ao k cp] 40 (0, 0)))
 (hrb : wr.heap[w.heap.size]? = some (.cells #[.int .i64 0, .int .i64 0, .slice none 0 0] 40 (0, 0)))
 (_hrow : Row wr 2 (.slice ao k cp) k (optCells ok)) (hnew : ∀ j, Value.ownBlock (.slice ao k cp) = some j → w.heap.size + 2 ≤ j) (hbel : Below w.heap.size w wr)
 (hr : Row x1 2 (.slice (some ⟨g', 0, none⟩) (k + 1) cap') (k + 1) (optCells ok ++ [.int .i64 (IntKind.i64.wrap (x : Int)), .int .i64 (IntKind.i64.wrap (y : Int))]))
 (hg : (wr.alloc ob).drew.grownBy x1 (Value.ownBlock (.slice ao k cp))) (hown : Value.ownBlock (.slice ao k cp) = some g' ∨ (wr.alloc ob).drew.heap.size ≤ g') (hx : x < 2 ^ 8) (hy : y < 2 ^ 8) :
 Row (x1.setCell ⟨w.heap.size + 1, 2, none⟩ (.slice (some ⟨g', 0, none⟩) (k + 1) cap')) 2 (.slice (some ⟨g', 0, none⟩) (k + 1) cap') (k + 1) (optCells (ok ++ [((x : Int), (y : Int))])) ∧
 (x1.setCell ⟨w.heap.size + 1, 2, none⟩ (.slice (some ⟨g', 0, none⟩) (k + 1) cap')).heap[w.heap.size + 1]? = some (.cells #[.int .i64 c, .int .i64 d, .slice (some ⟨g', 0, none⟩) (k + 1) cap'] 40 (0, 0)) ∧
 (x1.setCell ⟨w.heap.size + 1, 2, none⟩ (.slice (some ⟨g', 0, none⟩) (k + 1) cap')).heap[w.heap.size]? = some (.cells #[.int .i64 0, .int .i64 0, .slice none 0 0] 40 (0, 0)) ∧
 (∀ j, Value.ownBlock (.slice (some ⟨g', 0, none⟩) (k + 1) cap') = some j → w.heap.size + 2 ≤ j) ∧ Below w.heap.size w (x1.setCell ⟨w.heap.size + 1, 2, none⟩ (.slice (some ⟨g', 0, none⟩) (k + 1) cap')) := by
 have hlt : w.heap.size + 1 < wr.heap.size := (Array.getElem?_eq_some_iff.1 hpb).1
 have k1 := keep_block (b := w.heap.size + 1) hnew hg (by omega) hlt
 have k0 := keep_block (b := w.heap.size) hnew hg (by omega) (by omega)
 have hs0 : (wr.alloc ob).drew.heap.size = wr.heap.size + 1 := by show (wr.alloc ob).heap.size = _; simp
 have hgl : w.heap.size + 2 ≤ g' := by
  rcases hown with h | h
  · exact hnew g' h
  · omega
 have hp1 : x1.heap[w.heap.size + 1]? = some (.cells #[.int .i64 c, .int .i64 d, .slice ao k cp] 40 (0, 0)) := by rw [k1]; exact hpb
 refine ⟨?_, ?_, ?_, ?_, ?_⟩
 · have ex : IntKind.i64.wrap (x : Int) = (x : Int) := IntWalk.i64_in _ ⟨by omega, by omega⟩
   have ey : IntKind.i64.wrap (y : Int) = (y : Int) := IntWalk.i64_in _ ⟨by omega, by omega⟩
   rw [ex, ey, ← optCells_snoc ok ((x : Int), (y : Int))] at hr
   refine hr.keep (by simp) (fun j hj => ?_)
   have : g' = j := by simpa [Value.ownBlock] using hj
   exact Below.heap_setCell _ _ _ _ (by show j ≠ w.heap.size + 1; omega)
 · rw [setCell_eq_setRow x1 (w.heap.size + 1) 2 _ 40 (0, 0) _ hp1]
   exact setRow_heap x1 _ _ _ 40 (0, 0) hp1
 · rw [Below.heap_setCell _ _ _ _ (by show w.heap.size ≠ w.heap.size + 1; omega), k0]
   exact hrb
 · intro j hj
   have : g' = j := by simpa [Value.ownBlock] using hj
   omega
 · have hb2 : Below w.heap.size w (wr.alloc ob).drew := (hbel.alloc hbel.size _).drew
   refine Below.setCell ?_ (by show w.heap.size ≤ w.heap.size + 1; omega) _
   refine hb2.grown hg (by omega) (fun j hj => ?_)
   have := hnew j hj
   omega
end Go.Proofs.YtieklnlbljejdaaGreatDoor

namespace Go.Proofs.YtieklnlbljejdaaGreatDoor
open Go.RowKit St
set_option maxRecDepth 100000 in
set_option maxHeartbeats 4000000 in
theorem parse_good (s : ByteArray) (w : World) (h4 : 4 ≤ s.size) (hs : s.size ≤ 16) (heq : s.size % 2 = 0) :
 Calls Tryz.prog 188 #[.string s] w fun e w' => ParsedAs2 errV s.data.toList w e w' := by
 obtain ⟨i0, hi, hz0, hz1, hz2⟩ := info_parts infoEdge
 have hz := zeroState
 have g1 : ¬ (s.size : Int) < 4 := by omega
 have g2 : ¬ (16 : Int) < (s.size : Int) := by omega
 have g3 : (((s.size : Int) - 4) % 2 != 0) = false := by rw [bne_eq_false_iff_eq]; omega
 have HE : Hid _ := heq
 clear heq
 have b0 : 0 < s.size := by omega
 have b1 : 1 < s.size := by omega
 have b2 : 2 < s.size := by omega
 have b3 : 3 < s.size := by omega
 have hb0 := s[0].toNat_lt
 have hb1 := s[1].toNat_lt
 have hb2 := s[2].toNat_lt
 have hb3 := s[3].toNat_lt
 have z0 : (0 : Int) < (s.size : Int) := by omega
 have z1 : (1 : Int) < (s.size : Int) := by omega
 have z2 : (2 : Int) < (s.size : Int) := by omega
 have z3 : (3 : Int) < (s.size : Int) := by omega
 obtain ⟨Q, hQ⟩ : ∃ Q : Int, (s[1].toNat : Int) + (256 : Int) * (s[2].toNat : Int) + (65536 : Int) * (s[3].toNat : Int) = Q := ⟨_, rfl⟩
 have ho1 := or_1 s[1].toNat s[2].toNat (by omega) (by omega)
 have ho2 : bits .or .i64 ((s[1].toNat : Int) + (256 : Int) * (s[2].toNat : Int)) ((s[3].toNat : Int) * (65536 : Int)) = Q := by
  have := or_2 (s[1].toNat + 256 * s[2].toNat) s[3].toNat (by omega) (by omega)
  push_cast at this
  rw [this, hQ]
 have HQQ : Hid _ := hQ
 go_enter Tryz.func188, Tryz.ntmps188
 go_wp2_with (fail)
 go_region
 go_wp2_with (fail)
 try rw [HQQ.out]
 try clear hQ
 try clear ho1
 try clear ho2
 obtain ⟨X0, hX0⟩ : ∃ X0 : Int, (s[0].toNat : Int) = X0 := ⟨_, rfl⟩
 have HX0 : Hid _ := hX0
 rw [hX0]
 clear hX0 hb0 hb1 hb2 hb3
 go_loopw [5] (fun i wr => ∃ (k cp : Nat) (ao : Option Addr) (ok : List Opt), 4 + 2 * k ≤ s.size ∧ i = .int .i64 ((4 + 2 * k : Nat) : Int) ∧ ok.length = k ∧ pairs (s.data.toList.drop 4) = ok ++ pairs (s.data.toList.drop (4 + 2 * k)) ∧ Row wr 2 (.slice ao k cp) k (optCells ok) ∧
  wr.heap[w.heap.size + 1]? = some (.cells #[.int .i64 X0, .int .i64 Q, .slice ao k cp] 40 (0, 0)) ∧ wr.heap[w.heap.size]? = some (.cells #[.int .i64 0, .int .i64 0, .slice none 0 0] 40 (0, 0)) ∧
  (∀ j, Value.ownBlock (.slice ao k cp) = some j → w.heap.size + 2 ≤ j) ∧ Below w.heap.size w wr)
  (fun i _ => s.size - (intOf i).toNat)
 case atStart =>
  refine ⟨0, 0, none, [], by omega, rfl, rfl, rfl, Row.nil _ _, ?_, ?_, fun j hj => by simp [Value.ownBlock] at hj, (((Below.refl _ _).alloc (Nat.le_refl _) _).alloc (by simp) _).drew⟩
  · exact heap_two_last w _ _
  · exact heap_two_first w _ _
 case round =>
  obtain ⟨k, cp, ao, ok, hk, rfl, hok, hP0, hrow, hpb, hrb, hnew, hbel⟩ := hrel
  have hP : Hid _ := hP0
  clear hP0
  have cv : wr.cell? ⟨w.heap.size + 1, 2, none⟩ = some (.slice ao k cp) := cell_of_row wr _ 2 _ 40 (0, 0) hpb
  have fv : wr.frozen? ⟨w.heap.size + 1, 2, none⟩ = false := frozen_of_row wr _ 2 _ 40 hpb
  have hzz : w.heap.size + 1 < wr.heap.size := World.block_lt_of_cell? wr _ cv
  have HPB : Hid _ := hpb
  have HRB : Hid _ := hrb
  clear hpb hrb
  by_cases hlt : 4 + 2 * k < s.size
  · have hlt1 : 4 + 2 * k + 1 < s.size := by have := HE.out; omega
    obtain ⟨q, hq⟩ : ∃ q, q = 4 + 2 * k := ⟨_, rfl⟩
    rw [← hq] at hlt hlt1
    have HQ : Hid (q = 4 + 2 * k) := hq
    have y0 : (0 : Int) ≤ (q : Int) := by omega
    have y1 : (q : Int) < (s.size : Int) := by omega
    have y2 : (q : Int) + 1 < (s.size : Int) := by omega
    have y3 : (0 : Int) ≤ (q : Int) + 1 := by omega
    have yw : IntKind.i64.wrap ((q : Int) + 1) = (q : Int) + 1 := IntWalk.i64_in _ ⟨by omega, by omega⟩
    have hbq := s[q].toNat_lt
    have hbq1 := s[q + 1].toNat_lt
    have m1 : k + 1 ≤ maxLen := by unfold maxLen; omega
    have bb1 : (k + 1) * 16 ≤ 140737488355328 := by omega
    rw [← hq]
    clear hq
    have HP2 : Hid (pairs (s.data.toList.drop 4) = (ok ++ [((s[q].toNat : Int), (s[q + 1].toNat : Int))]) ++ pairs (s.data.toList.drop (4 + 2 * (k + 1)))) := by
     show pairs (s.data.toList.drop 4) = _
     rw [hP.out, ← HQ.out, pdrop_cons s q hlt, pdrop_cons s (q + 1) hlt1]
     have e1 : q + 1 + 1 = 4 + 2 * (k + 1) := by have := HQ.out; omega
     rw [e1]
     simp [pairs]
    go_wp2_with (fail)
    go_region_law ((refine step_append_row (by rfl) (.tmp 47) (.tmp 58) 38 (by rfl) 123 i0 (.agg #[.int .i64 0, .int .i64 0]) 2 16 Tryz.underlying38 hi hz0 hz1 hz2 (by rfl) (by decide) (.slice ao k cp) k (optCells ok) (by rfl) ((hrow.alloc _).drew) _ 1 1 [.int .i64 (IntKind.i64.wrap (s[q].toNat : Int)), .int .i64 (IntKind.i64.wrap (s[q + 1].toNat : Int))] (by rfl) (by rfl) (by decide) (cells_two_drew _ _ _ _) (one_ints _ _ _ _) m1 bb1 ?_; intro g' cap' x1 hr1 hg1 hown1; have c1 := keep_cell hnew hg1 cv; have f1 := keep_frozen hnew hg1 cv fv))
    all_goals have hS := parse_step (c := X0) (d := Q) HPB.out HRB.out hrow hnew hbel hr1 hg1 hown1 s[q].toNat_lt s[q + 1].toNat_lt
    all_goals clear hr1 hg1 hown1 c1 f1
    all_goals go_wp2_with (fail)
    all_goals go_roundw
    all_goals first
     | exact ⟨k + 1, cap', some ⟨g', 0, none⟩, _, by have := HQ.out; omega, by have := HQ.out; go_num, by simp [hok], HP2.out, hS⟩
     | (simp [intOf]; omega)
  · have hkm : 4 + 2 * k = s.size := by omega
    have hoks : pairs (s.data.toList.drop 4) = ok := by
     rw [hP.out, hkm, List.drop_eq_nil_of_le (by show s.size ≤ s.size; omega)]
     simp [pairs]
    have hopt := hrow.opts
    have hcp : k ≤ cp ∧ NilOk ao cp := ⟨hrow.cap_le, fun e => by
     rcases hrow.2 with ⟨e1, _⟩ | ⟨g, c, e1, _⟩
     · exact (Value.slice.inj e1).2.2
     · rw [e] at e1; cases (Value.slice.inj e1).1⟩
    have c0 : wr.cell? ⟨w.heap.size + 1, 0, none⟩ = some (.int .i64 X0) := cell_of_row wr _ 0 _ 40 (0, 0) HPB.out
    have c1 : wr.cell? ⟨w.heap.size + 1, 1, none⟩ = some (.int .i64 Q) := cell_of_row wr _ 1 _ 40 (0, 0) HPB.out
    have hcall := scheck_any X0 Q ao k cp ok wr (by omega) hopt
    have HK : Hid (pairs (s.data.toList.drop 4) = ok) := hoks
    clear hP hoks hkm
    by_cases hf : stF X0 Q ok = 0
    · have e0 : errV 0 = .nilIface := rfl
      rw [hf, e0] at hcall
      clear e0
      have HF : Hid _ := hf
      clear hf
      go_wp2_with (fail)
      refine hcall.mono ?_
      rintro e w1 ⟨rfl, hb1⟩
      have d0 := (hb1.cell (p := ⟨w.heap.size + 1, 0, none⟩) hzz).trans c0
      have d1 := (hb1.cell (p := ⟨w.heap.size + 1, 1, none⟩) hzz).trans c1
      have d2 := (hb1.cell (p := ⟨w.heap.size + 1, 2, none⟩) hzz).trans cv
      obtain ⟨r0, r1, r2, r3⟩ := parse_result HRB.out hb1
      have hw2 := below_chain hbel hb1
      have hE := parse_end (x := .int .i64 X0) (y := .int .i64 Q) (z := .slice ao k cp) (hrow.below hb1) hnew hw2
      have HV : Hid (parseR s.data.toList = (X0, Q, ok, 0)) := by
       show parseR s.data.toList = _
       rw [parseR_good s Q h4 HE.out HQQ.out, HX0.out, HK.out, if_pos HF.out]
      clear hcall hb1 c0 c1 cv hrow
      go_wp2_with (fail)
      refine bodyPost_ret (v := .tuple #[.agg #[.int .i64 X0, .int .i64 Q, .slice ao k cp], .nilIface]) (by simp [results, Tryz.results188, go_sem, r0, r1, r2]) rfl ?_
      exact ⟨ao, k, cp, 0, _, _, ok, rfl, hE.1, hcp.1, HV.out, hE.2, hcp.2⟩
    · have e0 : errV (stF X0 Q ok) = .iface 128 (.int .i64 (stF X0 Q ok : Int)) := by simp [errV, hf]
      rw [e0] at hcall
      clear e0
      have HF : Hid _ := hf
      clear hf
      have HV : Hid (parseR s.data.toList = (0, 0, [], 4)) := by
       show parseR s.data.toList = _
       rw [parseR_good s Q h4 HE.out HQQ.out, HX0.out, HK.out, if_neg HF.out]
      generalize stF X0 Q ok = ff at hcall
      go_wp2_with (fail)
      refine hcall.mono ?_
      rintro e w1 ⟨rfl, hb1⟩
      obtain ⟨r0, r1, r2, r3⟩ := parse_result HRB.out hb1
      have hw2 := below_chain hbel hb1
      have hE := parse_end (ok := []) (ao := none) (k := 0) (cp := 0) (x := .int .i64 0) (y := .int .i64 0) (z := .slice none 0 0) (Row.nil w1 2) (fun j hj => by simp [Value.ownBlock] at hj) hw2
      clear hcall hb1 c0 c1 cv hrow hopt
      go_wp2_with (fail)
      refine bodyPost_ret (v := .tuple #[.agg #[.int .i64 0, .int .i64 0, .slice none 0 0], .iface 128 (.int .i64 4)]) (by simp [results, Tryz.results188, go_sem, r0, r1, r2]) rfl ?_
      exact ⟨none, 0, 0, 4, 0, 0, [], rfl, hE.1, Nat.le_refl _, HV.out, hE.2, fun _ => rfl⟩
set_option maxRecDepth 100000 in
set_option maxHeartbeats 2000000 in
theorem parse_bad (s : ByteArray) (w : World) (hs : s.size ≤ maxLen) (h : parseR s.data.toList = (0, 0, [], 4)) (hb : s.size < 4 ∨ 16 < s.size ∨ s.size % 2 = 1) :
 Calls Tryz.prog 188 #[.string s] w fun e w' => ParsedAs2 errV s.data.toList w e w' := by
 have hz := zeroState
 have HV : Hid _ := h
 clear h
 unfold maxLen at hs
 have hw1 := below_alloc w (.cells #[.int .i64 0, .int .i64 0, .slice none 0 0] 40)
 have hnil : OptR (w.alloc (.cells #[.int .i64 0, .int .i64 0, .slice none 0 0] 40)) none 0 [] := ⟨rfl, .inl rfl⟩
 have g0 : (0 : Int) ≤ (s.size : Int) := by omega
 rcases (show s.size < 4 ∨ (4 ≤ s.size ∧ 16 < s.size) ∨ (4 ≤ s.size ∧ s.size ≤ 16 ∧ s.size % 2 = 1) by omega) with h1 | h1 | h1
 · have g1 : (s.size : Int) < 4 := by omega
   go_enter Tryz.func188, Tryz.ntmps188
   go_wp2_with (fail)
   refine bodyPost_ret (v := .tuple #[.agg #[.int .i64 0, .int .i64 0, .slice none 0 0], .iface 128 (.int .i64 4)]) (by simp [results, Tryz.results188, go_sem]) rfl ?_
   exact ⟨none, 0, 0, 4, 0, 0, [], rfl, hnil, Nat.le_refl _, HV.out, hw1, fun _ => rfl⟩
 · have g1 : ¬ (s.size : Int) < 4 := by omega
   have g2 : (16 : Int) < (s.size : Int) := by omega
   go_enter Tryz.func188, Tryz.ntmps188
   go_wp2_with (fail)
   refine bodyPost_ret (v := .tuple #[.agg #[.int .i64 0, .int .i64 0, .slice none 0 0], .iface 128 (.int .i64 4)]) (by simp [results, Tryz.results188, go_sem]) rfl ?_
   exact ⟨none, 0, 0, 4, 0, 0, [], rfl, hnil, Nat.le_refl _, HV.out, hw1, fun _ => rfl⟩
 · have g1 : ¬ (s.size : Int) < 4 := by omega
   have g2 : ¬ (16 : Int) < (s.size : Int) := by omega
   have g3 : (((s.size : Int) - 4) % 2 != 0) = true := by rw [bne_iff_ne]; omega
   clear hb h1
   go_enter Tryz.func188, Tryz.ntmps188
   go_wp2_with (fail)
   refine bodyPost_ret (v := .tuple #[.agg #[.int .i64 0, .int .i64 0, .slice none 0 0], .iface 128 (.int .i64 4)]) (by simp [results, Tryz.results188, go_sem]) rfl ?_
   exact ⟨none, 0, 0, 4, 0, 0, [], rfl, hnil, Nat.le_refl _, HV.out, hw1, fun _ => rfl⟩
theorem parse_any2 (s : ByteArray) (w : World) (hs : s.size ≤ maxLen) : Calls Tryz.prog 188 #[.string s] w fun e w' => ParsedAs2 errV s.data.toList w e w' := by
 have hl : s.data.toList.length = s.size := by simp
 by_cases h3 : s.size < 4 ∨ 16 < s.size ∨ s.size % 2 = 1
 · refine parse_bad s w hs ?_ h3
   by_cases h16 : 16 < s.size
   · exact parseR_long _ (by omega)
   · unfold parseR
     rw [hl, if_pos (by omega)]
 · exact parse_good s w (by omega) (by omega) (by omega)
end Go.Proofs.YtieklnlbljejdaaGreatDoor
