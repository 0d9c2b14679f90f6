/-
  PkParse
-/
import Derived.Test.YtieklnlbljejdaaGreatDoorG06
import Derived.Deep.RegionLaw
import Derived.Deep.RegionHeld3
import Derived.Deep.DrawnRows
namespace Go.Proofs.YtieklnlbljejdaaGreatDoor
open Go.RowKit Plain
theorem infoOptK : (Tryz.prog.info? 276).map (fun i => (i.zero, i.size, i.bytes)) = some (some (.agg #[.int .i64 0, .int .i64 0]), 2, 16) := by kernel_rfl
theorem zeroPk (w : World) : (zeroValue 37).run Tryz.prog w = .ok (.agg #[.int .i64 0, .int .i64 0, .slice none 0 0]) w := by kernel_rfl
theorem pkcells_two_drew (w : World) (x y : Value) (t : TypeId) : ∀ (j : Nat) (u : Value), [x, y][j]? = some u → (w.alloc (.cells #[x, y] t)).drew.cell? ((⟨w.heap.size, 0, none⟩ : Addr).add j) = some u := fun j u hu => cells_two w x y t j u hu
theorem pkkeep_block {wr x1 : World} {o : Obj} {v : Value} {lo b : Nat} (hnew : ∀ k, v.ownBlock = some k → lo + 2 ≤ k) (hg : (wr.alloc o).drew.grownBy x1 v.ownBlock) (hb : b < lo + 2) (hlt : b < wr.heap.size) : x1.heap[b]? = wr.heap[b]? := by
 rw [hg.block b (by show b < (wr.alloc o).heap.size; simp; omega) (fun e => by have := hnew b e.symm; omega)]
 exact Below.heap_alloc wr o b hlt
theorem pkkeep_cell {wr x1 : World} {o : Obj} {v u : Value} {lo j : Nat} (hnew : ∀ k, v.ownBlock = some k → lo + 2 ≤ k) (hg : (wr.alloc o).drew.grownBy x1 v.ownBlock) (hc : wr.cell? ⟨lo + 1, j, none⟩ = some u) : x1.cell? ⟨lo + 1, j, none⟩ = some u := by
 have hlt : lo + 1 < wr.heap.size := World.block_lt_of_cell? wr _ hc
 rw [World.cell?_of_block (w := wr) (a := ⟨lo + 1, j, none⟩) (pkkeep_block (b := lo + 1) hnew hg (by omega) hlt)]
 exact hc
theorem pkkeep_frozen {wr x1 : World} {o : Obj} {v u : Value} {lo j : Nat} (hnew : ∀ k, v.ownBlock = some k → lo + 2 ≤ k) (hg : (wr.alloc o).drew.grownBy x1 v.ownBlock) (hc : wr.cell? ⟨lo + 1, j, none⟩ = some u) (hf : wr.frozen? ⟨lo + 1, j, none⟩ = false) : x1.frozen? ⟨lo + 1, j, none⟩ = false := by
 have hlt : lo + 1 < wr.heap.size := World.block_lt_of_cell? wr _ hc
 rw [World.frozen?_of_block (w := wr) (a := ⟨lo + 1, j, none⟩) (pkkeep_block (b := lo + 1) hnew hg (by omega) hlt)]
 exact hf
def pkpairs : List UInt8 → List Opt
 | k :: n :: r => ((k.toNat : Int), (n.toNat : Int)) :: pkpairs r
 | _ => []
theorem pkdrop_cons (s : ByteArray) (k : Nat) (h : k < s.size) : s.data.toList.drop k = s[k] :: s.data.toList.drop (k + 1) := by
 rw [List.drop_eq_getElem_cons (by simpa using h)]; rfl
theorem pkparse_result {w wr w1 : World} (hrb : wr.heap[w.heap.size]? = some (.cells #[.int .i64 0, .int .i64 0, .slice none 0 0] 37 (0, 0))) (hb : Below wr.heap.size wr w1) :
 w1.cell? ⟨w.heap.size, 0, none⟩ = some (.int .i64 0) ∧ w1.cell? ⟨w.heap.size, 1, none⟩ = some (.int .i64 0) ∧ w1.cell? ⟨w.heap.size, 2, none⟩ = some (.slice none 0 0) ∧ ∀ j, w1.frozen? ⟨w.heap.size, j, none⟩ = false := by
 have hlt : w.heap.size < wr.heap.size := (Array.getElem?_eq_some_iff.1 hrb).1
 have h1 : w1.heap[w.heap.size]? = some (.cells #[.int .i64 0, .int .i64 0, .slice none 0 0] 37 (0, 0)) := by rw [hb.block _ hlt]; exact hrb
 exact ⟨cell_of_row w1 _ 0 _ 37 (0, 0) h1, cell_of_row w1 _ 1 _ 37 (0, 0) h1, cell_of_row w1 _ 2 _ 37 (0, 0) h1, fun j => frozen_of_row w1 _ j _ 37 h1⟩
def pkParseR (l : List UInt8) : Int × Int × List Opt × Nat :=
 if l.length < 3 ∨ (l.length : Int) ≠ (3 : Int) + (2 : Int) * ((l.getD 2 0).toNat : Int) then (0, 0, [], 4)
 else if packF ((l.getD 0 0).toNat : Int) ((l.getD 1 0).toNat : Int) (pkpairs (l.drop 3)) = 0 then (((l.getD 0 0).toNat : Int), ((l.getD 1 0).toNat : Int), pkpairs (l.drop 3), 0)
 else (0, 0, [], 4)
def PkParsed (l : List UInt8) (w : World) (e : Ending) (w' : World) : Prop :=
 ∃ (a : Option Addr) (n cap f : Nat) (code id : Int) (os : List Opt), e = .returned (.tuple #[.agg #[.int .i64 code, .int .i64 id, .slice a n cap], errV f]) ∧ OptR w' a n os ∧ n ≤ cap ∧ pkParseR l = (code, id, os, f) ∧ Below w.heap.size w w' ∧ (∀ j, Value.ownBlock (.slice a n cap) = some j → w.heap.size ≤ j ∧ j < w'.heap.size) ∧ NilOk a cap
theorem pkParseR_good (s : ByteArray) (h3 : 3 ≤ s.size) (heq : (s.size : Int) = (3 : Int) + (2 : Int) * (s[2].toNat : Int)) :
 pkParseR s.data.toList = if packF (s[0].toNat : Int) (s[1].toNat : Int) (pkpairs (s.data.toList.drop 3)) = 0 then ((s[0].toNat : Int), (s[1].toNat : Int), pkpairs (s.data.toList.drop 3), 0) else (0, 0, [], 4) := by
 have hl : s.data.toList.length = s.size := by simp
 unfold pkParseR
 rw [byte_get s 0 (by omega), byte_get s 1 (by omega), byte_get s 2 (by omega), hl, if_neg (by omega)]
theorem pkparse_end {w w1 : World} {ao : Option Addr} {k cp : Nat} {ok : List Opt} {x y z : Value} (hrow : Row w1 2 (.slice ao k cp) k (optCells ok)) (hnew : ∀ j, Value.ownBlock (.slice ao k cp) = some j → w.heap.size + 2 ≤ j) (hb : Below w.heap.size w w1) :
 OptR (((w1.setCell ⟨w.heap.size, 0, none⟩ x).setCell ⟨w.heap.size, 1, none⟩ y).setCell ⟨w.heap.size, 2, none⟩ z) ao k ok ∧ Below w.heap.size w (((w1.setCell ⟨w.heap.size, 0, none⟩ x).setCell ⟨w.heap.size, 1, none⟩ y).setCell ⟨w.heap.size, 2, none⟩ z) := by
 refine ⟨Row.opts (hrow.keep (by simp) (fun j hj => ?_)), ((hb.setCell (Nat.le_refl _) _).setCell (Nat.le_refl _) _).setCell (Nat.le_refl _) _⟩
 have := hnew j hj
 rw [Below.heap_setCell _ _ _ _ (by show j ≠ w.heap.size; omega), Below.heap_setCell _ _ _ _ (by show j ≠ w.heap.size; omega), Below.heap_setCell _ _ _ _ (by show j ≠ w.heap.size; omega)]
theorem pkheap_two_last (w : World) (a b : Obj) : ((w.alloc a).alloc b).drew.heap[w.heap.size + 1]? = some b := by
 have h := heap_alloc_new (w.alloc a) b
 have e : (w.alloc a).heap.size = w.heap.size + 1 := by simp
 rw [e] at h
 exact h
theorem pkheap_two_first (w : World) (a b : Obj) : ((w.alloc a).alloc b).drew.heap[w.heap.size]? = some a := by
 show ((w.alloc a).alloc b).heap[w.heap.size]? = some a
 rw [Below.heap_alloc (w.alloc a) b w.heap.size (by simp)]
 exact heap_alloc_new w a
theorem pkparse_step {w wr x1 : World} {ob : Obj} {ao : Option Addr} {k cp g' cap' : Nat} {ok : List Opt} {c d : Int} {x y : Nat}
 (hpb : wr.heap[w.heap.size + 1]? = some (.cells #[.int .i64 c, .int .i64 d, .slice ao k cp] 37 (0, 0)))
 (hrb : wr.heap[w.heap.size]? = some (.cells #[.int .i64 0, .int .i64 0, .slice none 0 0] 37 (0, 0)))
 (_hrow : Row wr 2 (.slice ao k cp) k (optCells ok)) (hnew : ∀ j, Value.ownBlock (.slice ao k cp) = some j → w.heap.size + 2 ≤ j) (hbel : Below w.heap.size w wr)
 (hr : Row x1 2 (.slice (some ⟨g', 0, none⟩) (k + 1) cap') (k + 1) (optCells ok ++ [.int .i64 (IntKind.i64.wrap (x : Int)), .int .i64 (IntKind.i64.wrap (y : Int))]))
 (hg : (wr.alloc ob).drew.grownBy x1 (Value.ownBlock (.slice ao k cp))) (hown : Value.ownBlock (.slice ao k cp) = some g' ∨ (wr.alloc ob).drew.heap.size ≤ g') (hx : x < 2 ^ 8) (hy : y < 2 ^ 8) :
 Row (x1.setCell ⟨w.heap.size + 1, 2, none⟩ (.slice (some ⟨g', 0, none⟩) (k + 1) cap')) 2 (.slice (some ⟨g', 0, none⟩) (k + 1) cap') (k + 1) (optCells (ok ++ [((x : Int), (y : Int))])) ∧
 (x1.setCell ⟨w.heap.size + 1, 2, none⟩ (.slice (some ⟨g', 0, none⟩) (k + 1) cap')).heap[w.heap.size + 1]? = some (.cells #[.int .i64 c, .int .i64 d, .slice (some ⟨g', 0, none⟩) (k + 1) cap'] 37 (0, 0)) ∧
 (x1.setCell ⟨w.heap.size + 1, 2, none⟩ (.slice (some ⟨g', 0, none⟩) (k + 1) cap')).heap[w.heap.size]? = some (.cells #[.int .i64 0, .int .i64 0, .slice none 0 0] 37 (0, 0)) ∧
 (∀ j, Value.ownBlock (.slice (some ⟨g', 0, none⟩) (k + 1) cap') = some j → w.heap.size + 2 ≤ j) ∧ Below w.heap.size w (x1.setCell ⟨w.heap.size + 1, 2, none⟩ (.slice (some ⟨g', 0, none⟩) (k + 1) cap')) := by
 have hlt : w.heap.size + 1 < wr.heap.size := (Array.getElem?_eq_some_iff.1 hpb).1
 have k1 := pkkeep_block (b := w.heap.size + 1) hnew hg (by omega) hlt
 have k0 := pkkeep_block (b := w.heap.size) hnew hg (by omega) (by omega)
 have hs0 : (wr.alloc ob).drew.heap.size = wr.heap.size + 1 := by show (wr.alloc ob).heap.size = _; simp
 have hgl : w.heap.size + 2 ≤ g' := by
  rcases hown with h | h
  · exact hnew g' h
  · omega
 have hp1 : x1.heap[w.heap.size + 1]? = some (.cells #[.int .i64 c, .int .i64 d, .slice ao k cp] 37 (0, 0)) := by rw [k1]; exact hpb
 refine ⟨?_, ?_, ?_, ?_, ?_⟩
 · have ex : IntKind.i64.wrap (x : Int) = (x : Int) := IntWalk.i64_in _ ⟨by omega, by omega⟩
   have ey : IntKind.i64.wrap (y : Int) = (y : Int) := IntWalk.i64_in _ ⟨by omega, by omega⟩
   rw [ex, ey, ← optCells_snoc ok ((x : Int), (y : Int))] at hr
   refine hr.keep (by simp) (fun j hj => ?_)
   have : g' = j := by simpa [Value.ownBlock] using hj
   exact Below.heap_setCell _ _ _ _ (by show j ≠ w.heap.size + 1; omega)
 · rw [setCell_eq_setRow x1 (w.heap.size + 1) 2 _ 37 (0, 0) _ hp1]
   exact setRow_heap x1 _ _ _ 37 (0, 0) hp1
 · rw [Below.heap_setCell _ _ _ _ (by show w.heap.size ≠ w.heap.size + 1; omega), k0]
   exact hrb
 · intro j hj
   have : g' = j := by simpa [Value.ownBlock] using hj
   omega
 · have hb2 : Below w.heap.size w (wr.alloc ob).drew := (hbel.alloc hbel.size _).drew
   refine Below.setCell ?_ (by show w.heap.size ≤ w.heap.size + 1; omega) _
   refine hb2.grown hg (by omega) (fun j hj => ?_)
   have := hnew j hj
   omega
set_option maxRecDepth 100000 in
set_option maxHeartbeats 4000000 in
theorem pkparse_good (s : ByteArray) (w : World) (hs : s.size ≤ 1000) (h3 : 3 ≤ s.size) (heq : (s.size : Int) = (3 : Int) + (2 : Int) * (s[2].toNat : Int)) :
 Calls Tryz.prog 184 #[.string s] w fun e w' => PkParsed s.data.toList w e w' := by
 obtain ⟨i0, hi, hz0, hz1, hz2⟩ := info_parts infoOptK
 have hz := zeroPk
 have g1 : ¬ (s.size : Int) < 3 := by omega
 have hb2 := s[2].toNat_lt
 have g2 : ((s.size : Int) != (3 : Int) + (2 : Int) * (s[2].toNat : Int)) = false := by rw [heq]; simp
 have HE : Hid _ := heq
 clear heq
 have b0 : 0 < s.size := by omega
 have b1 : 1 < s.size := by omega
 have b2 : 2 < s.size := by omega
 have hb0 := s[0].toNat_lt
 have hb1 := s[1].toNat_lt
 have z0 : (0 : Int) < (s.size : Int) := by omega
 have z1 : (1 : Int) < (s.size : Int) := by omega
 go_enter Tryz.func184, Tryz.ntmps184
 go_wp2_with (fail)
 go_region
 go_wp2_with (fail)
 go_loopw [5] (fun i wr => ∃ (k cp : Nat) (ao : Option Addr) (ok : List Opt), 3 + 2 * k ≤ s.size ∧ i = .int .i64 ((3 + 2 * k : Nat) : Int) ∧ ok.length = k ∧ pkpairs (s.data.toList.drop 3) = ok ++ pkpairs (s.data.toList.drop (3 + 2 * k)) ∧ Row wr 2 (.slice ao k cp) k (optCells ok) ∧
  wr.heap[w.heap.size + 1]? = some (.cells #[.int .i64 (s[0].toNat : Int), .int .i64 (s[1].toNat : Int), .slice ao k cp] 37 (0, 0)) ∧ wr.heap[w.heap.size]? = some (.cells #[.int .i64 0, .int .i64 0, .slice none 0 0] 37 (0, 0)) ∧
  (∀ j, Value.ownBlock (.slice ao k cp) = some j → w.heap.size + 2 ≤ j) ∧ Below w.heap.size w wr)
  (fun i _ => s.size - (intOf i).toNat)
 case atStart =>
  refine ⟨0, 0, none, [], by omega, rfl, rfl, rfl, Row.nil _ _, ?_, ?_, fun j hj => by simp [Value.ownBlock] at hj, (((Below.refl _ _).alloc (Nat.le_refl _) _).alloc (by simp) _).drew⟩
  · exact pkheap_two_last w _ _
  · exact pkheap_two_first w _ _
 case round =>
  obtain ⟨k, cp, ao, ok, hk, rfl, hok, hP0, hrow, hpb, hrb, hnew, hbel⟩ := hrel
  have hP : Hid _ := hP0
  clear hP0
  have cv : wr.cell? ⟨w.heap.size + 1, 2, none⟩ = some (.slice ao k cp) := cell_of_row wr _ 2 _ 37 (0, 0) hpb
  have fv : wr.frozen? ⟨w.heap.size + 1, 2, none⟩ = false := frozen_of_row wr _ 2 _ 37 hpb
  have hzz : w.heap.size + 1 < wr.heap.size := World.block_lt_of_cell? wr _ cv
  have HPB : Hid _ := hpb
  have HRB : Hid _ := hrb
  clear hpb hrb
  by_cases hlt : 3 + 2 * k < s.size
  · have hlt1 : 3 + 2 * k + 1 < s.size := by have := HE.out; omega
    obtain ⟨q, hq⟩ : ∃ q, q = 3 + 2 * k := ⟨_, rfl⟩
    rw [← hq] at hlt hlt1
    have HQ : Hid (q = 3 + 2 * k) := hq
    have y0 : (0 : Int) ≤ (q : Int) := by omega
    have y1 : (q : Int) < (s.size : Int) := by omega
    have y2 : (q : Int) + 1 < (s.size : Int) := by omega
    have y3 : (0 : Int) ≤ (q : Int) + 1 := by omega
    have yw : IntKind.i64.wrap ((q : Int) + 1) = (q : Int) + 1 := IntWalk.i64_in _ ⟨by omega, by omega⟩
    have hbq := s[q].toNat_lt
    have hbq1 := s[q + 1].toNat_lt
    have m1 : k + 1 ≤ maxLen := by unfold maxLen; omega
    have bb1 : (k + 1) * 16 ≤ 140737488355328 := by omega
    rw [← hq]
    clear hq
    have HP2 : Hid (pkpairs (s.data.toList.drop 3) = (ok ++ [((s[q].toNat : Int), (s[q + 1].toNat : Int))]) ++ pkpairs (s.data.toList.drop (3 + 2 * (k + 1)))) := by
     show pkpairs (s.data.toList.drop 3) = _
     rw [hP.out, ← HQ.out, pkdrop_cons s q hlt, pkdrop_cons s (q + 1) hlt1]
     have e1 : q + 1 + 1 = 3 + 2 * (k + 1) := by have := HQ.out; omega
     rw [e1]
     simp [pkpairs]
    go_wp2_with (fail)
    go_region_law ((refine step_append_row (by rfl) (.tmp 35) (.tmp 46) 35 (by rfl) 276 i0 (.agg #[.int .i64 0, .int .i64 0]) 2 16 Tryz.underlying35 hi hz0 hz1 hz2 (by rfl) (by decide) (.slice ao k cp) k (optCells ok) (by rfl) ((hrow.alloc _).drew) _ 1 1 [.int .i64 (IntKind.i64.wrap (s[q].toNat : Int)), .int .i64 (IntKind.i64.wrap (s[q + 1].toNat : Int))] (by rfl) (by rfl) (by decide) (pkcells_two_drew _ _ _ _) (one_ints _ _ _ _) m1 bb1 ?_; intro g' cap' x1 hr1 hg1 hown1; have c1 := pkkeep_cell hnew hg1 cv; have f1 := pkkeep_frozen hnew hg1 cv fv))
    all_goals have hS := pkparse_step (c := (s[0].toNat : Int)) (d := (s[1].toNat : Int)) HPB.out HRB.out hrow hnew hbel hr1 hg1 hown1 s[q].toNat_lt s[q + 1].toNat_lt
    all_goals clear hr1 hg1 hown1 c1 f1
    all_goals go_wp2_with (fail)
    all_goals go_roundw
    all_goals first
     | exact ⟨k + 1, cap', some ⟨g', 0, none⟩, _, by have := HQ.out; omega, by have := HQ.out; go_num, by simp [hok], HP2.out, hS⟩
     | (simp [intOf]; omega)
  · have hkm : 3 + 2 * k = s.size := by omega
    have hoks : pkpairs (s.data.toList.drop 3) = ok := by
     rw [hP.out, hkm, List.drop_eq_nil_of_le (by show s.size ≤ s.size; omega)]
     simp [pkpairs]
    have hopt := hrow.opts
    have hcp := hrow.cap_le
    have c0 : wr.cell? ⟨w.heap.size + 1, 0, none⟩ = some (.int .i64 (s[0].toNat : Int)) := cell_of_row wr _ 0 _ 37 (0, 0) HPB.out
    have c1 : wr.cell? ⟨w.heap.size + 1, 1, none⟩ = some (.int .i64 (s[1].toNat : Int)) := cell_of_row wr _ 1 _ 37 (0, 0) HPB.out
    have hcall := check_any (s[0].toNat : Int) (s[1].toNat : Int) ao k cp ok wr (by omega) hcp hopt
    have HK : Hid (pkpairs (s.data.toList.drop 3) = ok) := hoks
    clear hP hoks hkm
    by_cases hf : packF (s[0].toNat : Int) (s[1].toNat : Int) ok = 0
    · have e0 : errV 0 = .nilIface := rfl
      rw [hf, e0] at hcall
      clear e0
      have HF : Hid _ := hf
      clear hf
      go_wp2_with (fail)
      refine hcall.mono ?_
      rintro e w1 ⟨rfl, hb1⟩
      have d0 := (hb1.cell (p := ⟨w.heap.size + 1, 0, none⟩) hzz).trans c0
      have d1 := (hb1.cell (p := ⟨w.heap.size + 1, 1, none⟩) hzz).trans c1
      have d2 := (hb1.cell (p := ⟨w.heap.size + 1, 2, none⟩) hzz).trans cv
      obtain ⟨r0, r1, r2, r3⟩ := pkparse_result HRB.out hb1
      have hw2 := below_chain hbel hb1
      have HNW : Hid ((∀ j, Value.ownBlock (.slice ao k cp) = some j → w.heap.size ≤ j ∧ j < w1.heap.size) ∧ NilOk ao cp) := ⟨fun j hj => ⟨by have := hnew j hj; omega, (hrow.below hb1).lt j hj⟩, fun e => by
       rcases hrow.2 with ⟨e1, _⟩ | ⟨g9, c9, e1, _⟩
       · simp at e1; exact e1.2.2
       · rw [e] at e1; simp at e1⟩
      have hE := pkparse_end (x := .int .i64 (s[0].toNat : Int)) (y := .int .i64 (s[1].toNat : Int)) (z := .slice ao k cp) (hrow.below hb1) hnew hw2
      have HV : Hid (pkParseR s.data.toList = ((s[0].toNat : Int), (s[1].toNat : Int), ok, 0)) := by
       show pkParseR s.data.toList = _
       rw [pkParseR_good s h3 HE.out, HK.out, if_pos HF.out]
      clear hcall hb1 c0 c1 cv hrow
      go_wp2_with (fail)
      refine bodyPost_ret (v := .tuple #[.agg #[.int .i64 (s[0].toNat : Int), .int .i64 (s[1].toNat : Int), .slice ao k cp], .nilIface]) (by simp [results, Tryz.results184, go_sem, r0, r1, r2]) rfl ?_
      exact ⟨ao, k, cp, 0, _, _, ok, rfl, hE.1, hcp, HV.out, hE.2, fun j hj => ⟨(HNW.out.1 j hj).1, by simpa using (HNW.out.1 j hj).2⟩, HNW.out.2⟩
    · have e0 : errV (packF (s[0].toNat : Int) (s[1].toNat : Int) ok) = .iface 128 (.int .i64 (packF (s[0].toNat : Int) (s[1].toNat : Int) ok : Int)) := by simp [errV, hf]
      rw [e0] at hcall
      clear e0
      have HF : Hid _ := hf
      clear hf
      have HV : Hid (pkParseR s.data.toList = (0, 0, [], 4)) := by
       show pkParseR s.data.toList = _
       rw [pkParseR_good s h3 HE.out, HK.out, if_neg HF.out]
      generalize packF (s[0].toNat : Int) (s[1].toNat : Int) ok = ff at hcall
      go_wp2_with (fail)
      refine hcall.mono ?_
      rintro e w1 ⟨rfl, hb1⟩
      obtain ⟨r0, r1, r2, r3⟩ := pkparse_result HRB.out hb1
      have hw2 := below_chain hbel hb1
      have hE := pkparse_end (ok := []) (ao := none) (k := 0) (cp := 0) (x := .int .i64 0) (y := .int .i64 0) (z := .slice none 0 0) (Row.nil w1 2) (fun j hj => by simp [Value.ownBlock] at hj) hw2
      clear hcall hb1 c0 c1 cv hrow hopt
      go_wp2_with (fail)
      refine bodyPost_ret (v := .tuple #[.agg #[.int .i64 0, .int .i64 0, .slice none 0 0], .iface 128 (.int .i64 4)]) (by simp [results, Tryz.results184, go_sem, r0, r1, r2]) rfl ?_
      exact ⟨none, 0, 0, 4, 0, 0, [], rfl, hE.1, Nat.le_refl _, HV.out, hE.2, fun j hj => by simp [Value.ownBlock] at hj, fun _ => rfl⟩
set_option maxRecDepth 100000 in
set_option maxHeartbeats 2000000 in
theorem pkparse_bad (s : ByteArray) (w : World) (hs : s.size ≤ 1000) (h : pkParseR s.data.toList = (0, 0, [], 4)) (hb : s.size < 3 ∨ ∃ h3 : 3 ≤ s.size, (s.size : Int) ≠ (3 : Int) + (2 : Int) * (s[2].toNat : Int)) :
 Calls Tryz.prog 184 #[.string s] w fun e w' => PkParsed s.data.toList w e w' := by
 have hz := zeroPk
 have HV : Hid _ := h
 clear h
 have hw1 : Below w.heap.size w (w.alloc (.cells #[.int .i64 0, .int .i64 0, .slice none 0 0] 37)) := (Below.refl _ _).alloc (Nat.le_refl _) _
 have hnil : OptR (w.alloc (.cells #[.int .i64 0, .int .i64 0, .slice none 0 0] 37)) none 0 [] := ⟨rfl, .inl rfl⟩
 rcases hb with h1 | ⟨h3, h2⟩
 · have g1 : (s.size : Int) < 3 := by omega
   go_enter Tryz.func184, Tryz.ntmps184
   go_wp2_with (fail)
   refine bodyPost_ret (v := .tuple #[.agg #[.int .i64 0, .int .i64 0, .slice none 0 0], .iface 128 (.int .i64 4)]) (by simp [results, Tryz.results184, go_sem]) rfl ?_
   exact ⟨none, 0, 0, 4, 0, 0, [], rfl, hnil, Nat.le_refl _, HV.out, hw1, fun j hj => by simp [Value.ownBlock] at hj, fun _ => rfl⟩
 · have g1 : ¬ (s.size : Int) < 3 := by omega
   have hb2 := s[2].toNat_lt
   have b2 : 2 < s.size := by omega
   have g2 : ((s.size : Int) != (3 : Int) + (2 : Int) * (s[2].toNat : Int)) = true := by rw [bne_iff_ne]; exact h2
   clear h2
   go_enter Tryz.func184, Tryz.ntmps184
   go_wp2_with (fail)
   refine bodyPost_ret (v := .tuple #[.agg #[.int .i64 0, .int .i64 0, .slice none 0 0], .iface 128 (.int .i64 4)]) (by simp [results, Tryz.results184, go_sem]) rfl ?_
   exact ⟨none, 0, 0, 4, 0, 0, [], rfl, hnil, Nat.le_refl _, HV.out, hw1, fun j hj => by simp [Value.ownBlock] at hj, fun _ => rfl⟩
theorem pkparse_any (s : ByteArray) (w : World) (hs : s.size ≤ 1000) : Calls Tryz.prog 184 #[.string s] w fun e w' => PkParsed s.data.toList w e w' := by
 have hl : s.data.toList.length = s.size := by simp
 by_cases h3 : 3 ≤ s.size
 · by_cases heq : (s.size : Int) = (3 : Int) + (2 : Int) * (s[2].toNat : Int)
   · exact pkparse_good s w hs h3 heq
   · refine pkparse_bad s w hs ?_ (.inr ⟨h3, heq⟩)
     unfold pkParseR
     rw [byte_get s 2 (by omega), hl, if_pos (.inr heq)]
 · refine pkparse_bad s w hs ?_ (.inl (by omega))
   unfold pkParseR
   rw [hl, if_pos (.inl (by omega))]
end Go.Proofs.YtieklnlbljejdaaGreatDoor
