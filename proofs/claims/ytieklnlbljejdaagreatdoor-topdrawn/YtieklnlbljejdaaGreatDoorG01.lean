/-
  AutoWalk AppendStr
-/
import Derived.Test.YtieklnlbljejdaaGreatDoorG00
import Derived.WalkKit
import Derived.LaidLaws
import Derived.ChangeArms
import Derived.Lib.LaidTab
namespace Go.Proofs.YtieklnlbljejdaaGreatDoor
open Go.RowKit
def tabL : List (List (List UInt8)) := [
 [[50], [105, 114, 54], [45], [45], [45], [45], [45], [45], [45], [45]],
 [[45], [45], [48], [115, 49], [48], [49], [49], [49], [49], [100, 49]],
 [[115, 49], [49], [105, 114, 54], [51], [53], [53], [54], [55], [56], [57]],
 [[48], [102, 48], [50], [50], [52], [52], [105, 116, 52], [105, 116, 52], [105, 116, 52], [100, 105, 116, 52]],
 [[45], [45], [45], [45], [116, 52], [116, 53], [114, 54], [114, 54], [114, 56], [45]],
 [[45], [45], [45], [45], [102, 50], [102, 51], [102, 51], [102, 51], [102, 51], [45]],
 [[45], [45], [107, 50], [105, 114, 97, 56], [52], [53], [97, 56], [97, 117, 57], [97, 56], [100, 114, 97, 56]],
 [[45], [45], [107, 50], [105, 114, 110, 54], [52], [53], [110, 54], [110, 55], [110, 54], [100, 114, 110, 54]],
 [[45], [45], [107, 50], [107, 51], [52], [53], [105, 55], [114, 54], [105, 117, 57], [100, 114, 54]],
 [[45], [45], [107, 50], [107, 51], [52], [53], [105, 114, 54], [114, 54], [105, 114, 56], [100, 114, 54]],
 [[45], [45], [107, 50], [107, 51], [107, 52], [107, 53], [107, 54], [107, 54], [107, 54], [100, 122, 107, 53]],
 [[45], [45], [50], [51], [102, 50], [102, 51], [54], [54], [56], [100, 114, 54]]]
def cellL (s e : Nat) : List UInt8 := (tabL.getD e []).getD s []
def stepR (s e : Nat) : List UInt8 × Int × Nat :=
 if cellL s e = [45] then ([], 0, 7) else ((cellL s e).dropLast, (((cellL s e).getLastD 0).toNat : Int) - 48, 0)
def stepI (s e : Int) : List UInt8 × Int × Nat :=
 if s < 0 ∨ 10 ≤ s ∨ e < 0 ∨ 12 ≤ e then ([], 0, 1) else stepR s.toNat e.toNat
def TabOk (w : World) : Prop := ∀ e s, e < 12 → s < 10 → w.cell? ⟨0, e * 10 + s, none⟩ = some (.string ⟨(cellL s e).toArray⟩)
theorem TabOk.below {w w' : World} (h : TabOk w) (hb : Below w.heap.size w w') : TabOk w' := fun e s he hs =>
 (hb.cell (World.block_lt_of_cell? w _ (h e s he hs))).trans (h e s he hs)
theorem TabOk.lt {w : World} (h : TabOk w) : 0 < w.heap.size := World.block_lt_of_cell? w _ (h 0 0 (by decide) (by decide))
theorem stepI_in (s e : Nat) (hs : s < 10) (he : e < 12) : stepI s e = stepR s e := by
 unfold stepI
 rw [if_neg (by omega)]
 rfl
theorem cellL_ok : ∀ e, e < 12 → ∀ s, s < 10 → 1 ≤ (cellL s e).length ∧ (cellL s e).length ≤ 5 ∧ (48 ≤ ((cellL s e).getLastD 0).toNat ∧ ((cellL s e).getLastD 0).toNat ≤ 57 ∨ cellL s e = [45]) := by decide +kernel
set_option maxRecDepth 100000 in
theorem timed_any (s : Int) (w : World) : Calls Tryz.prog 195 #[.int .i64 s] w fun e w' => e = .returned (.bool (decide (4 ≤ s) && decide (s ≤ 8))) ∧ w = w' := by
 by_cases h0 : 4 ≤ s
 · have e0 : decide (4 ≤ s) = true := by simp [h0]
   rw [e0, Bool.true_and]
   clear e0
   go_enter Tryz.func195, Tryz.ntmps195
   go_wp2
   go_ret
   exact ⟨rfl, rfl⟩
 · have e0 : decide (4 ≤ s) = false := by simp [h0]
   rw [e0, Bool.false_and]
   clear e0
   go_enter Tryz.func195, Tryz.ntmps195
   go_wp2
   go_ret
   exact ⟨rfl, rfl⟩
set_option maxRecDepth 100000 in
theorem step_out (s e : Int) (w : World) (h : s < 0 ∨ 10 ≤ s ∨ e < 0 ∨ 12 ≤ e) : Calls Tryz.prog 207 #[.int .i64 s, .int .i64 e] w fun x w' => x = .returned (.tuple #[.string ⟨#[]⟩, .int .i64 0, errV 1]) ∧ w = w' := by
 have e1 : errV 1 = .iface 128 (.int .i64 1) := rfl
 rw [e1]
 clear e1
 by_cases h0 : s < 0
 · clear h
   go_enter Tryz.func207, Tryz.ntmps207
   go_wp2
   go_ret3
   exact ⟨rfl, rfl⟩
 · by_cases h1 : 10 ≤ s
   · clear h
     go_enter Tryz.func207, Tryz.ntmps207
     go_wp2
     go_ret3
     exact ⟨rfl, rfl⟩
   · by_cases h2 : e < 0
     · clear h
       go_enter Tryz.func207, Tryz.ntmps207
       go_wp2
       go_ret3
       exact ⟨rfl, rfl⟩
     · have h3 : 12 ≤ e := by omega
       clear h
       go_enter Tryz.func207, Tryz.ntmps207
       go_wp2
       go_ret3
       exact ⟨rfl, rfl⟩
set_option maxRecDepth 100000 in
theorem step_none (s e : Nat) (S : ByteArray) (w : World) (hs : s < 10) (he : e < 12) (hc : w.cell? ⟨0, e * 10 + s, none⟩ = some (.string S)) (hS : (S.toList == [45]) = true) :
 Calls Tryz.prog 207 #[.int .i64 s, .int .i64 e] w fun x w' => x = .returned (.tuple #[.string ⟨#[]⟩, .int .i64 0, errV 7]) ∧ w = w' := by
 have e1 : errV 7 = .iface 128 (.int .i64 7) := rfl
 have h0 : ¬ (s : Int) < 0 := by omega
 have h1 : ¬ (10 : Int) ≤ s := by omega
 have h2 : ¬ (e : Int) < 0 := by omega
 have h3 : ¬ (12 : Int) ≤ e := by omega
 have h4 : (s : Int) < 10 := by omega
 have h5 : (e : Int) < 12 := by omega
 have h6 : 0 < w.heap.size := World.block_lt_of_cell? w _ hc
 rw [e1]
 clear e1
 go_enter Tryz.func207, Tryz.ntmps207
 go_wp2
 go_ret3
 exact ⟨rfl, rfl⟩
set_option maxRecDepth 100000 in
theorem step_some (s e : Nat) (S : ByteArray) (w : World) (hs : s < 10) (he : e < 12) (hc : w.cell? ⟨0, e * 10 + s, none⟩ = some (.string S)) (hS : (S.toList == [45]) = false) (n : Nat) (hl : S.size = n + 1) (hn : n ≤ 4) (d : Nat) (hd : (S[n]).toNat = 48 + d) (hd9 : d ≤ 9) :
 Calls Tryz.prog 207 #[.int .i64 s, .int .i64 e] w fun x w' => x = .returned (.tuple #[.string (S.extract 0 n), .int .i64 (d : Int), .nilIface]) ∧ ∃ m, w' = w.drewN m := by
 have h0 : ¬ (s : Int) < 0 := by omega
 have h1 : ¬ (10 : Int) ≤ s := by omega
 have h2 : ¬ (e : Int) < 0 := by omega
 have h3 : ¬ (12 : Int) ≤ e := by omega
 have h4 : (s : Int) < 10 := by omega
 have h5 : (e : Int) < 12 := by omega
 have h6 : 0 < w.heap.size := World.block_lt_of_cell? w _ hc
 have h7 : wrap64 ((S.size : Int) - 1) = n := by unfold wrap64; omega
 have h8 : ((0 : Int) ≤ (n : Int)) := by omega
 have h9 : ((n : Int) ≤ (S.size : Int)) := by omega
 have h10 : ((n : Int) < (S.size : Int)) := by omega
 go_enter Tryz.func207, Tryz.ntmps207
 go_wp2
 go_quiet (fail)
 go_wp2
 go_ret3
 refine ⟨?_, _, rfl⟩
 rw [show (48 : Int) + (d : Int) - 48 = d by omega]
 rfl
theorem cellL_cut : ∀ e, e < 12 → ∀ s, s < 10 → cellL s e ≠ [45] → ((⟨(cellL s e).toArray⟩ : ByteArray).extract 0 ((cellL s e).length - 1) = ⟨(cellL s e).dropLast.toArray⟩) ∧ ((cellL s e).getD ((cellL s e).length - 1) 0 = (cellL s e).getLastD 0) := by decide +kernel
theorem step_any (s e : Int) (w : World) (h : TabOk w) : Calls Tryz.prog 207 #[.int .i64 s, .int .i64 e] w fun x w' =>
 x = .returned (.tuple #[.string ⟨(stepI s e).1.toArray⟩, .int .i64 (stepI s e).2.1, errV (stepI s e).2.2]) ∧ ∃ m, w' = w.drewN m := by
 by_cases ho : s < 0 ∨ 10 ≤ s ∨ e < 0 ∨ 12 ≤ e
 · refine (step_out s e w ho).mono ?_
   rintro x w' ⟨rfl, rfl⟩
   have hv : stepI s e = ([], 0, 1) := by unfold stepI; rw [if_pos ho]
   rw [hv]
   exact ⟨rfl, 0, rfl⟩
 · obtain ⟨s', rfl⟩ : ∃ s' : Nat, s = s' := ⟨s.toNat, by omega⟩
   obtain ⟨e', rfl⟩ : ∃ e' : Nat, e = e' := ⟨e.toNat, by omega⟩
   have hs : s' < 10 := by omega
   have he : e' < 12 := by omega
   rw [stepI_in s' e' hs he]
   have hc := h e' s' he hs
   obtain ⟨l1, l2, l3⟩ := cellL_ok e' he s' hs
   by_cases hq : cellL s' e' = [45]
   · refine (step_none s' e' _ w hs he hc (by rw [hq]; decide +kernel)).mono ?_
     rintro x w' ⟨rfl, rfl⟩
     have hv : stepR s' e' = ([], 0, 7) := by unfold stepR; rw [if_pos hq]
     rw [hv]
     exact ⟨rfl, 0, rfl⟩
   · obtain ⟨c1, c2⟩ := cellL_cut e' he s' hs hq
     have l4 := l3.resolve_right hq
     have hv : stepR s' e' = ((cellL s' e').dropLast, (((cellL s' e').getLastD 0).toNat : Int) - 48, 0) := by unfold stepR; rw [if_neg hq]
     rw [hv]
     clear hv
     generalize cellL s' e' = L at *
     have hsz : (⟨L.toArray⟩ : ByteArray).size = (L.length - 1) + 1 := by show L.toArray.size = _; simp; omega
     refine (step_some s' e' ⟨L.toArray⟩ w hs he hc ?_ (L.length - 1) hsz (by omega) ((L.getLastD 0).toNat - 48) ?_ (by omega)).mono ?_
     · rw [beq_eq_false_iff_ne]
       intro hb
       apply hq
       rw [← hb]
       simp [ByteArray.toList_eq]
     · rw [← c2]
       show (L.toArray[L.length - 1]'_).toNat = _
       rw [List.getElem_toArray, List.getD_eq_getElem?_getD, List.getElem?_eq_getElem (by omega)]
       rw [List.getD_eq_getElem?_getD, List.getElem?_eq_getElem (by omega)] at c2
       simp only [Option.getD_some] at c2 ⊢
       rw [c2]
       omega
     · rintro x w' ⟨rfl, m, rfl⟩
       refine ⟨?_, m, rfl⟩
       rw [c1]
       have hz : (((L.getLastD 0).toNat - 48 : Nat) : Int) = ((L.getLastD 0).toNat : Int) - 48 := by omega
       rw [hz]
       rfl
theorem step_as (s e : Int) (D : List UInt8) (nx : Int) (f : Nat) (hR : stepI s e = (D, nx, f)) (w : World) (h : TabOk w) :
 Calls Tryz.prog 207 #[.int .i64 s, .int .i64 e] w fun x w' => x = .returned (.tuple #[.string ⟨D.toArray⟩, .int .i64 nx, errV f]) ∧ ∃ m, w' = w.drewN m := by
 have := step_any s e w h
 rw [hR] at this
 exact this
end Go.Proofs.YtieklnlbljejdaaGreatDoor

namespace Go.Proofs.YtieklnlbljejdaaGreatDoor
open Go.RowKit
section
variable {P : Program}
theorem bytes_extract (s : ByteArray) : (Array.map (fun b : UInt8 => Value.int IntKind.u8 (b.toNat : Int)) s.data).extract 0 s.size = Array.map (fun b : UInt8 => Value.int IntKind.u8 (b.toNat : Int)) s.data := by
 have hs : s.size = (Array.map (fun b : UInt8 => Value.int IntKind.u8 (b.toNat : Int)) s.data).size := by rw [Array.size_map]; rfl
 rw [hs, Array.extract_size]
theorem setCells_frame (g : Nat) : ∀ (vs : List Value) (o : Nat) (w : World), (w.setCells g o vs).heap.size = w.heap.size ∧ (w.setCells g o vs).os = w.os ∧ (w.setCells g o vs).tape = w.tape ∧ (w.setCells g o vs).output = w.output ∧ ∀ k, k ≠ g → (w.setCells g o vs).heap[k]? = w.heap[k]?
 | [], o, w => ⟨rfl, rfl, rfl, rfl, fun _ _ => rfl⟩
 | u :: r, o, w => by
   have h := setCells_frame g r (o + 1) (w.setCell ⟨g, o, none⟩ u)
   have b1 : Below 0 w (w.setCell ⟨g, o, none⟩ u) := (Below.refl 0 w).setCell (Nat.zero_le _) _
   exact ⟨h.1.trans (by simp), h.2.1.trans b1.os, h.2.2.1.trans b1.tape, h.2.2.2.1.trans b1.output, fun k hk => (h.2.2.2.2 k hk).trans (Below.heap_setCell _ _ _ k hk)⟩
theorem one_cells8 (l : List UInt8) : ∀ u ∈ cells8 l, u.oneCell' = true := by
 intro u hu
 obtain ⟨b, _, rfl⟩ := List.mem_map.1 hu
 rfl
theorem map_cells8 (s : ByteArray) : (Array.map (fun b : UInt8 => Value.int IntKind.u8 (b.toNat : Int)) s.data).toList = cells8 s.data.toList := by simp [cells8]
theorem Row.nilTake {w : World} {v : Value} {n : Nat} {xs : List Value} (h : Row w 1 v n xs) : v = .slice none 0 0 ∧ n = 0 ∧ xs = [] ∨ ∃ g cap, v = .slice (some ⟨g, 0, none⟩) n cap ∧ g < w.heap.size ∧ n ≤ cap ∧ cap ≤ maxLen ∧ (∀ (j : Nat) (u : Value), xs[j]? = some u → w.cell? ⟨g, j, none⟩ = some u) ∧ (∀ j, j < cap * 1 → (w.cell? ⟨g, j, none⟩).isSome = true ∧ w.frozen? ⟨g, j, none⟩ = false) := by
 rcases h.2 with ⟨e1, e2⟩ | ⟨g, cap, e1, h1, h2, h3, h4, h5⟩
 · exact .inl ⟨e1, e2, List.eq_nil_of_length_eq_zero (by rw [h.1, e2])⟩
 · exact .inr ⟨g, cap, e1, h1, h2, h3, h4, h5⟩
theorem run_append_str (w : World) (t u ty e : TypeId) (i : TypeInfo) (z : Value) (ht : P.underlying t = some (.slice e)) (hu : P.underlying u = some .string) (hi : P.info? e = some i) (hz : i.zero = some z) (hsize : i.size = 1) (hby : i.bytes = 1) (hzs : z.cells.size = 1)
 (v : Value) (n : Nat) (xs : List Value) (hown : Row w 1 v n xs) (s : ByteArray) (hs : s.size ≤ 1000000) (hn : n ≤ 1000000000) :
 ∃ v' w', (Builtin.append_ #[t, u] ty #[v, .string s]).run P w = .ok v' w' ∧ Row w' 1 v' (n + s.size) (xs ++ cells8 s.data.toList) ∧ w.grownBy w' v.ownBlock ∧ (v'.ownBlock = v.ownBlock ∨ ∃ k, v'.ownBlock = some k ∧ w.heap.size ≤ k) := by
 have hsl : (cells8 s.data.toList).length = s.size := by simp [cells8_length]
 have hex := bytes_extract s
 rcases hown.nilTake with ⟨rfl, rfl, rfl⟩ | ⟨g, cap, rfl, hg, hnc, hcm, hcell, hsp⟩
 · by_cases h0 : s.size = 0
   · have hemp : s.data.toList = [] := List.eq_nil_of_length_eq_zero (by simpa using h0)
     refine ⟨.slice none 0 0, w, ?_, by rw [h0, hemp]; exact Row.nil _ _, ⟨rfl, rfl, rfl, Nat.le_refl _, fun _ _ _ => rfl⟩, .inl rfl⟩
     simp [Builtin.append_, run_underlying ht, run_underlying hu, sizeOf, typeInfo, hi, Builtin.lenOf, Builtin.firstCells, h0]
   · have hr := run_append_nil_string (P := P) (w := w) t u ty e i z ht hu hi hz s (by omega) (by omega) (by rw [hby]; omega)
     have hge := grownCap_ge w s.size 0 e
     refine ⟨_, _, hr, ?_, ⟨rfl, rfl, rfl, by simp, fun k hk _ => Below.heap_alloc w.drew _ k hk⟩, .inr ⟨_, rfl, Nat.le_refl _⟩⟩
     simp only [Nat.zero_add, List.nil_append]
     refine Row.made w.drew 1 e _ (0, 0) s.size _ _ (by rw [hsl, Nat.mul_one]) ?_ hge (grownCap_le_maxLen _ _ _ _ (by unfold maxLen; omega)) (.inl rfl) (fun j x hj => ?_)
     · rw [Array.size_append, size_zeroCells, hzs, Array.size_map]
       have : s.data.size = s.size := rfl
       omega
     · have hj2 : j < s.size := by rw [← hsl]; exact (List.getElem?_eq_some_iff.1 hj).1
       rw [Array.getElem?_append_left (by rw [Array.size_map]; exact hj2), ← hj, ← map_cells8 s, Array.getElem?_toList]
 · by_cases hr : n + s.size ≤ cap
   · have hin : ∀ j, j < (cells8 s.data.toList).length → (w.cell? ⟨g, 0 + n * 1 + j, none⟩).isSome = true ∧ w.frozen? ⟨g, 0 + n * 1 + j, none⟩ = false := fun j hj => hsp _ (by omega)
     have hst := run_storeCells_cells (P := P) g (0 + n * 1) (cells8 s.data.toList) 0 w (fun j hj => by rw [Nat.add_zero]; exact (hin j hj).1) (fun j hj => by rw [Nat.add_zero]; exact (hin j hj).2) (one_cells8 _)
     have B := setCells_frame g (cells8 s.data.toList) (0 + n * 1) w
     refine ⟨.slice (some ⟨g, 0, none⟩) (n + s.size) cap, w.setCells g (0 + n * 1) (cells8 s.data.toList), ?_, ⟨by rw [List.length_append, hown.1, hsl]; omega, .inr ⟨g, cap, rfl, by rw [B.1]; exact hg, hr, hcm, fun j x hx => ?_, fun j hj => ?_⟩⟩, ⟨B.2.1, B.2.2.1, B.2.2.2.1, by rw [B.1]; exact Nat.le_refl _, fun k _ hk => B.2.2.2.2 k (fun e => hk (by simp [Value.ownBlock, e]))⟩, .inl rfl⟩
     · simp [Builtin.append_, run_underlying ht, run_underlying hu, sizeOf, typeInfo, hi, hsize, Builtin.lenOf, Builtin.firstCells, hr, hex, add_plain]
       have hst' : (storeCells ⟨g, n, none⟩ (cells8 s.data.toList)).run P w = .ok () (w.setCells g n (cells8 s.data.toList)) := by simpa using hst
       have e8 : List.map (fun b : UInt8 => Value.int IntKind.u8 (b.toNat : Int)) s.data.toList = cells8 s.data.toList := rfl
       rw [e8, hst']
       rfl
     · rcases Nat.lt_or_ge j xs.length with hj | hj
       · rw [List.getElem?_append_left hj] at hx
         rw [World.cell?_setCells_out g _ _ _ _ (fun _ _ => .inl (by show j < 0 + n * 1; have := hown.1; omega))]
         exact hcell j x hx
       · rw [List.getElem?_append_right hj] at hx
         have hj2 : j - xs.length < (cells8 s.data.toList).length := (List.getElem?_eq_some_iff.1 hx).1
         have := World.cell?_setCells_in g (cells8 s.data.toList) (0 + n * 1) w (fun k hk => (hin k hk).1) (j - xs.length) hj2
         have e1 : 0 + n * 1 + (j - xs.length) = j := by have := hown.1; omega
         rw [e1] at this
         rw [this, ← hx, List.getElem?_eq_getElem hj2]
     · rw [World.frozen?_setCells]
       refine ⟨?_, (hsp j hj).2⟩
       by_cases hq : n * 1 ≤ j ∧ j < n * 1 + (cells8 s.data.toList).length
       · have := World.cell?_setCells_in g (cells8 s.data.toList) (0 + n * 1) w (fun k hk => (hin k hk).1) (j - n * 1) (by omega)
         have e1 : 0 + n * 1 + (j - n * 1) = j := by omega
         rw [e1] at this
         rw [this]; rfl
       · rw [World.cell?_setCells_out g _ _ _ _ (fun _ _ => by show j < 0 + n * 1 ∨ 0 + n * 1 + (cells8 s.data.toList).length ≤ j; omega)]
         exact (hsp j hj).1
   · have hnr : ¬ n + s.size ≤ cap := hr
     have h63' : ¬ (9223372036854775807 < ((n : Int) + (s.size : Int))) := by omega
     have hcc : cap < n + s.size := by omega
     have hnx : Builtin.nextslicecap (n + s.size) cap ≤ 281474976710656 := by have := nextslicecap_le hcc; omega
     have h48' : ¬ (281474976710656 < Builtin.nextslicecap (n + s.size) cap * i.bytes) := by rw [hby]; omega
     have hlo := run_loadCells_list (P := P) (w := w.drew) ⟨g, 0, none⟩ xs (fun j x hj => by rw [add_plain]; exact hcell j x hj)
     have hlo' : (loadCells ⟨g, 0, none⟩ (n * i.size)).run P w.drew = .ok xs.toArray w.drew := by
      rw [hsize, ← hown.1]
      exact hlo
     have hge := grownCap_ge w (n + s.size) cap e
     refine ⟨.slice (some ⟨w.heap.size, 0, none⟩) (n + s.size) (grownCap w (n + s.size) cap e), w.drew.alloc (.cells (xs.toArray ++ (cells8 s.data.toList).toArray ++ Builtin.zeroCells z.cells (grownCap w (n + s.size) cap e - (n + s.size))) e), ?_, ?_, ⟨rfl, rfl, rfl, by simp, fun k hk _ => Below.heap_alloc w.drew _ k hk⟩, .inr ⟨_, rfl, Nat.le_refl _⟩⟩
     · simp [Builtin.append_, run_underlying ht, run_underlying hu, sizeOf, typeInfo, zeroValue, hi, hz, Builtin.lenOf, hnr, h63', h48', Question.forced, newRow, grownCap, Builtin.firstCells, hex, hlo']
       congr 2
       apply Array.ext'
       simp [cells8]
     · refine Row.made w.drew 1 e _ (0, 0) (n + s.size) _ _ (by rw [List.length_append, hown.1, hsl]; omega) ?_ hge (grownCap_le_maxLen _ _ _ _ (by unfold maxLen; omega)) (.inl rfl) (fun j x hj => ?_)
       · rw [Array.size_append, Array.size_append, size_zeroCells, hzs]
         have h1 : xs.toArray.size = n := by simpa using hown.1
         have h2 : (cells8 s.data.toList).toArray.size = s.size := by simpa using hsl
         rw [h1, h2]
         omega
       · have hj2 : j < (xs ++ cells8 s.data.toList).length := (List.getElem?_eq_some_iff.1 hj).1
         rw [Array.getElem?_append_left (by simpa using hj2), List.append_toArray, List.getElem?_toArray]
         exact hj
theorem wpList_append_str (w : World) {ops : Array Oper} {rest : List Oper} {o : Oper} {a : Act} {Q : Exit → Act → World → Prop} (hgd : o.guard = none) (sl x : Operand) (t u : TypeId)
 (ho : o.op = .call { callee := .builtin .append, args := #[sl, x], argTypes := #[t, u] })
 (e : TypeId) (i : TypeInfo) (z : Value) (ht : P.underlying t = some (.slice e)) (hu : P.underlying u = some .string) (hi : P.info? e = some i) (hz : i.zero = some z) (hsize : i.size = 1) (hby : i.bytes = 1) (hzs : z.cells.size = 1)
 (v : Value) (n : Nat) (xs : List Value) (hs : a.eval sl = v) (hown : Row w 1 v n xs) (s : ByteArray) (hx : a.eval x = .string s) (hsl : s.size ≤ 1000000) (hn : n ≤ 1000000000)
 (h : ∀ v' w', Row w' 1 v' (n + s.size) (xs ++ cells8 s.data.toList) → w.grownBy w' v.ownBlock → (v'.ownBlock = v.ownBlock ∨ ∃ k, v'.ownBlock = some k ∧ w.heap.size ≤ k) → wpList P ops Q rest (a.put o.dst v') w') : wpList P ops Q (o :: rest) a w := by
 refine wpList_plain hgd fun K hK => ?_
 obtain ⟨v', w', hr, h2, h3, h4⟩ := run_append_str (P := P) w t u o.type e i z ht hu hi hz hsize hby hzs v n xs hown s hsl hn
 unfold Oper.wp execOp
 simp only [ho, resolve, invoke, builtin, Sem.run_bind, Sem.run_pure, Result.andThen_ok, List.map_toArray, List.map_cons, List.map_nil, hs, hx, hr]
 exact hK _ _ (h v' w' h2 h3 h4)
end
end Go.Proofs.YtieklnlbljejdaaGreatDoor
