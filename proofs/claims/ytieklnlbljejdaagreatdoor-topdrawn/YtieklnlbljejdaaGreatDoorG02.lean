/-
  PolicyWalk LinkWalk OptWalk RFault
-/
import Derived.Test.YtieklnlbljejdaaGreatDoorG00
import Derived.Test.YtieklnlbljejdaaGreatDoorG01
namespace Go.Proofs.YtieklnlbljejdaaGreatDoor
open Go.RowKit
theorem infoOpt : (Tryz.prog.info? 276).map (fun i => (i.zero, i.size, i.bytes)) = some (some (.agg #[.int .i64 0, .int .i64 0]), 2, 16) := by kernel_rfl
theorem zeroPol (w : World) : (zeroValue 252).run Tryz.prog w = .ok (.agg #[.int .i64 0, .int .i64 0]) w := by kernel_rfl
def asksL (sz mg : Int) : List Opt := (if 0 < sz then [(1, sz)] else []) ++ (if 0 < mg then [(5, mg)] else [])
def isUnk (o : Opt) : Bool := !(o.1 == 1) && !(o.1 == 5)
def unkL (l : List Opt) : List Opt := l.filter isUnk
def bet1 (mg : Int) (o : Opt) : List Opt :=
 if o.1 = 1 ∧ o.2 < 40 then [(1, 40)] else if o.1 = 5 ∧ (o.2 = 0 ∨ o.2 = mg) then [(5, mg % 255 + 1)] else []
def betL (mg : Int) (l : List Opt) : List Opt := l.flatMap (bet1 mg)
def judgeR (mg : Int) (l : List Opt) : Int × List Opt := if unkL l ≠ [] then (4, unkL l) else if betL mg l ≠ [] then (3, betL mg l) else (2, l)
def told1 (code : Int) (p : Int × Int) (o : Opt) : Int × Int :=
 if code = 4 then (if o.1 = 1 then (0, p.2) else if o.1 = 5 then (p.1, 0) else p)
 else if code = 3 then (if o.1 = 1 ∧ 0 < p.1 ∧ 40 ≤ o.2 then (o.2, p.2) else if o.1 = 5 ∧ 0 < p.2 ∧ 0 < o.2 then (p.1, o.2) else p)
 else p
def toldR (code : Int) (l : List Opt) (p : Int × Int) : Int × Int := l.foldl (told1 code) p
set_option maxRecDepth 100000 in
theorem new_in (sz mg : Int) (w : World) (h1 : ¬ sz < 40) (h2 : ¬ 255 < sz) (h3 : ¬ mg < 1) (h4 : ¬ 255 < mg) :
 Calls Tryz.prog 170 #[.int .i64 sz, .int .i64 mg] w fun e w' => e = .returned (.tuple #[.agg #[.int .i64 sz, .int .i64 mg], .nilIface]) ∧ Below w.heap.size w w' := by
 have hz := zeroPol
 have hb : Below w.heap.size w (w.alloc (.cells #[.int .i64 sz, .int .i64 mg] 252)) := below_alloc _ _
 go_enter Tryz.func170, Tryz.ntmps170
 go_wp2
 refine bodyPost_ret (v := .tuple #[.agg #[.int .i64 sz, .int .i64 mg], .nilIface]) (by simp [results, Tryz.results170, go_sem]) rfl ?_
 exact ⟨rfl, hb⟩
set_option maxRecDepth 100000 in
set_option maxHeartbeats 2000000 in
theorem asks_any (sz mg : Int) (w : World) : Calls Tryz.prog 224 #[.agg #[.int .i64 sz, .int .i64 mg]] w fun e w' => ∃ v, e = .returned v ∧ Made w w' v (asksL sz mg) := by
 obtain ⟨i0, hi, hz0, hz1, hz2⟩ := info_parts infoOpt
 have hw0 : Below w.heap.size w (w.alloc (.cells #[.int .i64 sz, .int .i64 mg] 252)) := below_alloc _ _
 have hA := fun j => World.cell?_alloc_mark w #[.int .i64 sz, .int .i64 mg] 252 (0, 0) j
 by_cases h1 : 0 < sz
 · by_cases h2 : 0 < mg
   · have hL : asksL sz mg = [(1, sz)] ++ [(5, mg)] := by simp [asksL, h1, h2]
     rw [hL]
     go_enter Tryz.func224, Tryz.ntmps224
     go_wp2_with (at_builtin; go_must (refine wpList_append_row _ rfl (.tmp 7) (.tmp 11) 35 rfl 276 i0 (.agg #[.int .i64 0, .int .i64 0]) 2 16 Tryz.underlying35 hi hz0 hz1 hz2 rfl (by decide) (.slice none 0 0) 0 (optCells []) rfl (Row.nil _ 2) _ 1 1 [.int .i64 1, .int .i64 sz] rfl rfl (by decide) (cells_twoN _ _ _ _ _ (by simp)) (one_ints _ _ _ _) (by decide) (by decide) ?_))
     intro g1 cap1 w1 hr1 hg1 hown1
     have hb1 := grow_below (hw0.alloc hw0.size _) hg1 (fun j hj => own_none hj)
     have hn1 := grow_new (B := w.heap.size) hown1 (by omega) (fun j hj => own_none hj)
     have hm1 : w1.cell? ⟨w.heap.size, 1, none⟩ = some (.int .i64 mg) := by
      exact grown_cell hg1 (by simp [Value.ownBlock]) (((below_alloc _ _).cell (p := ⟨w.heap.size, 1, none⟩) (by simp)).trans (hA 1))
     have hl1 : w.heap.size < w1.heap.size := World.block_lt_of_cell? w1 _ hm1
     rw [show ([] : List Opt) = [] from rfl] at hr1
     have hr1' : Row w1 2 (.slice (some ⟨g1, 0, none⟩) 1 cap1) 1 (optCells [(1, sz)]) := hr1
     clear hg1 hown1 hr1
     go_wp2_with (at_builtin; go_must (refine wpList_append_row _ rfl (.tmp 16) (.tmp 20) 35 rfl 276 i0 (.agg #[.int .i64 0, .int .i64 0]) 2 16 Tryz.underlying35 hi hz0 hz1 hz2 rfl (by decide) (.slice (some ⟨g1, 0, none⟩) 1 cap1) 1 (optCells [(1, sz)]) rfl (hr1'.alloc _) _ 1 1 [.int .i64 5, .int .i64 mg] rfl rfl (by decide) (cells_twoN _ _ _ _ _ (by simp)) (one_ints _ _ _ _) (by decide) (by decide) ?_))
     intro g2 cap2 w2 hr2 hg2 hown2
     have hb2 := grow_below (hb1.alloc hb1.size _) hg2 (fun j hj => own_some hn1 hj)
     have hn2 := grow_new (B := w.heap.size) hown2 (by have := hb1.size; omega) (fun j hj => own_some hn1 hj)
     clear hg2 hown2
     go_wp2_with (fail)
     go_ret
     exact ⟨_, rfl, ⟨hr2, fun j hj => own_some hn2 hj, hb2⟩⟩
   · have hL : asksL sz mg = [(1, sz)] := by simp [asksL, h1, h2]
     rw [hL]
     go_enter Tryz.func224, Tryz.ntmps224
     go_wp2_with (at_builtin; go_must (refine wpList_append_row _ rfl (.tmp 7) (.tmp 11) 35 rfl 276 i0 (.agg #[.int .i64 0, .int .i64 0]) 2 16 Tryz.underlying35 hi hz0 hz1 hz2 rfl (by decide) (.slice none 0 0) 0 (optCells []) rfl (Row.nil _ 2) _ 1 1 [.int .i64 1, .int .i64 sz] rfl rfl (by decide) (cells_twoN _ _ _ _ _ (by simp)) (one_ints _ _ _ _) (by decide) (by decide) ?_))
     intro g1 cap1 w1 hr1 hg1 hown1
     have hb1 := grow_below (hw0.alloc hw0.size _) hg1 (fun j hj => own_none hj)
     have hn1 := grow_new (B := w.heap.size) hown1 (by omega) (fun j hj => own_none hj)
     have hm1 : w1.cell? ⟨w.heap.size, 1, none⟩ = some (.int .i64 mg) := by
      exact grown_cell hg1 (by simp [Value.ownBlock]) (((below_alloc _ _).cell (p := ⟨w.heap.size, 1, none⟩) (by simp)).trans (hA 1))
     have hl1 : w.heap.size < w1.heap.size := World.block_lt_of_cell? w1 _ hm1
     clear hg1 hown1
     go_wp2_with (fail)
     go_ret
     exact ⟨_, rfl, ⟨hr1, fun j hj => own_some hn1 hj, hb1⟩⟩
 · by_cases h2 : 0 < mg
   · have hL : asksL sz mg = [(5, mg)] := by simp [asksL, h1, h2]
     rw [hL]
     go_enter Tryz.func224, Tryz.ntmps224
     go_wp2_with (at_builtin; go_must (refine wpList_append_row _ rfl (.tmp 16) (.tmp 20) 35 rfl 276 i0 (.agg #[.int .i64 0, .int .i64 0]) 2 16 Tryz.underlying35 hi hz0 hz1 hz2 rfl (by decide) (.slice none 0 0) 0 (optCells []) rfl (Row.nil _ 2) _ 1 1 [.int .i64 5, .int .i64 mg] rfl rfl (by decide) (cells_twoN _ _ _ _ _ (by simp)) (one_ints _ _ _ _) (by decide) (by decide) ?_))
     intro g1 cap1 w1 hr1 hg1 hown1
     have hb1 := grow_below (hw0.alloc hw0.size _) hg1 (fun j hj => own_none hj)
     have hn1 := grow_new (B := w.heap.size) hown1 (by omega) (fun j hj => own_none hj)
     clear hg1 hown1
     go_wp2_with (fail)
     go_ret
     exact ⟨_, rfl, ⟨hr1, fun j hj => own_some hn1 hj, hb1⟩⟩
   · have hL : asksL sz mg = [] := by simp [asksL, h1, h2]
     rw [hL]
     go_enter Tryz.func224, Tryz.ntmps224
     go_wp2_with (fail)
     go_ret
     exact ⟨_, rfl, ⟨Row.nil _ 2, fun j hj => own_none hj, hw0⟩⟩
set_option maxRecDepth 100000 in
set_option maxHeartbeats 2000000 in
theorem unknown_any (a : Option Addr) (n cap : Nat) (os : List Opt) (w : World) (hn : n ≤ 1000000) (ho : OptR w a n os) :
 Calls Tryz.prog 244 #[.slice a n cap] w fun e w' => ∃ v, e = .returned v ∧ Made w w' v (unkL os) := by
 obtain ⟨i0, hi, hz0, hz1, hz2⟩ := info_parts infoOpt
 go_enter Tryz.func244, Tryz.ntmps244
 go_wp2_with (fail)
 go_loopw [3, 8] (fun out i wr => ∃ (k : Nat) (ao : Option Addr) (m cp : Nat), k ≤ n ∧ out = .slice ao m cp ∧ i = .int .i64 k ∧ m ≤ k ∧ Row wr 2 (.slice ao m cp) m (optCells (unkL (os.take k))) ∧ (∀ j, Value.ownBlock (.slice ao m cp) = some j → w.heap.size ≤ j) ∧ Below w.heap.size w wr) (fun _ i _ => n - (intOf i).toNat)
 case atStart => exact ⟨0, none, 0, 0, Nat.zero_le _, rfl, rfl, Nat.le_refl _, by simpa [unkL, optCells] using Row.nil w 2, fun j hj => own_none hj, Below.refl _ _⟩
 case round =>
  obtain ⟨k, ao, m, cp, hk, rfl, rfl, hmk, hrow, hnew, hbel⟩ := hrel
  by_cases hlt : k < n
  · have hor := ho.below hbel
    rcases hor.2 with h0 | ⟨b, off, rfl, hc⟩
    · omega
    have hlo : k < os.length := by rw [ho.1]; exact hlt
    obtain ⟨c1, c2⟩ := hc k hlo
    have HT : Hid (os.take (k + 1) = os.take k ++ [os[k]]) := List.take_succ_eq_append_getElem hlo
    generalize os[k] = o at c1 c2 HT
    clear hc
    have hlt' : (k : Int) < (n : Int) := by omega
    cases q1 : (o.1 == 1)
    · cases q5 : (o.1 == 5)
      · have p1 : (o.1 != 1) = true := by simp [bne, q1]
        have p5 : (o.1 != 5) = true := by simp [bne, q5]
        have HU : Hid (unkL (os.take (k + 1)) = unkL (os.take k) ++ [o]) := by
         show _ = _
         rw [HT.out, unkL, List.filter_append]
         simp [isUnk, q1, q5]
         rfl
        go_wp2_with (at_builtin; go_must (refine wpList_append_row _ rfl (.tmp 20) (.tmp 22) 35 rfl 276 i0 (.agg #[.int .i64 0, .int .i64 0]) 2 16 Tryz.underlying35 hi hz0 hz1 hz2 rfl (by decide) (.slice ao m cp) m (optCells (unkL (os.take k))) rfl ((hrow.alloc _).alloc _) _ 1 1 [.int .i64 o.1, .int .i64 o.2] rfl rfl (by decide) (cells_twoN _ _ _ _ _ (by simp)) (one_ints _ _ _ _) (by unfold maxLen; omega) (by omega) ?_))
        intro g' cap' w1 hr1 hg1 hown1
        have hb1 := grow_below ((hbel.alloc hbel.size _).alloc (by simp; have := hbel.size; omega) _) hg1 hnew
        have hn1 := grow_new (B := w.heap.size) hown1 (by have := hbel.size; omega) hnew
        rw [← optCells_snoc, ← HU.out] at hr1
        clear hg1 hown1
        go_wp2_with (fail)
        go_roundw
        case rel => exact ⟨k + 1, _, m + 1, cap', by omega, rfl, by go_num, by omega, hr1, fun j hj => own_some hn1 hj, hb1⟩
        case measure => simp [intOf]; omega
      · have p1 : (o.1 != 1) = true := by simp [bne, q1]
        have p5 : (o.1 != 5) = false := by simp [bne, q5]
        have HU : Hid (unkL (os.take (k + 1)) = unkL (os.take k)) := by
         show _ = _
         rw [HT.out, unkL, List.filter_append]
         simp [isUnk, q1, q5]
         rfl
        have hb1 := hbel.alloc hbel.size (.cells #[.int .i64 o.1, .int .i64 o.2] 276)
        go_wp2_with (fail)
        go_roundw
        case rel => exact ⟨k + 1, _, m, cp, by omega, rfl, by go_num, by omega, by rw [HU.out]; exact hrow.alloc _, hnew, hb1⟩
        case measure => simp [intOf]; omega
    · have p1 : (o.1 != 1) = false := by simp [bne, q1]
      have HU : Hid (unkL (os.take (k + 1)) = unkL (os.take k)) := by
       show _ = _
       rw [HT.out, unkL, List.filter_append]
       simp [isUnk, q1]
       rfl
      have hb1 := hbel.alloc hbel.size (.cells #[.int .i64 o.1, .int .i64 o.2] 276)
      go_wp2_with (fail)
      go_roundw
      case rel => exact ⟨k + 1, _, m, cp, by omega, rfl, by go_num, by omega, by rw [HU.out]; exact hrow.alloc _, hnew, hb1⟩
      case measure => simp [intOf]; omega
  · have hkk : os.take k = os := List.take_of_length_le (by rw [ho.1]; omega)
    rw [hkk] at hrow
    have hml : m = (unkL os).length := by have := hrow.1; rw [optCells_length] at this; omega
    go_wp2_with (fail)
    go_ret
    exact ⟨_, rfl, ⟨by rw [← hml]; exact hrow, hnew, hbel⟩⟩
end Go.Proofs.YtieklnlbljejdaaGreatDoor

namespace Go.Proofs.YtieklnlbljejdaaGreatDoor
open Go.RowKit
theorem infoPack : (Tryz.prog.info? 37).map (fun i => (i.zero, i.size, i.bytes)) = some (some (.agg #[.int .i64 0, .int .i64 0, .slice none 0 0]), 3, 40) := by kernel_rfl
def lkC (fs fm ns nm qs qm st sz lf wt ow : Int) (v : Value) : Array Value := #[.int .i64 fs, .int .i64 fm, .int .i64 ns, .int .i64 nm, .int .i64 qs, .int .i64 qm, .int .i64 st, .int .i64 sz, .int .i64 lf, .int .i64 wt, .int .i64 ow, v]
def Lk (w : World) (B : Nat) (C : Array Value) : Prop := w.heap[B]? = some (.cells C 254 (0, 0))
theorem Lk.lt {w : World} {B : Nat} {C : Array Value} (h : Lk w B C) : B < w.heap.size := (Array.getElem?_eq_some_iff.1 h).1
theorem Lk.cell {w : World} {B : Nat} {C : Array Value} (h : Lk w B C) (j : Nat) : w.cell? ⟨B, j, none⟩ = C[j]? := cell_of_row w B j C _ (0, 0) h
theorem Lk.frozen {w : World} {B : Nat} {C : Array Value} (h : Lk w B C) (j : Nat) : w.frozen? ⟨B, j, none⟩ = false := frozen_of_row w B j C _ h
theorem Lk.set {w : World} {B : Nat} {C : Array Value} (h : Lk w B C) (j : Nat) (x : Value) : Lk (w.setCell ⟨B, j, none⟩ x) B (C.setIfInBounds j x) := by
 unfold Lk
 rw [setCell_eq_setRow w B j C _ (0, 0) x h]
 exact setRow_heap w B C _ _ (0, 0) h
theorem Lk.keep {w w' : World} {B : Nat} {C : Array Value} (h : Lk w B C) (hb : w'.heap[B]? = w.heap[B]?) : Lk w' B C := hb.trans h
theorem Lk.below {w w' : World} {B : Nat} {C : Array Value} (h : Lk w B C) (hb : Below w.heap.size w w') : Lk w' B C := h.keep (hb.block B h.lt)
theorem Lk.drew {w : World} {B : Nat} {C : Array Value} (h : Lk w B C) : Lk w.drew B C := h
theorem cells_threeD (w : World) (x y z : Value) (t : TypeId) (g : Nat) (hg : w.heap.size = g) : ∀ (j : Nat) (u : Value), [x, y, z][j]? = some u → (w.alloc (.cells #[x, y, z] t)).drew.cell? ((⟨g, 0, none⟩ : Addr).add j) = some u := by
 subst hg
 intro j u hu
 show (w.alloc (.cells #[x, y, z] t)).cell? _ = _
 rw [add_plain, World.cell?_alloc_mark]
 simpa using hu
theorem one_pack (x y : Int) (a : Option Addr) (n c : Nat) : ∀ u ∈ [Value.int .i64 x, Value.int .i64 y, Value.slice a n c], u.oneCell' = true := by simp [Value.oneCell']
theorem grownBy_setCell {a w : World} {b : Nat} (h : a.grownBy w (some b)) (j : Nat) (v : Value) : a.grownBy (w.setCell ⟨b, j, none⟩ v) (some b) := by
 have b1 : Below 0 w (w.setCell ⟨b, j, none⟩ v) := (Below.refl 0 w).setCell (Nat.zero_le _) _
 exact ⟨b1.os.trans h.os, b1.tape.trans h.tape, b1.output.trans h.output, Nat.le_trans h.size b1.size, fun i hi hne => (Below.heap_setCell _ _ _ i (fun e => hne (by rw [e]))).trans (h.block i hi hne)⟩
theorem grown_of_below {w x : World} (B : Nat) (h : Below w.heap.size w x) : w.grownBy x (some B) := ⟨h.os, h.tape, h.output, h.size, fun i hi _ => h.block i hi⟩
theorem grown_trans {a b c : World} {B : Nat} (h : a.grownBy b (some B)) (k : b.grownBy c (some B)) : a.grownBy c (some B) :=
 ⟨k.os.trans h.os, k.tape.trans h.tape, k.output.trans h.output, Nat.le_trans h.size k.size, fun i hi hne => (k.block i (Nat.lt_of_lt_of_le hi h.size) hne).trans (h.block i hi hne)⟩
end Go.Proofs.YtieklnlbljejdaaGreatDoor

namespace Go.Proofs.YtieklnlbljejdaaGreatDoor
open Go.RowKit
def isB (n : Int) : Bool := decide (0 ≤ n) && decide (n ≤ 255)
set_option maxRecDepth 100000 in
theorem isByte_any (n : Int) (w : World) : Calls Tryz.prog 226 #[.int .i64 n] w fun e w' => e = .returned (.bool (isB n)) ∧ w = w' := by
 by_cases h0 : 0 ≤ n
 · by_cases h1 : n ≤ 255
   · have hb : isB n = true := by simp [isB, h0, h1]
     rw [hb]
     clear hb
     go_enter Tryz.func226, Tryz.ntmps226
     go_wp2
     go_ret
     exact ⟨by first | rfl | (simp; omega), rfl⟩
   · have hb : isB n = false := by simp [isB, h1]
     rw [hb]
     clear hb
     go_enter Tryz.func226, Tryz.ntmps226
     go_wp2
     go_ret
     exact ⟨by first | rfl | (simp; omega), rfl⟩
 · have hb : isB n = false := by simp [isB, h0]
   rw [hb]
   clear hb
   go_enter Tryz.func226, Tryz.ntmps226
   go_wp2
   go_ret
   exact ⟨by first | rfl | (simp; omega), rfl⟩
set_option maxRecDepth 100000 in
theorem closure_any (k n K : Int) (bo : Nat) (w : World) (hbo : bo < w.heap.size) (h : w.cell? ⟨bo, 0, none⟩ = some (.int .i64 K)) :
 Calls Tryz.prog 243 #[.agg #[.int .i64 k, .int .i64 n], .pointer (some ⟨bo, 0, none⟩)] w fun e w' => e = .returned (.bool (k == K)) ∧ Below w.heap.size w w' := by
 go_enter Tryz.func243, Tryz.ntmps243
 go_wp2
 go_ret
 exact ⟨rfl, (Below.refl _ _).alloc (Nat.le_refl _) _⟩
set_option maxRecDepth 100000 in
set_option maxHeartbeats 2000000 in
theorem index_any (a : Option Addr) (n cap : Nat) (os : List Opt) (K : Int) (bo : Nat) (w : World) (hn : n ≤ 1000000) (hbo : bo < w.heap.size) (h : w.cell? ⟨bo, 0, none⟩ = some (.int .i64 K)) (ho : OptR w a n os) :
 Calls Tryz.prog 254 #[.slice a n cap, .func (.func 243) #[] #[.pointer (some ⟨bo, 0, none⟩)]] w fun e w' => ∃ r : Int, e = .returned (.int .i64 r) ∧ (decide (0 ≤ r) = os.any (fun o => o.1 == K)) ∧ Below w.heap.size w w' := by
 go_enter Tryz.func254, Tryz.ntmps254
 go_wp2_with (fail)
 go_loopw [8] (fun i wr => ∃ k : Nat, k ≤ n ∧ i = .int .i64 k ∧ (os.take k).any (fun o => o.1 == K) = false ∧ Below w.heap.size w wr) (fun i _ => n - (intOf i).toNat)
 case atStart => exact ⟨0, Nat.zero_le _, rfl, rfl, Below.refl _ _⟩
 case round =>
  obtain ⟨k, hk, rfl, hany0, hbel⟩ := hrel
  have hany : Hid _ := hany0
  clear hany0
  by_cases hlt : k < n
  · have hor := ho.below hbel
    rcases hor.2 with h0 | ⟨b, off, rfl, hc⟩
    · omega
    have hlo : k < os.length := by rw [ho.1]; exact hlt
    obtain ⟨c1, c2⟩ := hc k hlo
    have hK : wr.cell? ⟨bo, 0, none⟩ = some (.int .i64 K) := (hbel.cell (p := ⟨bo, 0, none⟩) hbo).trans h
    have hbo' : bo < wr.heap.size := Nat.lt_of_lt_of_le hbo hbel.size
    have HT : Hid (os.take (k + 1) = os.take k ++ [os[k]]) := List.take_succ_eq_append_getElem hlo
    have HM : Hid (os[k] ∈ os) := List.getElem_mem _
    generalize os[k] = o at c1 c2 HT HM
    clear hc
    have hlt' : (k : Int) < (n : Int) := by omega
    cases hq : (o.1 == K)
    · go_wp2_with (fail)
      refine (closure_any o.1 o.2 K bo wr hbo' hK).mono ?_
      rintro e w1 ⟨rfl, hb1⟩
      go_wp2_with (fail)
      go_roundw
      case rel => exact ⟨k + 1, by omega, by go_num, by rw [HT.out, List.any_append, hany.out]; simp [hq], below_chain hbel hb1⟩
      case measure => simp [intOf]; omega
    · go_wp2_with (fail)
      refine (closure_any o.1 o.2 K bo wr hbo' hK).mono ?_
      rintro e w1 ⟨rfl, hb1⟩
      go_wp2_with (fail)
      go_ret
      refine ⟨_, rfl, ?_, below_chain hbel hb1⟩
      have h1 : os.any (fun o => o.1 == K) = true := List.any_eq_true.mpr ⟨o, HM.out, hq⟩
      rw [h1]
      simp
  · have hkk : os.take k = os := List.take_of_length_le (by rw [ho.1]; omega)
    rw [hkk] at hany
    go_wp2_with (fail)
    go_ret
    exact ⟨-1, rfl, by rw [hany.out]; rfl, hbel⟩
set_option maxRecDepth 100000 in
theorem contains_any (a : Option Addr) (n cap : Nat) (os : List Opt) (K : Int) (bo : Nat) (w : World) (hn : n ≤ 1000000) (hbo : bo < w.heap.size) (h : w.cell? ⟨bo, 0, none⟩ = some (.int .i64 K)) (ho : OptR w a n os) :
 Calls Tryz.prog 242 #[.slice a n cap, .func (.func 243) #[] #[.pointer (some ⟨bo, 0, none⟩)]] w fun e w' => e = .returned (.bool (os.any (fun o => o.1 == K))) ∧ Below w.heap.size w w' := by
 go_enter Tryz.func242, Tryz.ntmps242
 go_wp2_with (fail)
 refine (index_any a n cap os K bo w hn hbo h ho).mono ?_
 rintro e w1 ⟨r, rfl, hr, hb⟩
 go_wp2_with (fail)
 go_ret
 exact ⟨by rw [← hr]; rfl, hb⟩
def optF : List Opt → List Opt → Nat
 | _, [] => 0
 | seen, o :: r => if (isB o.1 && isB o.2) = false then 1 else if seen.any (fun x => x.1 == o.1) = true then 3 else optF (seen ++ [o]) r
set_option maxRecDepth 100000 in
set_option maxHeartbeats 2000000 in
theorem checkOptions_any (a : Option Addr) (n cap : Nat) (os : List Opt) (w : World) (hn : n ≤ 1000000) (hcap : n ≤ cap) (ho : OptR w a n os) :
 Calls Tryz.prog 227 #[.slice a n cap] w fun e w' => e = .returned (errV (optF [] os)) ∧ Below w.heap.size w w' := by
 go_enter Tryz.func227, Tryz.ntmps227
 go_wp2_with (fail)
 go_loopw [7] (fun i wr => ∃ k : Nat, k ≤ n ∧ i = .int .i64 k ∧ optF [] os = optF (os.take k) (os.drop k) ∧ Below w.heap.size w wr) (fun i _ => n - (intOf i).toNat)
 case atStart => exact ⟨0, Nat.zero_le _, rfl, rfl, Below.refl _ _⟩
 case round =>
  obtain ⟨k, hk, rfl, hF0, hbel⟩ := hrel
  have hF : Hid _ := hF0
  clear hF0
  by_cases hlt : k < n
  · have hor := ho.below hbel
    have hpre := hor.take k (by omega)
    rcases hor.2 with h0 | ⟨b, off, rfl, hc⟩
    · omega
    have hlo : k < os.length := by rw [ho.1]; exact hlt
    obtain ⟨c1, c2⟩ := hc k hlo
    have HT : Hid (os.take (k + 1) = os.take k ++ [os[k]]) := List.take_succ_eq_append_getElem hlo
    have HD : Hid (os.drop k = os[k] :: os.drop (k + 1)) := List.drop_eq_getElem_cons hlo
    generalize os[k] = o at c1 c2 HT HD
    clear hc
    have hlt' : (k : Int) < (n : Int) := by omega
    have hw1 : Below w.heap.size w (wr.alloc (.cells #[.int .i64 o.1, .int .i64 o.2] 276)) := hbel.alloc hbel.size _
    have hpre1 : OptR (wr.alloc (.cells #[.int .i64 o.1, .int .i64 o.2] 276)) (some ⟨b, off, none⟩) k (os.take k) := hpre.below ((Below.refl _ _).alloc (Nat.le_refl _) _)
    have hcK : (wr.alloc (.cells #[.int .i64 o.1, .int .i64 o.2] 276)).cell? ⟨wr.heap.size, 0, none⟩ = some (.int .i64 o.1) := World.cell?_alloc_mark wr #[.int .i64 o.1, .int .i64 o.2] 276 (0, 0) 0
    have hcall := contains_any (some ⟨b, off, none⟩) k cap (os.take k) o.1 wr.heap.size (wr.alloc (.cells #[.int .i64 o.1, .int .i64 o.2] 276)) (by omega) (by simp) hcK hpre1
    clear hpre hpre1 hor
    cases hq1 : isB o.1
    · have HE : Hid (optF [] os = 1) := by
       show optF [] os = 1
       rw [hF.out, HD.out, optF, if_pos (by simp [hq1])]
      go_wp2_with (fail)
      refine (isByte_any o.1 _).mono ?_
      rintro e w1 ⟨rfl, rfl⟩
      go_wp2_with (fail)
      rw [HE.out]
      go_ret
      exact ⟨rfl, hw1⟩
    · cases hq2 : isB o.2
      · have HE : Hid (optF [] os = 1) := by
         show optF [] os = 1
         rw [hF.out, HD.out, optF, if_pos (by simp [hq2])]
        go_wp2_with (fail)
        refine (isByte_any o.1 _).mono ?_
        rintro e w1 ⟨rfl, rfl⟩
        go_wp2_with (fail)
        refine (isByte_any o.2 _).mono ?_
        rintro e w1 ⟨rfl, rfl⟩
        go_wp2_with (fail)
        rw [HE.out]
        go_ret
        exact ⟨rfl, hw1⟩
      · cases hq3 : (os.take k).any (fun x => x.1 == o.1)
        · have HE : Hid (optF [] os = optF (os.take (k + 1)) (os.drop (k + 1))) := by
           show optF [] os = _
           rw [hF.out, HD.out, optF, if_neg (by simp [hq1, hq2]), if_neg (by simp [hq3]), HT.out]
          rw [hq3] at hcall
          clear hq3
          go_wp2_with (fail)
          refine (isByte_any o.1 _).mono ?_
          rintro e w1 ⟨rfl, rfl⟩
          go_wp2_with (fail)
          refine (isByte_any o.2 _).mono ?_
          rintro e w1 ⟨rfl, rfl⟩
          go_wp2_with (fail)
          refine hcall.mono ?_
          rintro e w1 ⟨rfl, hb1⟩
          go_wp2_with (fail)
          go_roundw
          case rel => exact ⟨k + 1, by omega, by go_num, HE.out, below_chain hw1 hb1⟩
          case measure => simp [intOf]; omega
        · have HE : Hid (optF [] os = 3) := by
           show optF [] os = 3
           rw [hF.out, HD.out, optF, if_neg (by simp [hq1, hq2]), if_pos hq3]
          rw [hq3] at hcall
          clear hq3
          go_wp2_with (fail)
          refine (isByte_any o.1 _).mono ?_
          rintro e w1 ⟨rfl, rfl⟩
          go_wp2_with (fail)
          refine (isByte_any o.2 _).mono ?_
          rintro e w1 ⟨rfl, rfl⟩
          go_wp2_with (fail)
          refine hcall.mono ?_
          rintro e w1 ⟨rfl, hb1⟩
          go_wp2_with (fail)
          rw [HE.out]
          go_ret
          exact ⟨rfl, below_chain hw1 hb1⟩
  · have HE : Hid (optF [] os = 0) := by
     show optF [] os = 0
     have hdd : os.drop k = [] := List.drop_eq_nil_of_le (by rw [ho.1]; omega)
     rw [hF.out, hdd, optF]
    go_wp2_with (fail)
    rw [HE.out]
    go_ret
    exact ⟨rfl, hbel⟩
def packF (code id : Int) (os : List Opt) : Nat :=
 if code < 1 ∨ 6 < code ∨ isB id = false then 1
 else if 8 < os.length then 2
 else if 5 ≤ code ∧ 0 < os.length then 3
 else optF [] os
set_option maxRecDepth 100000 in
set_option maxHeartbeats 2000000 in
theorem check_any (code id : Int) (a : Option Addr) (n cap : Nat) (os : List Opt) (w : World) (hn : n ≤ 1000000) (hcap : n ≤ cap) (ho : OptR w a n os) :
 Calls Tryz.prog 209 #[.agg #[.int .i64 code, .int .i64 id, .slice a n cap]] w fun e w' => e = .returned (errV (packF code id os)) ∧ Below w.heap.size w w' := by
 have hl := ho.1
 have hw1 : Below w.heap.size w (w.alloc (.cells #[.int .i64 code, .int .i64 id, .slice a n cap] 37)) := (Below.refl _ _).alloc (Nat.le_refl _) _
 have hcall := checkOptions_any a n cap os (w.alloc (.cells #[.int .i64 code, .int .i64 id, .slice a n cap] 37)) hn hcap (ho.below hw1)
 by_cases h1 : code < 1
 · have HE : Hid (packF code id os = 1) := by show packF code id os = 1; simp [packF, h1]
   go_enter Tryz.func209, Tryz.ntmps209
   go_wp2_with (fail)
   rw [HE.out]
   go_ret
   exact ⟨rfl, hw1⟩
 · by_cases h2 : 6 < code
   · have HE : Hid (packF code id os = 1) := by show packF code id os = 1; simp [packF, h2]
     go_enter Tryz.func209, Tryz.ntmps209
     go_wp2_with (fail)
     rw [HE.out]
     go_ret
     exact ⟨rfl, hw1⟩
   · cases h3 : isB id
     · have HE : Hid (packF code id os = 1) := by show packF code id os = 1; simp [packF, h3]
       go_enter Tryz.func209, Tryz.ntmps209
       go_wp2_with (fail)
       refine (isByte_any id _).mono ?_
       rintro e w1 ⟨rfl, rfl⟩
       go_wp2_with (fail)
       rw [HE.out]
       go_ret
       exact ⟨rfl, hw1⟩
     · by_cases h4 : (8 : Int) < (n : Int)
       · have HE : Hid (packF code id os = 2) := by
          show packF code id os = 2
          rw [packF, if_neg (by simp [h3]; omega), if_pos (by omega)]
         go_enter Tryz.func209, Tryz.ntmps209
         go_wp2_with (fail)
         refine (isByte_any id _).mono ?_
         rintro e w1 ⟨rfl, rfl⟩
         go_wp2_with (fail)
         rw [HE.out]
         go_ret
         exact ⟨rfl, hw1⟩
       · by_cases h5 : 5 ≤ code
         · by_cases h6 : (0 : Int) < (n : Int)
           · have HE : Hid (packF code id os = 3) := by
              show packF code id os = 3
              rw [packF, if_neg (by simp [h3]; omega), if_neg (by omega), if_pos (by omega)]
             go_enter Tryz.func209, Tryz.ntmps209
             go_wp2_with (fail)
             refine (isByte_any id _).mono ?_
             rintro e w1 ⟨rfl, rfl⟩
             go_wp2_with (fail)
             rw [HE.out]
             go_ret
             exact ⟨rfl, hw1⟩
           · have HE : Hid (packF code id os = optF [] os) := by
              show packF code id os = _
              rw [packF, if_neg (by simp [h3]; omega), if_neg (by omega), if_neg (by omega)]
             go_enter Tryz.func209, Tryz.ntmps209
             go_wp2_with (fail)
             refine (isByte_any id _).mono ?_
             rintro e w1 ⟨rfl, rfl⟩
             go_wp2_with (fail)
             refine hcall.mono ?_
             rintro e w1 ⟨rfl, hb1⟩
             go_wp2_with (fail)
             rw [HE.out]
             go_ret
             exact ⟨rfl, below_chain hw1 hb1⟩
         · have HE : Hid (packF code id os = optF [] os) := by
            show packF code id os = _
            rw [packF, if_neg (by simp [h3]; omega), if_neg (by omega), if_neg (by omega)]
           go_enter Tryz.func209, Tryz.ntmps209
           go_wp2_with (fail)
           refine (isByte_any id _).mono ?_
           rintro e w1 ⟨rfl, rfl⟩
           go_wp2_with (fail)
           refine hcall.mono ?_
           rintro e w1 ⟨rfl, hb1⟩
           go_wp2_with (fail)
           rw [HE.out]
           go_ret
           exact ⟨rfl, below_chain hw1 hb1⟩
end Go.Proofs.YtieklnlbljejdaaGreatDoor

namespace Go.Proofs.YtieklnlbljejdaaGreatDoor
open Go.RowKit
theorem isB_iff (x : Int) : isB x = true ↔ 0 ≤ x ∧ x ≤ 255 := by simp [isB]
end Go.Proofs.YtieklnlbljejdaaGreatDoor
