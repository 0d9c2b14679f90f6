/-
  WaysMem WaysTo WaysTold
-/
import Derived.Test.YtieklnlbljejdaaGreatDoorG09
import Derived.Deep.WholeRow
import Derived.BigQuiet
namespace Go.Proofs.YtieklnlbljejdaaGreatDoor
open Go.RowKit St
theorem Blk.setRow {w : World} {B : Nat} {C D : Array Value} {t : TypeId} (h : Blk w B C t) : Blk (w.setRow B D) B D t := by
 unfold Blk at *
 simp only [World.setRow]
 rw [Array.getElem?_modify, if_pos rfl, h]
 rfl
theorem below_setRow {w a : World} {n B : Nat} (h : Below n w a) (hB : n ≤ B) (D : Array Value) : Below n w (a.setRow B D) := by
 refine ⟨h.os, h.tape, h.output, by simpa [World.setRow] using h.size, fun i hi => ?_⟩
 rw [← h.block i hi]
 simp only [World.setRow]
 rw [Array.getElem?_modify, if_neg (by omega)]
theorem Blk.otherRow {w : World} {B B' : Nat} {C D : Array Value} {t : TypeId} (h : Blk w B C t) (hne : B ≠ B') : Blk (w.setRow B' D) B C t := by
 unfold Blk at *
 simp only [World.setRow]
 rw [Array.getElem?_modify, if_neg (fun e => hne e.symm)]
 exact h
section
variable {P : Program}
theorem Blk.loadAt {w : World} {B : Nat} {C : Array Value} {t : TypeId} (h : Blk w B C t) (n : Nat) (e : TypeId) (hu : P.underlying t = some (.array n e)) (hi : (P.info? t).map (·.size) = some C.size) : (Instr.loadAt t (.pointer (some ⟨B, 0, none⟩))).run P w = .ok (.agg C) w := by
 simp only [Instr.loadAt, Instr.sureAddr, Sem.run_bind, Sem.run_pure, Result.andThen]
 exact run_loadVar_row w B t t C (0, 0) _ h hu rfl hi
theorem Blk.storeAt {w : World} {B : Nat} {C D : Array Value} {t : TypeId} (h : Blk w B C t) (hs : C.size = D.size) (hi : (P.info? t).map (·.size) = some D.size) (h1 : D.all (·.oneCell') = true) : (Instr.storeAt t (.pointer (some ⟨B, 0, none⟩)) (.agg D)).run P w = .ok () (w.setRow B D) := by
 simp only [Instr.storeAt, Instr.sureAddr, Sem.run_bind, Sem.run_pure, Result.andThen]
 exact run_storeVar_row w B t t C D h hi hs h1
theorem wpList_load_blk (w : World) {ops : Array Oper} {rest : List Oper} {o : Oper} {a : Act} {Q : Exit → Act → World → Prop} (hgd : o.guard = none) (x : Operand) (t : TypeId) (ho : o.op = .load t x)
 (B : Nat) (C : Array Value) (n : Nat) (e : TypeId) (hx : a.eval x = .pointer (some ⟨B, 0, none⟩)) (hb : Blk w B C t) (hu : P.underlying t = some (.array n e)) (hi : (P.info? t).map (·.size) = some C.size)
 (h : wpList P ops Q rest (a.put o.dst (.agg C)) w) : wpList P ops Q (o :: rest) a w := by
 refine wpList_plain hgd fun K hK => ?_
 have hr := hb.loadAt n e hu hi
 unfold Oper.wp execOp
 simp only [ho, Sem.run_bind, Sem.run_pure, Result.andThen_ok, hx, hr]
 exact hK _ _ h
theorem wpList_store_blk (w : World) {ops : Array Oper} {rest : List Oper} {o : Oper} {a : Act} {Q : Exit → Act → World → Prop} (hgd : o.guard = none) (x y : Operand) (t : TypeId) (ho : o.op = .store t x y)
 (B : Nat) (C D : Array Value) (hx : a.eval x = .pointer (some ⟨B, 0, none⟩)) (hy : a.eval y = .agg D) (hb : Blk w B C t) (hs : C.size = D.size) (hi : (P.info? t).map (·.size) = some D.size) (h1 : D.all (·.oneCell') = true)
 (h : wpList P ops Q rest (a.put o.dst undef) (w.setRow B D)) : wpList P ops Q (o :: rest) a w := by
 refine wpList_plain hgd fun K hK => ?_
 have hr := hb.storeAt hs hi h1
 unfold Oper.wp execOp
 simp only [ho, Sem.run_bind, Sem.run_pure, Result.andThen_ok, hx, hy, hr]
 exact hK _ _ h
end
abbrev Grid := Nat → Nat → Int
def gC (C : Grid) : Array Value := (Array.range 49).map fun i => .int .i64 (C (i / 7) (i % 7))
theorem gC_size (C : Grid) : (gC C).size = 49 := by simp [gC]
theorem gC_at (C : Grid) (i : Nat) (h : i < 49) : (gC C)[i]? = some (.int .i64 (C (i / 7) (i % 7))) := by simp [gC, h]
theorem gC_get (C : Grid) (a b : Nat) (ha : a < 7) (hb : b < 7) : (gC C)[a * 7 + b]? = some (.int .i64 (C a b)) := by
 rw [gC_at C _ (by omega)]
 rw [show (a * 7 + b) / 7 = a by omega, show (a * 7 + b) % 7 = b by omega]
def updG (C : Grid) (a b : Nat) (v : Int) : Grid := fun x y => if x = a ∧ y = b then v else C x y
theorem gC_set (C : Grid) (a b : Nat) (v : Int) (hb : b < 7) : (gC C).setIfInBounds (a * 7 + b) (.int .i64 v) = gC (updG C a b v) := by
 apply Array.ext_getElem?
 intro i
 rw [Array.getElem?_setIfInBounds]
 by_cases hi : i < 49
 · rw [gC_at _ i hi, gC_at _ i hi, gC_size]
   by_cases e : a * 7 + b = i
   · rw [if_pos e, if_pos (by omega)]
     have h1 : i / 7 = a := by omega
     have h2 : i % 7 = b := by omega
     simp [updG, h1, h2]
   · rw [if_neg e]
     have : ¬ (i / 7 = a ∧ i % 7 = b) := by omega
     simp only [updG, if_neg this]
 · have hs : ∀ D : Grid, (gC D)[i]? = none := fun D => Array.getElem?_eq_none (by rw [gC_size]; omega)
   rw [hs, hs]
   split
   · rw [if_neg (by rw [gC_size]; omega)]
   · rfl
theorem gC_one (C : Grid) : (gC C).all (·.oneCell') = true := by
 rw [Array.all_eq_true_iff_forall_mem]
 intro v hv
 obtain ⟨i, _, rfl⟩ := Array.mem_map.1 hv
 rfl
structure HP where
 dst : Int
 far : Int
 nxt : Int
def HP.zero : HP := ⟨0, 0, 0⟩
def hopAt (H : Nat → HP) (i : Nat) : Value := .int .i64 (if i % 3 = 0 then (H (i / 3)).dst else if i % 3 = 1 then (H (i / 3)).far else (H (i / 3)).nxt)
def hC (H : Nat → HP) : Array Value := (Array.range 21).map (hopAt H)
theorem hC_size (H : Nat → HP) : (hC H).size = 21 := by simp [hC]
theorem hC_at (H : Nat → HP) (i : Nat) (h : i < 21) : (hC H)[i]? = some (hopAt H i) := by simp [hC, h]
theorem hC_get (H : Nat → HP) (n : Nat) (hn : n < 7) : (hC H)[n * 3]? = some (.int .i64 (H n).dst) ∧ (hC H)[n * 3 + 1]? = some (.int .i64 (H n).far) ∧ (hC H)[n * 3 + 2]? = some (.int .i64 (H n).nxt) := by
 rw [hC_at _ _ (by omega), hC_at _ _ (by omega), hC_at _ _ (by omega)]
 unfold hopAt
 rw [show n * 3 % 3 = 0 by omega, show n * 3 / 3 = n by omega, show (n * 3 + 1) % 3 = 1 by omega, show (n * 3 + 1) / 3 = n by omega, show (n * 3 + 2) % 3 = 2 by omega, show (n * 3 + 2) / 3 = n by omega]
 exact ⟨rfl, rfl, rfl⟩
theorem hC_one (H : Nat → HP) : (hC H).all (·.oneCell') = true := by
 rw [Array.all_eq_true_iff_forall_mem]
 intro v hv
 obtain ⟨i, _, rfl⟩ := Array.mem_map.1 hv
 rfl
def updH (H : Nat → HP) (n : Nat) (p : HP) : Nat → HP := fun x => if x = n then p else H x
theorem hC_set (H : Nat → HP) (n : Nat) (p : HP) (hn : n < 7) : (((hC H).setIfInBounds (n * 3) (.int .i64 p.dst)).setIfInBounds (n * 3 + 1) (.int .i64 p.far)).setIfInBounds (n * 3 + 2) (.int .i64 p.nxt) = hC (updH H n p) := by
 apply Array.ext_getElem?
 intro i
 rw [Array.getElem?_setIfInBounds, Array.getElem?_setIfInBounds, Array.getElem?_setIfInBounds]
 simp only [Array.size_setIfInBounds, hC_size]
 by_cases hi : i < 21
 · rw [hC_at _ i hi, hC_at _ i hi]
   unfold hopAt
   by_cases e : i / 3 = n
   · have hu : updH H n p (i / 3) = p := by simp [updH, e]
     rw [hu]
     rcases (show i % 3 = 0 ∨ i % 3 = 1 ∨ i % 3 = 2 by omega) with h0 | h0 | h0
     · rw [if_neg (show ¬ n * 3 + 2 = i by omega), if_neg (show ¬ n * 3 + 1 = i by omega), if_pos (show n * 3 = i by omega), if_pos (by omega), if_pos h0]
     · rw [if_neg (show ¬ n * 3 + 2 = i by omega), if_pos (show n * 3 + 1 = i by omega), if_pos (by omega), if_neg (by omega), if_pos h0]
     · rw [if_pos (show n * 3 + 2 = i by omega), if_pos (by omega), if_neg (by omega), if_neg (by omega)]
   · have hu : updH H n p (i / 3) = H (i / 3) := by simp [updH, e]
     rw [hu, if_neg (show ¬ n * 3 + 2 = i by omega), if_neg (show ¬ n * 3 + 1 = i by omega), if_neg (show ¬ n * 3 = i by omega)]
 · have hs : ∀ D : Nat → HP, (hC D)[i]? = none := fun D => Array.getElem?_eq_none (by rw [hC_size]; omega)
   rw [hs, hs, if_neg (show ¬ n * 3 + 2 = i by omega), if_neg (show ¬ n * 3 + 1 = i by omega), if_neg (show ¬ n * 3 = i by omega)]
theorem info100 : (Tryz.prog.info? 256).map (fun i => (i.zero, i.size)) = some (some (.agg (gC fun _ _ => 0)), 49) := by kernel_rfl
theorem info104 : (Tryz.prog.info? 259).map (fun i => (i.zero, i.size)) = some (some (.agg (hC fun _ => HP.zero)), 21) := by kernel_rfl
theorem zeroCosts (w : World) : (zeroValue 256).run Tryz.prog w = .ok (.agg (gC fun _ _ => 0)) w := (zero_of_info info100).1 w
theorem zeroHops (w : World) : (zeroValue 259).run Tryz.prog w = .ok (.agg (hC fun _ => HP.zero)) w := (zero_of_info info104).1 w
theorem size100 : (Tryz.prog.info? 256).map (·.size) = some 49 := (zero_of_info info100).2
theorem size104 : (Tryz.prog.info? 259).map (·.size) = some 21 := (zero_of_info info104).2
end Go.Proofs.YtieklnlbljejdaaGreatDoor

namespace Go.Proofs.YtieklnlbljejdaaGreatDoor
open Go.RowKit St
structure HsR (w : World) (a : Option Addr) (n : Nat) (L : List HP) : Prop where
 len : L.length = n
 row : n = 0 ∨ ∃ b off, a = some ⟨b, off, none⟩ ∧ ∀ j h, L[j]? = some h → w.cell? ⟨b, off + j * 3, none⟩ = some (.int .i64 h.dst) ∧ w.cell? ⟨b, off + j * 3 + 1, none⟩ = some (.int .i64 h.far) ∧ w.cell? ⟨b, off + j * 3 + 2, none⟩ = some (.int .i64 h.nxt)
theorem HsR.below {w w' : World} {a : Option Addr} {n : Nat} {L : List HP} (h : HsR w a n L) (hb : Below w.heap.size w w') : HsR w' a n L := by
 refine ⟨h.len, ?_⟩
 rcases h.row with h2 | ⟨b, off, rfl, h2⟩
 · exact .inl h2
 · refine .inr ⟨b, off, rfl, fun j s e => ?_⟩
   obtain ⟨c1, c2, c3⟩ := h2 j s e
   have l := World.block_lt_of_cell? w _ c1
   exact ⟨(hb.cell (p := ⟨b, off + j * 3, none⟩) l).trans c1, (hb.cell (p := ⟨b, off + j * 3 + 1, none⟩) l).trans c2, (hb.cell (p := ⟨b, off + j * 3 + 2, none⟩) l).trans c3⟩
def idxH (L : List HP) (n : Int) : Nat → Option Nat
 | 0 => none
 | k + 1 => match idxH L n k with | some i => some i | none => (match L[k]? with | some h => if h.dst = n then some k else none | none => none)
def idxV : Option Nat → Int
 | none => -1
 | some i => (i : Int)
set_option maxRecDepth 100000 in
theorem clos_any (pd pf px x : Int) (X : Nat) (w : World) (hX : w.cell? ⟨X, 0, none⟩ = some (.int .i64 x)) :
 Calls Tryz.prog 219 #[.agg #[.int .i64 pd, .int .i64 pf, .int .i64 px], .pointer (some ⟨X, 0, none⟩)] w fun e w' => e = .returned (.bool (pd == x)) ∧ Below w.heap.size w w' := by
 have lX : X < w.heap.size := World.block_lt_of_cell? w _ hX
 have kb := below_alloc w (.cells #[.int .i64 pd, .int .i64 pf, .int .i64 px] 98)
 have hX2 := (kb.cell (p := ⟨X, 0, none⟩) lX).trans hX
 go_enter Tryz.func219, Tryz.ntmps219
 go_wp2_with (fail)
 go_ret
 exact ⟨rfl, kb⟩
set_option maxRecDepth 100000 in
set_option maxHeartbeats 4000000 in
theorem indexFunc_any (a : Option Addr) (n cap : Nat) (L : List HP) (x : Int) (X : Nat) (w : World) (h : HsR w a n L) (hn : n ≤ 1000) (hX : w.cell? ⟨X, 0, none⟩ = some (.int .i64 x)) :
 Calls Tryz.prog 218 #[.slice a n cap, .func (.func 219) #[] #[.pointer (some ⟨X, 0, none⟩)]] w fun e w' => e = .returned (.int .i64 (idxV (idxH L x n))) ∧ Below w.heap.size w w' := by
 go_enter Tryz.func218, Tryz.ntmps218
 go_wp2_with (fail)
 go_loopw [8] (fun v wr => ∃ k : Nat, k ≤ n ∧ v = .int .i64 k ∧ idxH L x k = none ∧ Below w.heap.size w wr) (fun v _ => n - (intOf v).toNat)
 case atStart => exact ⟨0, Nat.zero_le _, rfl, rfl, Below.refl _ _⟩
 case round =>
  obtain ⟨k, hk, rfl, hI, hbel⟩ := hrel
  have HI : Hid _ := hI
  clear hI
  by_cases hlt : k < n
  · have hlt' : (k : Int) < (n : Int) := by omega
    have hw := h.below hbel
    have hl := h.len
    rcases hw.row with h1 | ⟨b, off, rfl, hc⟩
    · omega
    have hg : L[k]? = some (L[k]'(by omega)) := List.getElem?_eq_getElem (by omega)
    obtain ⟨c0, c1, c2⟩ := hc k _ hg
    have HS : Hid (idxH L x (k + 1) = if (L[k]'(by omega)).dst = x then some k else none) := by
     show _ = _
     simp only [idxH, HI.out, hg]
    generalize L[k]'(by omega) = p at c0 c1 c2 HS hg
    obtain ⟨pd, pf, px⟩ := p
    simp only at c0 c1 c2 HS
    have lX : X < w.heap.size := World.block_lt_of_cell? w _ hX
    have hcl := clos_any pd pf px x X wr ((hbel.cell (p := ⟨X, 0, none⟩) lX).trans hX)
    have HB : Hid _ := hbel
    clear hc hw hg hbel
    by_cases he : pd = x
    · have he' : (pd == x) = true := by simpa using he
      rw [he'] at hcl
      have HS2 : Hid (idxH L x n = some k) := by
       have mono : ∀ d, idxH L x (k + 1 + d) = some k := by
        intro d
        induction d with
        | zero => rw [Nat.add_zero, HS.out, if_pos he]
        | succ d ih => rw [← Nat.add_assoc]; simp only [idxH, ih]
       have := mono (n - (k + 1))
       rwa [show k + 1 + (n - (k + 1)) = n by omega] at this
      clear he he'
      go_wp2_with (fail)
      refine hcl.mono ?_
      rintro e w1 ⟨rfl, k1⟩
      have HK : Hid _ := below_chain HB.out k1
      clear hcl k1
      go_wp2_with (fail)
      go_ret
      exact ⟨by rw [HS2.out]; rfl, HK.out⟩
    · have he' : (pd == x) = false := by simpa using he
      rw [he'] at hcl
      have HS2 : Hid (idxH L x (k + 1) = none) := by show _ = _; rw [HS.out, if_neg he]
      clear he he'
      go_wp2_with (fail)
      refine hcl.mono ?_
      rintro e w1 ⟨rfl, k1⟩
      have HK : Hid _ := below_chain HB.out k1
      clear hcl k1
      go_wp2_with (fail)
      go_roundw
      case rel => exact ⟨k + 1, by omega, by go_num, HS2.out, HK.out⟩
      case measure => simp [intOf]; omega
  · have hge : ¬ (k : Int) < (n : Int) := by omega
    have hkn : k = n := by omega
    have HS2 : Hid (idxH L x n = none) := by rw [← hkn]; exact HI.out
    clear hkn
    go_wp2_with (fail)
    go_ret
    exact ⟨by rw [HS2.out]; rfl, hbel⟩
def toH (L : List HP) (n : Int) : Option HP := L.find? fun h => h.dst == n
theorem idxH_find (L : List HP) (n : Int) : ∀ k, k ≤ L.length → (match idxH L n k with | some i => i < k ∧ L[i]? = toH (L.take k) n ∧ (toH (L.take k) n).isSome = true | none => toH (L.take k) n = none)
 | 0, _ => by simp [idxH, toH]
 | k + 1, hk => by
   have ih := idxH_find L n k (by omega)
   have ht : toH (L.take (k + 1)) n = (toH (L.take k) n).or (if (L[k]'(by omega)).dst = n then some (L[k]'(by omega)) else none) := by
    unfold toH
    rw [List.take_succ_eq_append_getElem (by omega), List.find?_append]
    congr 1
    by_cases e : (L[k]'(by omega)).dst = n <;> simp [e]
   simp only [idxH]
   cases hi : idxH L n k with
   | some i =>
     rw [hi] at ih
     obtain ⟨h1, h2, h3⟩ := ih
     simp only
     rw [ht]
     cases e : toH (L.take k) n with
     | none => rw [e] at h3; cases h3
     | some q => rw [e] at h2; exact ⟨by omega, by simpa using h2, rfl⟩
   | none =>
     rw [hi] at ih
     simp only at ih ⊢
     have hg : L[k]? = some (L[k]'(by omega)) := List.getElem?_eq_getElem (by omega)
     rw [ht, ih, hg]
     by_cases e : (L[k]'(by omega)).dst = n
     · simp [e]
     · simp [e]
set_option maxRecDepth 100000 in
set_option maxHeartbeats 4000000 in
theorem to_any (a : Option Addr) (n cap : Nat) (L : List HP) (x : Int) (w : World) (h : HsR w a n L) (hn : n ≤ 1000) :
 Calls Tryz.prog 199 #[.slice a n cap, .int .i64 x] w fun e w' => e = .returned (.tuple #[.agg #[.int .i64 ((toH L x).getD HP.zero).dst, .int .i64 ((toH L x).getD HP.zero).far, .int .i64 ((toH L x).getD HP.zero).nxt], .bool (toH L x).isSome]) ∧ Below w.heap.size w w' := by
 obtain ⟨W1, hW1⟩ : ∃ W1, (w.alloc (.cells #[.int .i64 x] 3)).alloc (.cells #[.int .i64 0, .int .i64 0, .int .i64 0] 98) = W1 := ⟨_, rfl⟩
 have hb1 : Below w.heap.size w W1 := by rw [← hW1]; exact (below_alloc _ _).alloc (by simp) _
 have hX : Blk W1 w.heap.size #[.int .i64 x] 3 := by rw [← hW1]; exact (Blk.new w _ _).below (below_alloc _ _)
 have hY : Blk W1 (w.heap.size + 1) #[.int .i64 0, .int .i64 0, .int .i64 0] 98 := by rw [← hW1]; exact Blk.newN _ _ _ _ (by simp)
 have hif := indexFunc_any a n cap L x w.heap.size W1 (h.below hb1) hn (hX.cell 0)
 have hfi := idxH_find L x L.length (Nat.le_refl _)
 rw [List.take_length, h.len] at hfi
 have hW : Hid _ := hW1
 clear hW1
 go_enter Tryz.func199, Tryz.ntmps199
 go_wp2_with (fail)
 rw [hW.out]
 refine hif.mono ?_
 rintro e w2 ⟨rfl, k2⟩
 have hY2 := hY.below k2
 have hb2 := below_chain hb1 k2
 have y0 : w2.cell? ⟨w.heap.size + 1, 0, none⟩ = some (.int .i64 0) := hY2.cell 0
 have y1 : w2.cell? ⟨w.heap.size + 1, 1, none⟩ = some (.int .i64 0) := hY2.cell 1
 have y2 : w2.cell? ⟨w.heap.size + 1, 2, none⟩ = some (.int .i64 0) := hY2.cell 2
 have f0 := hY2.frozen 0
 have f1 := hY2.frozen 1
 have f2 := hY2.frozen 2
 have lY := hY2.lt
 have HW2 := h.below hb2
 have HY2 : Hid _ := hY2
 have HB2 : Hid _ := hb2
 clear hif hX hY k2 hb1 hW hY2 hb2
 cases hi : idxH L x n with
 | none =>
   rw [hi] at hfi
   simp only at hfi
   have E1 : Hid ((toH L x).getD HP.zero = HP.zero) := by show _ = _; rw [hfi]; rfl
   have E2 : Hid ((toH L x).isSome = false) := by show _ = _; rw [hfi]; rfl
   have hv : idxV none = -1 := rfl
   rw [hv]
   clear hfi HW2 hv
   go_wp2_with (fail)
   refine bodyPost_ret (v := .tuple #[.agg #[.int .i64 0, .int .i64 0, .int .i64 0], .bool false]) (by simp [results, Tryz.results199, go_sem, y0, y1, y2]) rfl ?_
   exact ⟨by rw [E1.out, E2.out]; rfl, Below.setCell (Below.setCell (Below.setCell HB2.out (by show w.heap.size ≤ w.heap.size + 1; omega) _) (by show w.heap.size ≤ w.heap.size + 1; omega) _) (by show w.heap.size ≤ w.heap.size + 1; omega) _⟩
 | some i =>
   rw [hi] at hfi
   obtain ⟨h1, h2, h3⟩ := hfi
   have hi' : (i : Int) < (n : Int) := by omega
   have hi0 : ¬ (i : Int) < 0 := by omega
   obtain ⟨p, hp⟩ : ∃ p, toH L x = some p := Option.isSome_iff_exists.1 h3
   rw [hp] at h2
   have E1 : Hid ((toH L x).getD HP.zero = p) := by show _ = _; rw [hp]; rfl
   have E2 : Hid ((toH L x).isSome = true) := by show _ = _; rw [hp]; rfl
   have hv : idxV (some i) = (i : Int) := rfl
   rw [hv]
   clear hv
   rcases HW2.row with e | ⟨b, off, rfl, hc⟩
   · omega
   obtain ⟨c0, c1, c2⟩ := hc i p h2
   obtain ⟨pd, pf, px⟩ := p
   simp only at c0 c1 c2
   have hne : b ≠ w.heap.size + 1 := by
    rcases h.row with e | ⟨b', off', e', hc'⟩
    · omega
    · cases e'
      have := World.block_lt_of_cell? w _ (hc' i _ h2).1
      simp only at this
      omega
   clear h1 h2 h3 hp hc HW2
   go_wp2_with (fail)
   refine bodyPost_ret (v := .tuple #[.agg #[.int .i64 pd, .int .i64 pf, .int .i64 px], .bool true]) (by simp [results, Tryz.results199, go_sem, y0, y1, y2]) rfl ?_
   exact ⟨by rw [E1.out, E2.out], Below.setCell (Below.setCell (Below.setCell HB2.out (by show w.heap.size ≤ w.heap.size + 1; omega) _) (by show w.heap.size ≤ w.heap.size + 1; omega) _) (by show w.heap.size ≤ w.heap.size + 1; omega) _⟩
end Go.Proofs.YtieklnlbljejdaaGreatDoor

namespace Go.Proofs.YtieklnlbljejdaaGreatDoor
open Go.RowKit St
def putE (C : Grid) (o : Nat) (es : List Opt) : Grid := es.foldl (fun C e => updG C o e.1.toNat e.2) C
theorem putE_take (C : Grid) (o : Nat) (es : List Opt) (k : Nat) (h : k < es.length) : putE C o (es.take (k + 1)) = updG (putE C o (es.take k)) o (es[k].1.toNat) (es[k].2) := by
 unfold putE
 rw [List.take_succ_eq_append_getElem h, List.foldl_append]
 rfl
def tellF (S : Nat → SV) (E : Nat → List Opt) : Nat → Grid
 | 0 => fun _ _ => 0
 | i + 1 => putE (tellF S E i) (S i).own.toNat (E i)
set_option maxRecDepth 100000 in
set_option maxHeartbeats 4000000 in
theorem wtold_any (a : Option Addr) (n cap : Nat) (S : Nat → SV) (E : Nat → List Opt) (w : World) (h : StsR w a n S E) (hn : n ≤ 1000) (hok : ∀ j, j < n → stF (S j).own (S j).seq (E j) = 0) :
 Calls Tryz.prog 162 #[.slice a n cap] w fun e w' => e = .returned (.agg (gC (tellF S E n))) ∧ Below w.heap.size w w' := by
 have hz := zeroCosts
 have HOK : Hid _ := hok
 clear hok
 obtain ⟨Z, hZ⟩ : ∃ Z, gC (fun _ _ => 0) = Z := ⟨_, rfl⟩
 rw [hZ] at hz
 go_enter Tryz.func162, Tryz.ntmps162
 go_wp2_with (fail)
 obtain ⟨W0, hW0⟩ : ∃ W0, (w.alloc (.cells Z 256)).alloc (.cells Z 256) = W0 := ⟨_, rfl⟩
 have hb0 : Below w.heap.size w W0 := by rw [← hW0]; exact (below_alloc _ _).alloc (by simp) _
 have hB0 : Blk W0 w.heap.size Z 256 := by rw [← hW0]; exact (Blk.new w Z _).below (below_alloc _ _)
 have hB1 : Blk W0 (w.heap.size + 1) (gC (tellF S E 0)) 256 := by rw [← hW0]; show Blk _ _ (gC fun _ _ => 0) _; rw [hZ]; exact Blk.newN _ _ _ _ (by simp)
 rw [hW0]
 clear hW0
 obtain ⟨C0, hC0⟩ : ∃ C0, w.heap.size = C0 := ⟨_, rfl⟩
 have hl0 : w.heap.size ≤ C0 := by omega
 rw [hC0] at hB0 hB1
 rw [hC0]
 clear hC0
 go_loopw [10] (fun v wr => ∃ i : Nat, i ≤ n ∧ v = .int .i64 i ∧ Blk wr (C0 + 1) (gC (tellF S E i)) 256 ∧ Blk wr C0 Z 256 ∧ Below w.heap.size w wr) (fun v _ => n - (intOf v).toNat)
 case atStart => exact ⟨0, Nat.zero_le _, rfl, hB1, hB0, hb0⟩
 case round =>
  clear hB0 hB1 hb0
  obtain ⟨i, hi, rfl, hG, hZb, hbel⟩ := hrel
  by_cases hlt : i < n
  · have hlt' : (i : Int) < (n : Int) := by omega
    have hw := h.below hbel
    obtain ⟨ho, hz1, hx⟩ := hw.opt i hlt
    have hrow := hw.row
    rcases hrow with h1 | ⟨sb, off, rfl, hcs⟩
    · omega
    obtain ⟨c0, c1, c2⟩ := hcs i hlt
    have hstf := HOK.out i hlt
    have HOW := (h.opt i hlt).1
    have HT : Hid (tellF S E (i + 1) = putE (tellF S E i) (S i).own.toNat (E i)) := rfl
    obtain ⟨s, hs⟩ : ∃ s, S i = s := ⟨_, rfl⟩
    obtain ⟨es, he⟩ : ∃ es, E i = es := ⟨_, rfl⟩
    rw [hs] at c0 c1 c2 ho hz1 hx hstf HT HOW
    rw [he] at ho hstf HT HOW
    clear hs he hcs hw
    obtain ⟨so, sq, sa, sn, sc⟩ := s
    simp only at c0 c1 c2 ho hz1 hx hstf HT HOW
    have hso := (stF_zero hstf).1
    obtain ⟨o, rfl⟩ : ∃ o : Nat, so = (o : Int) := ⟨so.toNat, by omega⟩
    rw [Int.toNat_natCast] at HT
    have hes := edgF_all _ es 0 (stF_zero hstf).2.2.2
    have HES : Hid _ := hes
    have HOL := ho.1
    have hsn : sn ≤ 6 := by have := (stF_zero hstf).2.2.1; omega
    have hba := hbel.alloc hbel.size (.cells #[.int .i64 (o : Int), .int .i64 sq, .slice sa sn sc] 40)
    have hck := check_all (o : Int) sq sa sn sc es _ hx (HOW.below hba)
    have hE0 : Hid (errV (stF (o : Int) sq es) = .nilIface) := by show _ = _; rw [hstf]; rfl
    rw [hE0.out] at hck
    have hX := Blk.new wr #[.int .i64 (o : Int), .int .i64 sq, .slice sa sn sc] 40
    have hG2 := hG.below (below_alloc wr (.cells #[.int .i64 (o : Int), .int .i64 sq, .slice sa sn sc] 40))
    have hZ2 := hZb.below (below_alloc wr (.cells #[.int .i64 (o : Int), .int .i64 sq, .slice sa sn sc] 40))
    have Hba : Hid _ := hba
    have Hwl : Hid (C0 + 1 < wr.heap.size) := hG.lt
    have Hlw : Hid _ := hbel.size
    have HX : Hid _ := hX
    have HG2 : Hid _ := hG2
    have HZ2 : Hid _ := hZ2
    clear hes hstf hbel hG hZb hX hG2 hZ2 ho hz1 hx hba
    go_wp2_with (fail)
    refine hck.mono ?_
    rintro e w1 ⟨rfl, k1⟩
    have hX1 := Blk.below HX.out k1
    have HG1 : Hid _ := Blk.below HG2.out k1
    have HZ1 : Hid _ := Blk.below HZ2.out k1
    have Hb1 : Hid _ := below_chain Hba.out k1
    obtain ⟨X, hXe⟩ : ∃ X, wr.heap.size = X := ⟨_, rfl⟩
    rw [hXe] at hX1
    have Hwl2 : Hid (C0 + 1 < X) := by show _ < _; rw [← hXe]; exact Hwl.out
    have Hlw2 : Hid (w.heap.size ≤ X) := by show _ ≤ _; rw [← hXe]; exact Hlw.out
    rw [hXe]
    have x0 : w1.cell? ⟨X, 0, none⟩ = some (.int .i64 (o : Int)) := hX1.cell 0
    have x1 : w1.cell? ⟨X, 1, none⟩ = some (.int .i64 sq) := hX1.cell 1
    have x2 : w1.cell? ⟨X, 2, none⟩ = some (.slice sa sn sc) := hX1.cell 2
    have HX1 : Hid _ := hX1
    clear hck k1 hXe hX1 HX HG2 HZ2 Hba Hwl Hlw c0 c1 c2
    go_wp2_with (fail)
    obtain ⟨W1, rfl⟩ : ∃ W1, W1 = w1 := ⟨_, rfl⟩
    clear x0 x1 x2
    go_loopw [20] (fun v wr => ∃ k : Nat, k ≤ sn ∧ v = .int .i64 k ∧ Blk wr (C0 + 1) (gC (putE (tellF S E i) o (es.take k))) 256 ∧ Blk wr C0 Z 256 ∧ Blk wr X #[.int .i64 (o : Int), .int .i64 sq, .slice sa sn sc] 40 ∧ Below w.heap.size w wr) (fun v _ => sn - (intOf v).toNat)
    case atStart => exact ⟨0, Nat.zero_le _, rfl, HG1.out, HZ1.out, HX1.out, Hb1.out⟩
    case round =>
     clear HG1 HZ1 HX1 Hb1
     obtain ⟨k, hk, rfl, hG, hZb, hX, hbel⟩ := hrel
     by_cases hkn : k < sn
     · have hkn' : (k : Int) < (sn : Int) := by omega
       have hoe := HOW.below hbel
       rcases hoe.2 with h1 | ⟨eb, eoff, rfl, hec⟩
       · omega
       obtain ⟨d0, d1⟩ := hec k (by omega)
       have hrg := HES.out _ (List.getElem_mem (show k < es.length by omega))
       have HP : Hid (putE (tellF S E i) o (es.take (k + 1)) = updG (putE (tellF S E i) o (es.take k)) o ((es[k]'(by omega)).1.toNat) ((es[k]'(by omega)).2)) := putE_take _ o es k (by omega)
       obtain ⟨p, hp⟩ : ∃ p, es[k]'(by omega) = p := ⟨_, rfl⟩
       rw [hp] at d0 d1 hrg HP
       obtain ⟨pt, pm⟩ := p
       simp only at d0 d1 hrg HP
       obtain ⟨t, rfl⟩ : ∃ t : Nat, pt = (t : Int) := ⟨pt.toNat, by omega⟩
       rw [Int.toNat_natCast] at HP
       obtain ⟨W2, hW2⟩ : ∃ W2, wr.alloc (.cells #[.int .i64 (t : Int), .int .i64 pm] 123) = W2 := ⟨_, rfl⟩
       have kb : Below wr.heap.size wr W2 := by rw [← hW2]; exact below_alloc _ _
       have hY : Blk W2 wr.heap.size #[.int .i64 (t : Int), .int .i64 pm] 123 := by rw [← hW2]; exact Blk.new _ _ _
       have hG3 := hG.below kb
       have hX3 := hX.below kb
       have Hb3 : Hid _ := below_chain hbel kb
       have HZ3 : Hid _ := hZb.below kb
       have HW2 : Hid _ := hW2
       clear hec hp hoe hW2
       obtain ⟨Y, hYe⟩ : ∃ Y, wr.heap.size = Y := ⟨_, rfl⟩
       have HYl : Hid (X < Y) := by show _ < _; rw [← hYe]; exact hX.lt
       rw [hYe] at hY
       have HYe : Hid _ := hYe
       clear hYe kb hG hX hZb hbel
       have y0 : W2.drew.cell? ⟨Y, 0, none⟩ = some (.int .i64 (t : Int)) := hY.cell 0
       have y1 : W2.drew.cell? ⟨Y, 1, none⟩ = some (.int .i64 pm) := hY.cell 1
       have z0 : W2.drew.cell? ⟨X, 0, none⟩ = some (.int .i64 (o : Int)) := hX3.cell 0
       have g0 : W2.drew.cell? ⟨C0 + 1, o * 7 + t, none⟩ = some (.int .i64 (putE (tellF S E i) o (es.take k) o t)) := (hG3.cell _).trans (gC_get _ o t (by omega) (by omega))
       have g1 : W2.drew.frozen? ⟨C0 + 1, o * 7 + t, none⟩ = false := hG3.frozen _
       have o7 : (o : Int) < 7 := by omega
       have t7 : (t : Int) < 7 := by omega
       have HG3 : Hid _ := hG3
       have HX3 : Hid _ := hX3
       have HY3 : Hid _ := hY
       clear hG3 hX3 hY hrg hso
       go_upto_region 9 with fail
       rw [HW2.out, HYe.out]
       go_region
       all_goals
        go_wp2_with (fail)
        go_roundw
        case rel =>
         have hne : X ≠ C0 + 1 := by have := Hwl2.out; omega
         refine ⟨k + 1, by omega, by go_num, ?_, ?_, ?_, ?_⟩
         · rw [HP.out, ← gC_set _ o t pm (by omega)]
           exact Blk.set HG3.out _ _
         · exact Blk.other HZ3.out (by omega) _
         · exact Blk.other HX3.out hne _
         · exact below_drewN (Below.setCell Hb3.out (by show w.heap.size ≤ C0 + 1; omega) _) 1
        case measure => simp [intOf]; omega
     · have hge : ¬ (k : Int) < (sn : Int) := by omega
       have HG : Hid _ := hG
       have HZ : Hid _ := hZb
       have HB : Hid _ := hbel
       clear hG hZb hX hbel
       go_wp2_with (fail)
       go_roundw
       case rel =>
        refine ⟨i + 1, by omega, by go_num, ?_, HZ.out, HB.out⟩
        have e1 : es.take k = es := List.take_of_length_le (by omega)
        rw [HT.out, ← e1]
        exact HG.out
       case measure => simp [intOf]; omega
  · have hin : i = n := by omega
    subst hin
    have hge : ¬ (i : Int) < (i : Int) := by omega
    clear hlt
    obtain ⟨g, hg⟩ : ∃ g, gC (tellF S E i) = g := ⟨_, rfl⟩
    have gs : g.size = 49 := by rw [← hg]; exact gC_size _
    have g1 : g.all (·.oneCell') = true := by rw [← hg]; exact gC_one _
    have zs : Z.size = 49 := by rw [← hZ]; exact gC_size _
    rw [hg] at hG
    have HGE : Hid (g = gC (tellF S E i)) := hg.symm
    have hR : Blk (wr.setRow C0 g) C0 g 256 := hZb.setRow
    have l6 := run_loadVar_row (P := Tryz.prog) (wr.setRow C0 g) C0 256 256 g (0, 0) _ hR Tryz.underlying256 rfl (by rw [gs]; exact size100)
    have HBE : Hid (Below w.heap.size w (wr.setRow C0 g)) := below_setRow hbel hl0 g
    have hi1 : (Tryz.prog.info? 256).map (·.size) = some g.size := by rw [gs]; exact size100
    have hsz : Z.size = g.size := by rw [gs, zs]
    clear hR hg hZ hbel
    go_wp2_with (first
     | refine wpList_load_blk _ rfl (.tmp 3) 256 rfl (C0 + 1) g _ _ rfl hG Tryz.underlying256 hi1 ?_
     | refine wpList_store_blk _ rfl (.tmp 2) (.tmp 34) 256 rfl C0 Z g rfl rfl hZb hsz hi1 g1 ?_)
    refine bodyPost_ret (v := .agg g) (by simp [results, Tryz.results162, asAddr, l6]) rfl ?_
    exact ⟨by rw [HGE.out], HBE.out⟩
end Go.Proofs.YtieklnlbljejdaaGreatDoor
