/-
  Cel FrReader FrTold FrTake
-/
import Derived.Test.YtieklnlbljejdaaGreatDoorG00
import Derived.Test.YtieklnlbljejdaaGreatDoorG06
import Derived.RegionTactic
import Derived.BigRegion
import Derived.Deep.WholeRow
namespace Go.Proofs.YtieklnlbljejdaaGreatDoor
open Go.RowKit
def Cel (w : World) (g o m : Nat) (F : Nat → Value) : Prop := ∀ j, j < m → w.cell? ⟨g, o + j, none⟩ = some (F j) ∧ w.frozen? ⟨g, o + j, none⟩ = false
def updV (F : Nat → Value) (i : Nat) (v : Value) : Nat → Value := fun j => if j = i then v else F j
theorem updV_same (F : Nat → Value) (i : Nat) (v : Value) : updV F i v i = v := by simp [updV]
theorem updV_other (F : Nat → Value) {i j : Nat} (v : Value) (h : j ≠ i) : updV F i v j = F j := by simp [updV, h]
theorem frozen_setCell (w : World) (a x : Addr) (v : Value) : (w.setCell a v).frozen? x = w.frozen? x := by simp
theorem Cel.cell {w : World} {g o m : Nat} {F : Nat → Value} (h : Cel w g o m F) (j : Nat) (hj : j < m) : w.cell? ⟨g, o + j, none⟩ = some (F j) := (h j hj).1
theorem Cel.fz {w : World} {g o m : Nat} {F : Nat → Value} (h : Cel w g o m F) (j : Nat) (hj : j < m) : w.frozen? ⟨g, o + j, none⟩ = false := (h j hj).2
theorem Cel.lt {w : World} {g o m : Nat} {F : Nat → Value} (h : Cel w g o m F) (hm : 0 < m) : g < w.heap.size := World.block_lt_of_cell? w _ (h.cell 0 hm)
theorem Cel.set {w : World} {g o m : Nat} {F : Nat → Value} (h : Cel w g o m F) (i : Nat) (hi : i < m) (v : Value) : Cel (w.setCell ⟨g, o + i, none⟩ v) g o m (updV F i v) := by
 intro j hj
 refine ⟨?_, (frozen_setCell _ _ _ _).trans (h.fz j hj)⟩
 by_cases e : j = i
 · subst e
   rw [updV_same]
   exact World.cell?_setCell_same _ _ _ (h.cell j hj)
 · rw [updV_other F v e, World.cell?_setCell_other _ _ _ _ (fun e => by have := congrArg Addr.off e; simp at this; omega)]
   exact h.cell j hj
theorem Cel.keep {w w' : World} {g o m : Nat} {F : Nat → Value} (h : Cel w g o m F) (hb : w'.heap[g]? = w.heap[g]?) : Cel w' g o m F := fun j hj => by
 refine ⟨(World.cell?_of_block (a := ⟨g, o + j, none⟩) hb).trans (h.cell j hj), ?_⟩
 have : w'.frozen? ⟨g, o + j, none⟩ = w.frozen? ⟨g, o + j, none⟩ := by
  simp only [World.frozen?, hb]
 exact this.trans (h.fz j hj)
theorem Cel.below {w w' : World} {g o m : Nat} {F : Nat → Value} (h : Cel w g o m F) (hm : 0 < m) (hb : Below w.heap.size w w') : Cel w' g o m F := h.keep (hb.block g (h.lt hm))
theorem Cel.sub {w : World} {g o m : Nat} {F : Nat → Value} (h : Cel w g o m F) (a k : Nat) (hk : a + k ≤ m) : Cel w g (o + a) k (fun j => F (a + j)) := fun j hj => by
 have := h (a + j) (by omega)
 rw [Nat.add_assoc]
 exact this
theorem Cel.congr {w : World} {g o m : Nat} {F G : Nat → Value} (h : Cel w g o m F) (e : ∀ j, j < m → F j = G j) : Cel w g o m G := fun j hj => by rw [← e j hj]; exact h j hj
structure KeptC (w w' : World) (g o m : Nat) : Prop where
 os : w'.os = w.os
 tape : w'.tape = w.tape
 output : w'.output = w.output
 size : w.heap.size ≤ w'.heap.size
 block : ∀ i, i < w.heap.size → i ≠ g → w'.heap[i]? = w.heap[i]?
 cell : ∀ j, j < o ∨ o + m ≤ j → w'.cell? ⟨g, j, none⟩ = w.cell? ⟨g, j, none⟩
 fz : ∀ j, w'.frozen? ⟨g, j, none⟩ = w.frozen? ⟨g, j, none⟩
theorem KeptC.refl (w : World) (g o m : Nat) : KeptC w w g o m := ⟨rfl, rfl, rfl, Nat.le_refl _, fun _ _ _ => rfl, fun _ _ => rfl, fun _ => rfl⟩
theorem KeptC.trans {a b c : World} {g o m : Nat} (h : KeptC a b g o m) (k : KeptC b c g o m) : KeptC a c g o m :=
 ⟨k.os.trans h.os, k.tape.trans h.tape, k.output.trans h.output, Nat.le_trans h.size k.size, fun i hi hne => (k.block i (Nat.lt_of_lt_of_le hi h.size) hne).trans (h.block i hi hne), fun j hj => (k.cell j hj).trans (h.cell j hj), fun j => (k.fz j).trans (h.fz j)⟩
theorem KeptC.set {w x : World} {g o m : Nat} (h : KeptC w x g o m) (j : Nat) (h1 : o ≤ j) (h2 : j < o + m) (v : Value) : KeptC w (x.setCell ⟨g, j, none⟩ v) g o m := by
 have b1 : Below 0 x (x.setCell ⟨g, j, none⟩ v) := (Below.refl 0 x).setCell (Nat.zero_le _) _
 exact ⟨b1.os.trans h.os, b1.tape.trans h.tape, b1.output.trans h.output, Nat.le_trans h.size b1.size, fun i hi hne => (Below.heap_setCell _ _ _ i hne).trans (h.block i hi hne),
  fun i hi => (World.cell?_setCell_other _ _ _ _ (fun e => by have := congrArg Addr.off e; simp at this; omega)).trans (h.cell i hi), fun i => (frozen_setCell _ _ _ _).trans (h.fz i)⟩
theorem KeptC.drewN {w x : World} {g o m : Nat} (h : KeptC w x g o m) (n : Nat) : KeptC w (x.drewN n) g o m := ⟨h.os, h.tape, h.output, h.size, h.block, h.cell, h.fz⟩
theorem KeptC.drew {w x : World} {g o m : Nat} (h : KeptC w x g o m) : KeptC w x.drew g o m := ⟨h.os, h.tape, h.output, h.size, h.block, h.cell, h.fz⟩
theorem Cel.join {w w' : World} {g o m a k : Nat} {F G : Nat → Value} (h : Cel w g o m F) (hk : KeptC w w' g (o + a) k) (hG : Cel w' g (o + a) k G) : Cel w' g o m (fun j => if a ≤ j ∧ j < a + k then G (j - a) else F j) := fun j hj => by
 by_cases e : a ≤ j ∧ j < a + k
 · have h1 := hG (j - a) (by omega)
   have e2 : o + a + (j - a) = o + j := by omega
   rw [e2] at h1
   simp only [if_pos e]
   exact h1
 · simp only [if_neg e]
   exact ⟨(hk.cell (o + j) (by omega)).trans (h.cell j hj), (hk.fz _).trans (h.fz j hj)⟩
end Go.Proofs.YtieklnlbljejdaaGreatDoor

namespace Go.Proofs.YtieklnlbljejdaaGreatDoor
open Go.RowKit Plain
structure RdF (F : Nat → Value) (l : List UInt8) (e d : Bool) : Prop where
 len : l.length ≤ 62
 live : ∀ i : Nat, i < 62 → ∃ x : Int, F i = .int .u8 x
 body : ∀ (i : Nat) (h : i < l.length), F i = .int .u8 (l[i].toNat : Int)
 many : F 62 = .int .i64 (l.length : Int)
 esc : F 63 = .bool e
 bad : F 64 = .bool d
def Rd (w : World) (g o : Nat) (l : List UInt8) (e d : Bool) : Prop := ∃ F, Cel w g o 65 F ∧ RdF F l e d
theorem RdF.setBad {F : Nat → Value} {l : List UInt8} {e d : Bool} (h : RdF F l e d) (d' : Bool) : RdF (updV F 64 (.bool d')) l e d' := by
 have hlen := h.len
 refine ⟨hlen, fun i hi => ?_, fun i hi => ?_, ?_, ?_, updV_same _ _ _⟩
 · obtain ⟨x, hx⟩ := h.live i hi
   exact ⟨x, by rw [updV_other _ _ (by omega)]; exact hx⟩
 · rw [updV_other _ _ (by omega)]; exact h.body i hi
 · rw [updV_other _ _ (by omega)]; exact h.many
 · rw [updV_other _ _ (by omega)]; exact h.esc
theorem RdF.setEsc {F : Nat → Value} {l : List UInt8} {e d : Bool} (h : RdF F l e d) (e' : Bool) : RdF (updV F 63 (.bool e')) l e' d := by
 have hlen := h.len
 refine ⟨hlen, fun i hi => ?_, fun i hi => ?_, ?_, updV_same _ _ _, ?_⟩
 · obtain ⟨x, hx⟩ := h.live i hi
   exact ⟨x, by rw [updV_other _ _ (by omega)]; exact hx⟩
 · rw [updV_other _ _ (by omega)]; exact h.body i hi
 · rw [updV_other _ _ (by omega)]; exact h.many
 · rw [updV_other _ _ (by omega)]; exact h.bad
theorem RdF.push {F : Nat → Value} {l : List UInt8} {e d : Bool} (h : RdF F l e d) (hl : l.length < 62) (c : UInt8) :
 RdF (updV (updV F l.length (.int .u8 (c.toNat : Int))) 62 (.int .i64 ((l.length : Int) + 1))) (l ++ [c]) e d := by
 refine ⟨by simp; omega, fun i hi => ?_, fun i hi => ?_, ?_, ?_, ?_⟩
 · rw [updV_other _ _ (by omega)]
   by_cases e1 : i = l.length
   · rw [e1, updV_same]; exact ⟨_, rfl⟩
   · rw [updV_other _ _ e1]; exact h.live i hi
 · have hi' : i < l.length + 1 := by simpa using hi
   rw [updV_other _ _ (by omega)]
   by_cases e1 : i = l.length
   · subst e1
     rw [updV_same]
     simp
   · rw [updV_other _ _ e1, h.body i (by omega), List.getElem_append_left (by omega)]
 · rw [updV_same]
   simp
 · rw [updV_other _ _ (by omega), updV_other _ _ (by omega)]; exact h.esc
 · rw [updV_other _ _ (by omega), updV_other _ _ (by omega)]; exact h.bad
def addR : List UInt8 × Bool × Bool → UInt8 → List UInt8 × Bool × Bool
 | (l, e, d), c =>
   if c < 32 ∨ (c = 125 ∧ e = true) then (l, e, true)
   else if c = 125 then (l, true, d)
   else if l.length = 62 then (l, false, true)
   else (l ++ [if e then c ^^^ 32 else c], false, d)
set_option maxRecDepth 100000 in
set_option maxHeartbeats 2000000 in
theorem fadd_any (g o : Nat) (l : List UInt8) (e d : Bool) (c : UInt8) (w : World) (h : Rd w g o l e d) :
 Calls Tryz.prog 182 #[.pointer (some ⟨g, o, none⟩), .int .u8 (c.toNat : Int)] w fun e' w' => e' = .returned (.tuple #[]) ∧ Rd w' g o (addR (l, e, d) c).1 (addR (l, e, d) c).2.1 (addR (l, e, d) c).2.2 ∧ KeptC w w' g o 65 := by
 obtain ⟨F, hC, hR⟩ := h
 have HR : Hid (RdF F l e d) := hR
 have hlen := hR.len
 have c32 : c < 32 ↔ (c.toNat : Int) < 32 := by rw [UInt8.lt_iff_toNat_lt]; show c.toNat < 32 ↔ _; omega
 have c125 : c = 125 ↔ ((c.toNat : Int) == 125) = true := by
  rw [← UInt8.toNat_inj, beq_iff_eq]; show c.toNat = 125 ↔ _; omega
 have hmany : w.cell? ⟨g, o + 62, none⟩ = some (.int .i64 (l.length : Int)) := (hC.cell 62 (by decide)).trans (congrArg some hR.many)
 have hesc : w.cell? ⟨g, o + 63, none⟩ = some (.bool e) := (hC.cell 63 (by decide)).trans (congrArg some hR.esc)
 have hbad : w.cell? ⟨g, o + 64, none⟩ = some (.bool d) := (hC.cell 64 (by decide)).trans (congrArg some hR.bad)
 have hfree : ∀ i, i < 65 → w.frozen? ⟨g, o + i, none⟩ = false := fun i hi => hC.fz i hi
 have f62 := hfree 62 (by decide)
 have f63 := hfree 63 (by decide)
 have f64 := hfree 64 (by decide)
 have hgl := hC.lt (by decide)
 have HC : Hid (Cel w g o 65 F) := hC
 clear hC hR
 by_cases h1 : (c.toNat : Int) < 32
 · have ha : addR (l, e, d) c = (l, e, true) := by simp [addR, c32.mpr h1]
   rw [ha]
   clear c32 c125 hfree
   go_enter Tryz.func182, Tryz.ntmps182
   go_wp2_with (fail)
   first | go_end0 | refine bodyPost_ret (results_none rfl _ _ _) rfl ?_
   exact ⟨rfl, ⟨_, HC.out.set 64 (by decide) _, HR.out.setBad true⟩, (KeptC.refl _ _ _ _).set _ (by omega) (by omega) _⟩
 · have n32 : ¬ c < 32 := fun x => h1 (c32.mp x)
   by_cases h2 : ((c.toNat : Int) == 125) = true
   · have e125 : c = 125 := c125.mpr h2
     cases e
     · have ha : addR (l, false, d) c = (l, true, d) := by simp [addR, e125]
       rw [ha]
       clear c32 c125 e125 n32 hfree
       go_enter Tryz.func182, Tryz.ntmps182
       go_wp2_with (fail)
       first | go_end0 | refine bodyPost_ret (results_none rfl _ _ _) rfl ?_
       exact ⟨rfl, ⟨_, HC.out.set 63 (by decide) _, HR.out.setEsc true⟩, (KeptC.refl _ _ _ _).set _ (by omega) (by omega) _⟩
     · have ha : addR (l, true, d) c = (l, true, true) := by simp [addR, e125]
       rw [ha]
       clear c32 c125 e125 n32 hfree
       go_enter Tryz.func182, Tryz.ntmps182
       go_wp2_with (fail)
       first | go_end0 | refine bodyPost_ret (results_none rfl _ _ _) rfl ?_
       exact ⟨rfl, ⟨_, HC.out.set 64 (by decide) _, HR.out.setBad true⟩, (KeptC.refl _ _ _ _).set _ (by omega) (by omega) _⟩
   · have h2' : ((c.toNat : Int) == 125) = false := by simpa using h2
     have n125 : ¬ c = 125 := fun x => h2 (c125.mp x)
     have hx := xor32 c
     by_cases h3 : ((l.length : Int) == 62) = true
     · have l62 : l.length = 62 := by have := beq_iff_eq.mp h3; omega
       have ha : addR (l, e, d) c = (l, false, true) := by simp [addR, n125, n32, l62]
       rw [ha]
       have L62 : Hid (l.length = 62) := l62
       clear c32 c125 n125 n32 l62 h2 hfree
       cases e
       · go_enter Tryz.func182, Tryz.ntmps182
         go_wp2_with (fail)
         first | go_end0 | refine bodyPost_ret (results_none rfl _ _ _) rfl ?_
         exact ⟨rfl, ⟨_, HC.out.set 64 (by decide) _, HR.out.setBad true⟩, (KeptC.refl _ _ _ _).set _ (by omega) (by omega) _⟩
       · go_enter Tryz.func182, Tryz.ntmps182
         go_wp2_with (fail)
         first | go_end0 | refine bodyPost_ret (results_none rfl _ _ _) rfl ?_
         exact ⟨rfl, ⟨_, (HC.out.set 63 (by decide) _).set 64 (by decide) _, (HR.out.setEsc false).setBad true⟩, ((KeptC.refl _ _ _ _).set _ (by omega) (by omega) _).set _ (by omega) (by omega) _⟩
     · have h3' : ((l.length : Int) == 62) = false := by simpa using h3
       have l62 : l.length < 62 := by
        have : ¬ (l.length : Int) = 62 := fun e => h3 (by simp [e])
        omega
       have hl62' : (l.length : Int) < 62 := by omega
       have ha : addR (l, e, d) c = (l ++ [if e then c ^^^ 32 else c], false, d) := by simp [addR, n125, n32, Nat.ne_of_lt l62]
       rw [ha]
       obtain ⟨x, hxx⟩ := HR.out.live _ l62
       have hcell : w.cell? ⟨g, o + l.length, none⟩ = some (.int .u8 x) := (HC.out.cell _ (by omega)).trans (congrArg some hxx)
       have fl := hfree l.length (by omega)
       clear c32 c125 n125 n32 h2 h3 hxx hfree
       cases e
       · go_enter Tryz.func182, Tryz.ntmps182
         go_wp2_with (fail)
         go_region
         go_wp2_with (fail)
         go_end0
         exact ⟨rfl, ⟨_, (HC.out.set _ (by omega) _).set 62 (by decide) _, HR.out.push l62 c⟩, (((KeptC.refl _ _ _ _).set _ (by omega) (by omega) _).set _ (by omega) (by omega) _).drew⟩
       · go_enter Tryz.func182, Tryz.ntmps182
         go_wp2_with (fail)
         go_region
         go_wp2_with (fail)
         go_end0
         refine ⟨rfl, ⟨_, ((HC.out.set 63 (by decide) _).set _ (by omega) _).set 62 (by decide) _, ?_⟩, ((((KeptC.refl _ _ _ _).set _ (by omega) (by omega) _).set _ (by omega) (by omega) _).set _ (by omega) (by omega) _).drew⟩
         have hp := (HR.out.setEsc false).push l62 (c ^^^ 32)
         rw [UInt8.toNat_xor] at hp
         exact hp
end Go.Proofs.YtieklnlbljejdaaGreatDoor

namespace Go.Proofs.YtieklnlbljejdaaGreatDoor
open Go.RowKit Plain
def ftoldR (l : List UInt8) (e d : Bool) : List UInt8 × Bool × Nat :=
 if d = true ∨ e = true then ([], true, 4)
 else if l.length = 0 then ([], false, 0)
 else if l.length < 2 then ([], true, 4)
 else if (Plain.sum (l.take (l.length - 2)) : Int) = ((l.getD (l.length - 2) 0).toNat : Int) + 256 * ((l.getD (l.length - 1) 0).toNat : Int) then (l.take (l.length - 2), true, 0)
 else ([], true, 5)
theorem sum_q (s : ByteArray) (w : World) (hs : s.size ≤ maxLen) :
 Calls Tryz.prog 210 #[.string s] w fun e w' => e = .returned (.int .i64 (Plain.sum s.data.toList : Nat)) ∧ w' = w := (sum_any s w hs).mono fun _ _ ⟨a, b⟩ => ⟨a, b.symm⟩
theorem wrapsum (a b : UInt8) : wrap64 (wrap64 (a.toNat : Int) + wrap64 (256 * wrap64 (b.toNat : Int))) = (a.toNat : Int) + 256 * (b.toNat : Int) := by
 have ha := a.toNat_lt
 have hb := b.toNat_lt
 rw [IntWalk.wrap64_in (a.toNat : Int) ⟨by omega, by omega⟩, IntWalk.wrap64_in (b.toNat : Int) ⟨by omega, by omega⟩, IntWalk.wrap64_in (256 * (b.toNat : Int)) ⟨by omega, by omega⟩, IntWalk.wrap64_in _ ⟨by omega, by omega⟩]
theorem ftoldR_bad (l : List UInt8) (h2 : ¬ l.length < 2)
 (hq : (((Plain.sum (l.take (l.length - 2)) : Nat) : Int) != wrap64 (wrap64 ((l[l.length - 2]'(by omega)).toNat : Int) + wrap64 (256 * wrap64 ((l[l.length - 1]'(by omega)).toNat : Int)))) = true) : ftoldR l false false = ([], true, 5) := by
 rw [wrapsum] at hq
 have hq' : ¬ ((Plain.sum (l.take (l.length - 2)) : Nat) : Int) = ((l[l.length - 2]'(by omega)).toNat : Int) + 256 * ((l[l.length - 1]'(by omega)).toNat : Int) := by simpa using hq
 have e1 : l.getD (l.length - 2) 0 = l[l.length - 2]'(by omega) := by simp [show l.length - 2 < l.length by omega]
 have e2 : l.getD (l.length - 1) 0 = l[l.length - 1]'(by omega) := by simp [show l.length - 1 < l.length by omega]
 unfold ftoldR
 rw [if_neg (by simp), if_neg (by omega), if_neg h2, e1, e2, if_neg hq']
theorem ftoldR_good (l : List UInt8) (h2 : ¬ l.length < 2)
 (hq : (((Plain.sum (l.take (l.length - 2)) : Nat) : Int) != wrap64 (wrap64 ((l[l.length - 2]'(by omega)).toNat : Int) + wrap64 (256 * wrap64 ((l[l.length - 1]'(by omega)).toNat : Int)))) = false) : ftoldR l false false = (l.take (l.length - 2), true, 0) := by
 rw [wrapsum] at hq
 have hq' : ((Plain.sum (l.take (l.length - 2)) : Nat) : Int) = ((l[l.length - 2]'(by omega)).toNat : Int) + 256 * ((l[l.length - 1]'(by omega)).toNat : Int) := by simpa using hq
 have e1 : l.getD (l.length - 2) 0 = l[l.length - 2]'(by omega) := by simp [show l.length - 2 < l.length by omega]
 have e2 : l.getD (l.length - 1) 0 = l[l.length - 1]'(by omega) := by simp [show l.length - 1 < l.length by omega]
 unfold ftoldR
 rw [if_neg (by simp), if_neg (by omega), if_neg h2, e1, e2, if_pos hq']
theorem arrayLenBody : Tryz.prog.arrayLen 137 = 62 := by kernel_rfl
theorem underlyingBody : Tryz.prog.underlying 137 = some (.array (Tryz.prog.arrayLen 137) (Tryz.prog.elem 137)) := by kernel_rfl
theorem sizeOfBody (w : World) : (sizeOf (Tryz.prog.elem 137)).run Tryz.prog w = .ok 1 w := by kernel_rfl
set_option maxRecDepth 100000 in
set_option maxHeartbeats 2000000 in
theorem ftold_any (g o : Nat) (l : List UInt8) (e d : Bool) (w : World) (h : Rd w g o l e d) :
 Calls Tryz.prog 183 #[.pointer (some ⟨g, o, none⟩)] w fun e' w' => e' = .returned (.tuple #[.string ⟨(ftoldR l e d).1.toArray⟩, .bool (ftoldR l e d).2.1, errV (ftoldR l e d).2.2]) ∧ ∃ n, w' = w.drewN n := by
 obtain ⟨F, hC, hR⟩ := h
 have hlen := hR.len
 have hmany : w.cell? ⟨g, o + 62, none⟩ = some (.int .i64 (l.length : Int)) := (hC.cell 62 (by decide)).trans (congrArg some hR.many)
 have hesc : w.cell? ⟨g, o + 63, none⟩ = some (.bool e) := (hC.cell 63 (by decide)).trans (congrArg some hR.esc)
 have hbad : w.cell? ⟨g, o + 64, none⟩ = some (.bool d) := (hC.cell 64 (by decide)).trans (congrArg some hR.bad)
 have hbody : ∀ i (h : i < l.length), w.cell? ⟨g, o + i, none⟩ = some (.int .u8 (l[i].toNat : Int)) := fun i h => (hC.cell i (by omega)).trans (congrArg some (hR.body i h))
 have hgl := hC.lt (by decide)
 clear hC hR
 by_cases hd : d = true ∨ e = true
 · have ht : ftoldR l e d = ([], true, 4) := by simp [ftoldR, hd]
   rw [ht]
   clear ht hbody
   rcases hd with rfl | rfl
   · go_enter Tryz.func183, Tryz.ntmps183
     go_wp2_with (fail)
     go_ret3
     exact ⟨rfl, 0, rfl⟩
   · cases d
     · go_enter Tryz.func183, Tryz.ntmps183
       go_wp2_with (fail)
       go_ret3
       exact ⟨rfl, 0, rfl⟩
     · go_enter Tryz.func183, Tryz.ntmps183
       go_wp2_with (fail)
       go_ret3
       exact ⟨rfl, 0, rfl⟩
 · obtain ⟨rfl, rfl⟩ : d = false ∧ e = false := by cases d <;> cases e <;> simp_all
   by_cases h0 : l.length = 0
   · have ht : ftoldR l false false = ([], false, 0) := by simp [ftoldR, h0]
     rw [ht]
     have h0' : ((l.length : Int) == 0) = true := by simp [h0]
     have H0 : Hid (l.length = 0) := h0
     clear ht hbody h0 hd
     go_enter Tryz.func183, Tryz.ntmps183
     go_wp2_with (fail)
     go_ret3
     exact ⟨rfl, 0, rfl⟩
   · have h0' : ((l.length : Int) == 0) = false := by rw [beq_eq_false_iff_ne]; omega
     by_cases h2 : l.length < 2
     · have ht : ftoldR l false false = ([], true, 4) := by simp [ftoldR, h0, h2]
       rw [ht]
       clear ht hbody hd
       go_enter Tryz.func183, Tryz.ntmps183
       go_wp2_with (fail)
       go_ret3
       exact ⟨rfl, 0, rfl⟩
     · have hsl : ∀ W : World, (Instr.sliceAt 137 (.pointer (some ⟨g, o, none⟩)) none (some (.int .i64 ((l.length : Int) - 2))) none).run Tryz.prog W = .ok (.slice (some ⟨g, o, none⟩) (l.length - 2) 62) W := by
        intro W
        rw [run_sliceAt_array_h W 137 ⟨g, o, none⟩ underlyingBody .i64 _ (by omega) (by rw [arrayLenBody]; omega), sizeOfBody, arrayLenBody]
        have e1 : ((l.length : Int) - 2).toNat = l.length - 2 := by omega
        simp [slicedAt, Result.andThen, e1, add_plain']
       have hcv : (convert 140 9 (.slice (some ⟨g, o, none⟩) (l.length - 2) 62)).run Tryz.prog w = .ok (.string ⟨(l.take (l.length - 2)).toArray⟩) w := by
        have hl2 : (l.take (l.length - 2)).length = l.length - 2 := by simp
        have := run_convert_bytes_back (P := Tryz.prog) w 140 9 5 ⟨g, o, none⟩ 62 (l.take (l.length - 2)) Tryz.underlying140 Tryz.underlying5 Tryz.underlying9 (fun j hj => by
         rw [add_plain', hbody j (by omega)]
         simp)
        rw [hl2] at this
        exact this
       have hA := hbody (l.length - 2) (by omega)
       have hB := hbody (l.length - 1) (by omega)
       have tA : (((l.length : Int) - 2).toNat) = l.length - 2 := by omega
       have tB : (((l.length : Int) - 2 + 1).toNat) = l.length - 1 := by omega
       have hS : (ByteArray.mk (l.take (l.length - 2)).toArray).size ≤ maxLen := by
        show (l.take (l.length - 2)).toArray.size ≤ maxLen
        unfold maxLen; simp; omega
       go_enter Tryz.func183, Tryz.ntmps183
       go_wp2_with (fail)
       go_quiet ((go_at_call 210; exact Calls.quiet_of_same (sum_q _ _ hS)))
       go_wp2_with (fail)
       · have hq := ftoldR_bad l h2 (by assumption)
         rw [hq]
         go_ret3
         exact ⟨rfl, _, rfl⟩
       · have hq := ftoldR_good l h2 (by assumption)
         rw [hq]
         go_ret3
         exact ⟨rfl, _, rfl⟩
end Go.Proofs.YtieklnlbljejdaaGreatDoor

namespace Go.Proofs.YtieklnlbljejdaaGreatDoor
open Go.RowKit Plain
def ZRd : Array Value := #[] ++ Array.replicate 62 (.int .u8 0) ++ #[.int .i64 0, .bool false, .bool false]
theorem infoRd : (Tryz.prog.info? 139).map (fun i => (i.zero, i.size)) = some (some (.agg ZRd), 65) := by kernel_rfl
theorem zeroRd : (∀ w, (zeroValue 139).run Tryz.prog w = .ok (.agg ZRd) w) ∧ (Tryz.prog.info? 139).map (·.size) = some 65 := zero_of_info infoRd
theorem ZRd_size : ZRd.size = 65 := by decide
def zRd (j : Nat) : Value := ZRd.getD j (.bool false)
theorem RdF.zero : RdF zRd [] false false := by
 refine ⟨by simp, fun i hi => ⟨0, ?_⟩, fun i hi => by simp at hi, by kernel_rfl, by kernel_rfl, by kernel_rfl⟩
 have h : ZRd[i]? = some (.int .u8 0) := by
  unfold ZRd
  rw [Array.getElem?_append_left (by simp; omega)]
  simp [hi]
 unfold zRd
 rw [Array.getD_eq_getD_getElem?, h]
 rfl
theorem ZRd_one : ∀ v ∈ ZRd.toList, v.oneCell' = true := by
 have : ZRd.toList.all (·.oneCell') = true := by kernel_rfl
 exact List.all_eq_true.mp this
theorem clear_rd {w : World} {g o : Nat} {F : Nat → Value} (h : Cel w g o 65 F) :
 (storeCells ⟨g, o, none⟩ ZRd.toList).run Tryz.prog w = .ok () (w.setCells g o ZRd.toList) ∧ Cel (w.setCells g o ZRd.toList) g o 65 zRd ∧ KeptC w (w.setCells g o ZRd.toList) g o 65 := by
 have hl : ZRd.toList.length = 65 := by simp [ZRd_size]
 have hr := run_storeCells_cells (P := Tryz.prog) g o ZRd.toList 0 w (fun j hj => by rw [Nat.add_zero, h.cell j (by omega)]; rfl) (fun j hj => by rw [Nat.add_zero]; exact h.fz j (by omega)) ZRd_one
 have hblk : ∀ (vs : List Value) (o : Nat) (w : World), (w.setCells g o vs).heap.size = w.heap.size ∧ (w.setCells g o vs).os = w.os ∧ (w.setCells g o vs).tape = w.tape ∧ (w.setCells g o vs).output = w.output ∧ ∀ k, k ≠ g → (w.setCells g o vs).heap[k]? = w.heap[k]? := by
  intro vs
  induction vs with
  | nil => intro o w; exact ⟨rfl, rfl, rfl, rfl, fun _ _ => rfl⟩
  | cons u r ih =>
    intro o w
    have := ih (o + 1) (w.setCell ⟨g, o, none⟩ u)
    have b1 : Below 0 w (w.setCell ⟨g, o, none⟩ u) := (Below.refl 0 w).setCell (Nat.zero_le _) _
    refine ⟨this.1.trans (by simp), this.2.1.trans b1.os, this.2.2.1.trans b1.tape, this.2.2.2.1.trans b1.output, fun k hk => (this.2.2.2.2 k hk).trans (Below.heap_setCell _ _ _ k hk)⟩
 have B := hblk ZRd.toList o w
 refine ⟨by simpa using hr, fun j hj => ⟨?_, ?_⟩, ⟨B.2.1, B.2.2.1, B.2.2.2.1, by rw [B.1]; exact Nat.le_refl _, fun i _ hne => B.2.2.2.2 i hne, fun j hj => World.cell?_setCells_out g _ _ _ _ (fun _ _ => by show j < o ∨ o + ZRd.toList.length ≤ j; omega), fun j => World.frozen?_setCells g _ _ _ _⟩⟩
 · have h1 := World.cell?_setCells_in g ZRd.toList o w (fun k hk => by rw [h.cell k (by omega)]; rfl) j (by omega)
   rw [h1]
   unfold zRd
   rw [Array.getD_eq_getD_getElem?, Array.getElem?_eq_getElem (by rw [ZRd_size]; exact hj)]
   simp
 · exact (World.frozen?_setCells g _ _ _ _).trans (h.fz j hj)
def ftakeR (l : List UInt8) (e d : Bool) (c : UInt8) : List UInt8 × Bool × Bool := if c = 126 then ([], false, false) else addR (l, e, d) c
def ftakeA (l : List UInt8) (e d : Bool) (c : UInt8) : List UInt8 × Bool × Nat := if c = 126 then ftoldR l e d else ([], false, 0)
set_option maxRecDepth 100000 in
set_option maxHeartbeats 2000000 in
theorem ftake_any (g o : Nat) (l : List UInt8) (e d : Bool) (c : UInt8) (w : World) (h : Rd w g o l e d) :
 Calls Tryz.prog 132 #[.pointer (some ⟨g, o, none⟩), .int .u8 (c.toNat : Int)] w fun e' w' => e' = .returned (.tuple #[.string ⟨(ftakeA l e d c).1.toArray⟩, .bool (ftakeA l e d c).2.1, errV (ftakeA l e d c).2.2]) ∧
  Rd w' g o (ftakeR l e d c).1 (ftakeR l e d c).2.1 (ftakeR l e d c).2.2 ∧ KeptC w w' g o 65 := by
 have c126 : c = 126 ↔ ((c.toNat : Int) == 126) = true := by
  rw [← UInt8.toNat_inj, beq_iff_eq]; show c.toNat = 126 ↔ _; omega
 by_cases hc : c = 126
 · have hn : ((c.toNat : Int) != 126) = false := by rw [bne, c126.mp hc]; rfl
   have e1 : ftakeA l e d c = ftoldR l e d := by simp [ftakeA, hc]
   have e2 : ftakeR l e d c = ([], false, false) := by simp [ftakeR, hc]
   rw [e1, e2]
   clear e1 e2 c126 hc
   have hT := ftold_any g o l e d w h
   obtain ⟨F, hC, hR⟩ := h
   have hst : ∀ n, (storeCells ⟨g, o, none⟩ ZRd.toList).run Tryz.prog (w.drewN n) = .ok () ((w.drewN n).setCells g o ZRd.toList) := fun n => (clear_rd (w := w.drewN n) (F := F) hC).1
   have hz := zeroRd.1
   have hZ := ZRd_size
   have HC : Hid (Cel w g o 65 F) := hC
   clear hR hC
   go_enter Tryz.func132, Tryz.ntmps132
   go_wp2_with (go_at_call 183; refine hT.mono ?_; rintro e' w' ⟨rfl, n, rfl⟩)
   go_ret3
   have h2 := clear_rd (w := w.drewN n) (F := F) HC.out
   exact ⟨rfl, ⟨zRd, h2.2.1, RdF.zero⟩, ((KeptC.refl w g o 65).drewN n).trans h2.2.2⟩
 · have hn : ((c.toNat : Int) != 126) = true := by
    rw [bne]; cases hq : ((c.toNat : Int) == 126)
    · rfl
    · exact absurd (c126.mpr hq) hc
   have e1 : ftakeA l e d c = ([], false, 0) := by simp [ftakeA, hc]
   have e2 : ftakeR l e d c = addR (l, e, d) c := by simp [ftakeR, hc]
   rw [e1, e2]
   clear e1 e2 c126 hc
   go_enter Tryz.func132, Tryz.ntmps132
   go_wp2_with (go_at_call 182; refine (fadd_any g o l e d c _ h).mono ?_; rintro e' w' ⟨rfl, hR, hg⟩)
   go_ret3
   exact ⟨rfl, hR, hg⟩
end Go.Proofs.YtieklnlbljejdaaGreatDoor
