/-
  StSame FloodMap StCheckAll FloodRep StsIn
-/
import Derived.Test.YtieklnlbljejdaaGreatDoorG08
import Derived.Maps.RangeWalk
import Derived.ProofKit
import Derived.Lib.SmallJoins
import Derived.Deep.SlicePairs
import Derived.Deep.Slices
namespace Go.Proofs.YtieklnlbljejdaaGreatDoor
open Go.RowKit St
theorem enot_nil (a : Addr) (n cap : Nat) (w : World) : (binOp .eql 38 (.slice (some a) n cap) (.slice none 0 0)).run Tryz.prog w = .ok (.bool false) w := by kernel_rfl
theorem eis_nil (w : World) : (binOp .eql 38 (.slice none 0 0) (.slice none 0 0)).run Tryz.prog w = .ok (.bool true) w := by kernel_rfl
set_option maxRecDepth 100000 in
theorem eclone_zero (a : Addr) (cap : Nat) (w : World) :
 Calls Tryz.prog 206 #[.slice (some a) 0 cap] w fun e w' => ∃ (v : Value), e = .returned v ∧ Made w w' v [] := by
 have hq := enot_nil
 go_enter Tryz.func206, Tryz.ntmps206
 go_wp2
 go_ret
 exact ⟨_, rfl, ⟨Row.made w 2 _ #[] (0, 0) 0 0 [] rfl rfl (Nat.le_refl _) (by decide) (.inl rfl) (by simp), fun j hj => own_some (Nat.le_refl _) hj, below_alloc _ _⟩⟩
set_option maxRecDepth 100000 in
theorem eclone_nil (w : World) :
 Calls Tryz.prog 206 #[.slice none 0 0] w fun e w' => ∃ (v : Value), e = .returned v ∧ Made w w' v [] := by
 have hq := eis_nil
 go_enter Tryz.func206, Tryz.ntmps206
 go_wp2
 go_ret
 exact ⟨_, rfl, ⟨Row.nil w 2, fun j hj => own_none hj, Below.refl _ _⟩⟩
set_option maxRecDepth 100000 in
theorem eclone_some (b off n cap : Nat) (os : List Opt) (w : World) (hn : n ≤ 1000000) (hpos : 0 < n) (ho : OptR w (some ⟨b, off, none⟩) n os) :
 Calls Tryz.prog 206 #[.slice (some ⟨b, off, none⟩) n cap] w fun e w' => ∃ (v : Value), e = .returned v ∧ Made w w' v os := by
 obtain ⟨i0, hi, hz0, hz1, hz2⟩ := info_parts infoEdge
 have hq := enot_nil
 have hw0 : Below w.heap.size w (w.alloc (.cells #[] 123)) := below_alloc _ _
 have hl := ho.1
 have hrow : Row (w.alloc (.cells #[] 123)) 2 (.slice (some ⟨w.heap.size, 0, none⟩) 0 0) 0 [] := Row.made w 2 _ #[] (0, 0) 0 0 [] rfl rfl (Nat.le_refl _) (by decide) (.inl rfl) (by simp)
 go_enter Tryz.func206, Tryz.ntmps206
 go_wp2_with (at_builtin; go_must (refine wpList_append_row _ rfl (.tmp 5) (.tmp 6) 38 rfl 123 i0 (.agg #[.int .i64 0, .int .i64 0]) 2 16 Tryz.underlying38 hi hz0 hz1 hz2 rfl (by decide) (.slice (some ⟨w.heap.size, 0, none⟩) 0 0) 0 [] rfl hrow _ n cap (optCells os) rfl (by rw [optCells_length]; omega) hpos ((ho.below hw0).cells hpos) (one_opts _) (by unfold maxLen; omega) (by omega) ?_))
 intro g1 cap1 w1 hr1 hg1 hown1
 have hb1 := grow_below hw0 hg1 (fun j hj => own_some (Nat.le_refl _) hj)
 have hn1 := grow_new (B := w.heap.size) hown1 (by omega) (fun j hj => own_some (Nat.le_refl _) hj)
 clear hg1 hown1
 go_wp2_with (fail)
 go_ret
 refine ⟨_, rfl, ⟨?_, fun j hj => own_some hn1 hj, hb1⟩⟩
 rw [hl]
 exact hr1
theorem eclone_any (a : Option Addr) (n cap : Nat) (os : List Opt) (w : World) (hn : n ≤ 1000000) (hnil : NilOk a cap) (ho : OptR w a n os) :
 Calls Tryz.prog 206 #[.slice a n cap] w fun e w' => ∃ (v : Value), e = .returned v ∧ Made w w' v os := by
 rcases ho.2 with h0 | ⟨b, off, rfl, hc⟩
 · subst h0
   have hos : os = [] := List.eq_nil_of_length_eq_zero ho.1
   subst hos
   cases a with
   | none =>
     obtain rfl := hnil rfl
     exact eclone_nil w
   | some a => exact eclone_zero a cap w
 · by_cases hpos : 0 < n
   · exact eclone_some b off n cap os w hn hpos ho
   · have h0 : n = 0 := by omega
     subst h0
     have hos : os = [] := List.eq_nil_of_length_eq_zero ho.1
     subst hos
     exact eclone_zero _ cap w
structure Copied (w w' : World) (e : Ending) (own seq : Int) (os : List Opt) : Prop where
 out : ∃ (a : Option Addr) (cap : Nat), e = .returned (.agg #[.int .i64 own, .int .i64 seq, .slice a os.length cap]) ∧ OptR w' a os.length os ∧ NilOk a cap ∧ os.length ≤ cap ∧ (∀ j, Value.ownBlock (.slice a os.length cap) = some j → w.heap.size ≤ j ∧ j < w'.heap.size)
 below : Below w.heap.size w w'
set_option maxRecDepth 100000 in
set_option maxHeartbeats 2000000 in
theorem copy_any (own seq : Int) (a : Option Addr) (n cap : Nat) (os : List Opt) (w : World) (hn : n ≤ 1000000) (hnil : NilOk a cap) (ho : OptR w a n os) :
 Calls Tryz.prog 169 #[.agg #[.int .i64 own, .int .i64 seq, .slice a n cap]] w fun e w' => Copied w w' e own seq os := by
 have hz := zeroState
 have hw0 : Below w.heap.size w ((w.alloc (.cells #[.int .i64 own, .int .i64 seq, .slice a n cap] 40)).alloc (.cells #[.int .i64 0, .int .i64 0, .slice none 0 0] 40)) := (below_alloc _ _).alloc (by simp) _
 obtain ⟨W0, hW0⟩ : ∃ W0, (w.alloc (.cells #[.int .i64 own, .int .i64 seq, .slice a n cap] 40)).alloc (.cells #[.int .i64 0, .int .i64 0, .slice none 0 0] 40) = W0 := ⟨_, rfl⟩
 have hX0 : W0.heap[w.heap.size]? = some (.cells #[.int .i64 own, .int .i64 seq, .slice a n cap] 40 (0, 0)) := by
  rw [← hW0, Below.heap_alloc _ _ _ (by simp)]
  exact heap_alloc_new w _
 have hY0 : W0.heap[w.heap.size + 1]? = some (.cells #[.int .i64 0, .int .i64 0, .slice none 0 0] 40 (0, 0)) := by
  have h := heap_alloc_new (w.alloc (.cells #[.int .i64 own, .int .i64 seq, .slice a n cap] 40)) (.cells #[.int .i64 0, .int .i64 0, .slice none 0 0] 40)
  rw [hW0] at h
  simpa using h
 rw [hW0] at hw0
 have hcl := eclone_any a n cap os W0 hn hnil (ho.below hw0)
 have HW : Hid _ := hW0
 clear hW0
 go_enter Tryz.func169, Tryz.ntmps169
 go_wp2_with (fail)
 rw [HW.out]
 refine hcl.mono ?_
 rintro e w1 ⟨v, rfl, hM⟩
 clear hcl
 obtain ⟨va, vc, rfl, vn, vl⟩ := hM.shape
 have k1 := hM.below
 have hX1 := (k1.block _ (Array.getElem?_eq_some_iff.1 hX0).1).trans hX0
 have hY1 := (k1.block _ (Array.getElem?_eq_some_iff.1 hY0).1).trans hY0
 have x0 : w1.cell? ⟨w.heap.size, 0, none⟩ = some (.int .i64 own) := cell_of_row w1 _ 0 _ _ (0, 0) hX1
 have x1 : w1.cell? ⟨w.heap.size, 1, none⟩ = some (.int .i64 seq) := cell_of_row w1 _ 1 _ _ (0, 0) hX1
 have x2 : w1.cell? ⟨w.heap.size, 2, none⟩ = some (.slice a n cap) := cell_of_row w1 _ 2 _ _ (0, 0) hX1
 have y0 : w1.cell? ⟨w.heap.size + 1, 0, none⟩ = some (.int .i64 0) := cell_of_row w1 _ 0 _ _ (0, 0) hY1
 have y1 : w1.cell? ⟨w.heap.size + 1, 1, none⟩ = some (.int .i64 0) := cell_of_row w1 _ 1 _ _ (0, 0) hY1
 have y2 : w1.cell? ⟨w.heap.size + 1, 2, none⟩ = some (.slice none 0 0) := cell_of_row w1 _ 2 _ _ (0, 0) hY1
 have fx := fun j => frozen_of_row w1 w.heap.size j _ _ hX1
 have fy := fun j => frozen_of_row w1 (w.heap.size + 1) j _ _ hY1
 have lx : w.heap.size < w1.heap.size := World.block_lt_of_cell? w1 _ x0
 have ly : w.heap.size + 1 < w1.heap.size := World.block_lt_of_cell? w1 _ y0
 have hk := below_chain hw0 k1
 have hnew : ∀ j, Value.ownBlock (.slice va os.length vc) = some j → w.heap.size + 2 ≤ j := fun j hj => by
  have h1 := hM.new j hj
  have h2 : w.heap.size + 1 < W0.heap.size := (Array.getElem?_eq_some_iff.1 hY0).1
  omega
 have hlt : ∀ j, Value.ownBlock (.slice va os.length vc) = some j → j < w1.heap.size := hM.row.lt
 have hopt := hM.opts.2
 have HC : Hid (∀ u v x y : Value, Copied w ((((w1.setCell ⟨w.heap.size, 2, none⟩ u).setCell ⟨w.heap.size + 1, 0, none⟩ v).setCell ⟨w.heap.size + 1, 1, none⟩ x).setCell ⟨w.heap.size + 1, 2, none⟩ y) (.returned (.agg #[.int .i64 own, .int .i64 seq, .slice va os.length vc])) own seq os) := by
  intro u v x y
  refine ⟨⟨va, vc, rfl, ?_, vn, vl, fun j hj => ⟨by have := hnew j hj; omega, by simpa using hlt j hj⟩⟩, (((hk.setCell (Nat.le_refl _) _).setCell (by show _ ≤ w.heap.size + 1; omega) _).setCell (by show _ ≤ w.heap.size + 1; omega) _).setCell (by show _ ≤ w.heap.size + 1; omega) _⟩
  refine ⟨rfl, ?_⟩
  rcases hopt.2 with h0 | ⟨b, off, rfl, hc⟩
  · exact .inl h0
  · refine .inr ⟨b, off, rfl, fun j hj => ?_⟩
    have hb : w.heap.size + 2 ≤ b := hnew b rfl
    have e1 : ∀ o, ((((w1.setCell ⟨w.heap.size, 2, none⟩ u).setCell ⟨w.heap.size + 1, 0, none⟩ v).setCell ⟨w.heap.size + 1, 1, none⟩ x).setCell ⟨w.heap.size + 1, 2, none⟩ y).cell? ⟨b, o, none⟩ = w1.cell? ⟨b, o, none⟩ := fun o => by
     apply World.cell?_of_block
     rw [Below.heap_setCell _ _ _ _ (by show b ≠ w.heap.size + 1; omega), Below.heap_setCell _ _ _ _ (by show b ≠ w.heap.size + 1; omega), Below.heap_setCell _ _ _ _ (by show b ≠ w.heap.size + 1; omega), Below.heap_setCell _ _ _ _ (by show b ≠ w.heap.size; omega)]
    rw [e1, e1]
    exact hc j hj
 clear hM k1 hX1 hY1 hnew hlt hopt hk hX0 hY0
 go_wp2_with (fail)
 refine bodyPost_ret (v := .agg #[.int .i64 own, .int .i64 seq, .slice va os.length vc]) (by simp [results, Tryz.results169, go_sem, y0, y1, y2]) rfl ?_
 exact HC.out _ _ _ _
end Go.Proofs.YtieklnlbljejdaaGreatDoor

namespace Go.Proofs.YtieklnlbljejdaaGreatDoor
open Go.RowKit St
open Go.Maps (Keyed)
open Go.ChangeMaps Go.MapKept
open Go.WideElems (Fit)
structure SV where
 own : Int
 seq : Int
 a : Option Addr
 n : Nat
 cap : Nat
def SV.v (s : SV) : Value := .agg #[.int .i64 s.own, .int .i64 s.seq, .slice s.a s.n s.cap]
def SV.zero : SV := ⟨0, 0, none, 0, 0⟩
def svOf : Value → Option SV
 | .agg cs => (match cs.toList with
   | [.int .i64 o, .int .i64 q, .slice a n c] => some ⟨o, q, a, n, c⟩
   | _ => none)
 | _ => none
theorem svOf_inv {v : Value} {s : SV} (h : svOf v = some s) : v = s.v := by
 unfold svOf at h
 split at h
 · rename_i cs
   split at h
   · rename_i o q a n c e
     obtain rfl := Option.some.inj h
     have : cs = #[.int .i64 o, .int .i64 q, .slice a n c] := by
      apply Array.toList_inj.1
      simpa using e
     rw [this]
     rfl
   · cases h
 · cases h
def elemR (v : Value) : Option (DataW SV × List MemPlace) := (svOf v).map fun s => (.held s, [])
theorem elemR_v (s : SV) : elemR s.v = some (.held s, []) := rfl
theorem elemR_inv {v : Value} {y : DataW SV × List MemPlace} (h : elemR v = some y) : ∃ s, v = s.v ∧ y = (.held s, []) := by
 unfold elemR at h
 obtain ⟨s, hs, rfl⟩ := Option.map_eq_some_iff.1 h
 exact ⟨s, svOf_inv hs, rfl⟩
theorem keyLaw : Keyed Tryz.prog 3 := Go.Maps.int_keyed Tryz.underlying3
theorem zeroElem (w : World) : (zeroValue 40).run Tryz.prog w = .ok SV.zero.v w := by kernel_rfl
def inR (k : Int) : Prop := -9223372036854775808 ≤ k ∧ k ≤ 9223372036854775807
theorem key_ok {k : Int} (h : inR k) : keyOf Tryz.prog 3 (.int .i64 k) = some (.int .i64 k) := by
 refine Go.Maps.keyOf_int_mk Tryz.underlying3 ?_
 exact WalkArith.wf_i64 (by obtain ⟨h1, h2⟩ := h; omega)
structure SMap (w : World) (b n : Nat) (f : Int → Option SV) : Prop where
 own : ∃ D : DataW SV, w.ownsMap Tryz.prog 3 elemR b n D ∧ ∀ k, inR k → match f k with
  | none => ∀ z, D.atKey (.int .i64 k) z = z
  | some s => ∀ z, D.atKey (.int .i64 k) z = .held s
theorem SMap.made (w : World) : SMap (w.alloc (.map #[] 0)) w.heap.size 0 (fun _ => none) :=
 ⟨⟨.map [], World.ownsMap_made w _ _ _, fun _ _ _ => rfl⟩⟩
theorem SMap.lt {w : World} {b n : Nat} {f : Int → Option SV} (h : SMap w b n f) : b < w.heap.size := by obtain ⟨D, h1, _⟩ := h.own; exact h1.lt
theorem SMap.mono {w : World} {b n m : Nat} {f : Int → Option SV} (h : SMap w b n f) (hm : n ≤ m) : SMap w b m f := by obtain ⟨D, h1, h2⟩ := h.own; exact ⟨⟨D, h1.mono hm, h2⟩⟩
theorem SMap.kept {w w' : World} {b n : Nat} {f : Int → Option SV} {row : Option Nat} (h : SMap w b n f) (hg : w.grownBy w' row) (hne : some b ≠ row) : SMap w' b n f := by obtain ⟨D, h1, h2⟩ := h.own; exact ⟨⟨D, h1.kept hg hne, h2⟩⟩
theorem SMap.keep {w w' : World} {b n : Nat} {f : Int → Option SV} (h : SMap w b n f) (hb : w'.heap[b]? = w.heap[b]?) : SMap w' b n f := by
 obtain ⟨D, ⟨es, clock, h1, h3⟩, h2⟩ := h.own
 exact ⟨⟨D, ⟨es, clock, hb.trans h1, h3⟩, h2⟩⟩
theorem SMap.below {w w' : World} {b n : Nat} {f : Int → Option SV} (h : SMap w b n f) (hb : Below w.heap.size w w') : SMap w' b n f := h.keep (hb.block b h.lt)
theorem SMap.drew {w : World} {b n : Nat} {f : Int → Option SV} (h : SMap w b n f) : SMap w.drew b n f := h.keep rfl
theorem SMap.alloc {w : World} {b n : Nat} {f : Int → Option SV} (h : SMap w b n f) (o : Obj) : SMap (w.alloc o) b n f := h.below (below_alloc _ _)
theorem lit_ne {x k : Int} (h : x ≠ k) : (Lit.int .i64 x) ≠ .int .i64 k := fun e => h (by simpa using e)
theorem key_lit (k : Int) (h : inR k) : WideAt.IsKeyLit (.int .i64 k) := keyLaw.key (key_ok h)
theorem SMap.store {w : World} {b n : Nat} {f : Int → Option SV} (h : SMap w b n f) (hn : n < maxLen) (k : Int) (hk : inR k) (s : SV) :
 ∃ w', (Instr.mapUpdate 211 (.map (some b)) (.int .i64 k) s.v).run Tryz.prog w = .ok () w' ∧ SMap w' b (n + 1) (fun x => if x = k then some s else f x) ∧ w.mapTurned w' b := by
 obtain ⟨D, h1, h2⟩ := h.own
 obtain ⟨w', hr, ho, ht⟩ := h1.store keyLaw Tryz.underlying211 hn (key_ok hk) (elemR_v s)
 refine ⟨w', hr, ⟨⟨_, ho, fun x hx => ?_⟩⟩, ht⟩
 have hm := h1.isMap
 by_cases e : x = k
 · subst e
   simp only [if_true]
   exact fun z => Maps.atKey_put_same hm (key_lit x hk) _ z
 · rw [if_neg e]
   have := h2 x hx
   cases hf : f x with
   | none => rw [hf] at this; exact fun z => (Maps.atKey_put_other (lit_ne e) _ z).trans (this z)
   | some s' => rw [hf] at this; exact fun z => (Maps.atKey_put_other (lit_ne e) _ z).trans (this z)
theorem SMap.look {w : World} {b n : Nat} {f : Int → Option SV} (h : SMap w b n f) (k : Int) (hk : inR k) :
 (Instr.lookup 211 (.map (some b)) (.int .i64 k) false).run Tryz.prog w = .ok ((f k).getD SV.zero).v w := by
 obtain ⟨D, h1, h2⟩ := h.own
 obtain ⟨v, ps, hr, hv⟩ := h1.lookup keyLaw Tryz.underlying211 (zeroElem w) (elemR_v SV.zero) (key_ok hk)
 rw [hr]
 obtain ⟨s, rfl, e⟩ := elemR_inv hv
 have hx := h2 k hk
 simp only [Prod.mk.injEq] at e
 cases hf : f k with
 | none =>
   rw [hf] at hx
   rw [hx] at e
   have : SV.zero = s := by simpa using e.1
   rw [← this]
   rfl
 | some s' =>
   rw [hf] at hx
   rw [hx] at e
   have : s' = s := by simpa using e.1
   rw [this]
   rfl
theorem SMap.look_ok {w : World} {b n : Nat} {f : Int → Option SV} (h : SMap w b n f) (k : Int) (hk : inR k) :
 (Instr.lookup 211 (.map (some b)) (.int .i64 k) true).run Tryz.prog w = .ok (.tuple #[((f k).getD SV.zero).v, .bool (f k).isSome]) w := by
 obtain ⟨D, h1, h2⟩ := h.own
 obtain ⟨v, ps, hr, hv⟩ := h1.look_ok keyLaw Tryz.underlying211 (zeroElem w) (elemR_v SV.zero) (key_ok hk)
 rw [hr]
 obtain ⟨s, rfl, e⟩ := elemR_inv hv
 have hx := h2 k hk
 simp only [Prod.mk.injEq] at e
 cases hf : f k with
 | none =>
   rw [hf] at hx
   rw [hx] at e
   have : SV.zero = s := by simpa using e.1
   rw [← this, Maps.has_false_of_atKey hx]
   rfl
 | some s' =>
   rw [hf] at hx
   rw [hx] at e
   have : s' = s := by simpa using e.1
   rw [this, Maps.has_true_of_atKey hx]
   rfl
theorem SMap.drop {w : World} {b n : Nat} {f : Int → Option SV} (h : SMap w b n f) (k : Int) (hk : inR k) (ty : TypeId) :
 ∃ w', (Builtin.delete_ #[211, 3] ty #[.map (some b), .int .i64 k]).run Tryz.prog w = .ok (.tuple #[]) w' ∧ SMap w' b n (fun x => if x = k then none else f x) ∧ w.mapTurned w' b := by
 obtain ⟨D, h1, h2⟩ := h.own
 obtain ⟨w', hr, ho, ht⟩ := h1.drop keyLaw Tryz.underlying211 (key_ok hk) ty
 refine ⟨w', hr, ⟨⟨_, ho, fun x hx => ?_⟩⟩, ht⟩
 by_cases e : x = k
 · subst e
   simp only [if_true]
   exact fun z => Maps.atKey_del_same z
 · rw [if_neg e]
   have := h2 x hx
   cases hf : f x with
   | none => rw [hf] at this; exact fun z => (Maps.atKey_del_other (lit_ne e) z).trans (this z)
   | some s' => rw [hf] at this; exact fun z => (Maps.atKey_del_other (lit_ne e) z).trans (this z)
theorem SMap.clear {w : World} {b n : Nat} {f : Int → Option SV} (h : SMap w b n f) (ty : TypeId) :
 ∃ w', (Builtin.clear_ #[211] ty #[.map (some b)]).run Tryz.prog w = .ok (.tuple #[]) w' ∧ SMap w' b n (fun _ => none) ∧ w.mapTurned w' b := by
 obtain ⟨D, ⟨es, clock, hb, F, hs, hD⟩, h2⟩ := h.own
 refine ⟨setBlock w b (.map #[] clock), ?_, ⟨⟨.map [], ⟨#[], clock, heap_setBlock_same hb _, ⟨by simp, ?_, by simp⟩, by simp, rfl⟩, fun _ _ _ => rfl⟩⟩, ⟨es, clock, #[], clock, hb, rfl⟩⟩
 · simp [Builtin.clear_, run_underlying Tryz.underlying211, MapKept.run_getObj_map hb, MapKept.run_setObj_map _ hb, Result.andThen, setBlock]
 · exact stamped_empty clock
end Go.Proofs.YtieklnlbljejdaaGreatDoor

namespace Go.Proofs.YtieklnlbljejdaaGreatDoor
open Go.RowKit St
open Go.ChangeShapes Go.WideShapes Go.ChangeAt
set_option maxRecDepth 100000 in
set_option maxHeartbeats 4000000 in
theorem check_all (own seq : Int) (a : Option Addr) (n cap : Nat) (os : List Opt) (w : World) (hn : n ≤ maxLen) (ho : OptR w a n os) :
 Calls Tryz.prog 117 #[.agg #[.int .i64 own, .int .i64 seq, .slice a n cap]] w fun e w' => e = .returned (errV (stF own seq os)) ∧ Below w.heap.size w w' := by
 by_cases h6 : n ≤ 6
 · exact scheck_any own seq a n cap os w (by omega) ho
 unfold maxLen at hn
 have hw1 := below_alloc w (.cells #[.int .i64 own, .int .i64 seq, .slice a n cap] 40)
 have H1 : Hid (errV 1 = .iface 128 (.int .i64 1)) := rfl
 have H2 : Hid (errV 2 = .iface 128 (.int .i64 2)) := rfl
 have hl := ho.1
 have hr := isRouter_any own (w.alloc (.cells #[.int .i64 own, .int .i64 seq, .slice a n cap] 40))
 have one : (own < 1 ∨ 6 < own ∨ seq < 1 ∨ 1000000 < seq) → Hid (stF own seq os = 1) := fun hh => by show _ = _; rw [stF, if_pos hh]
 by_cases r1 : own < 1 ∨ 6 < own
 · have HZ := one (by omega)
   rw [isR_false own r1] at hr
   clear one
   go_enter Tryz.func117, Tryz.ntmps117
   go_wp2_with (fail)
   refine hr.mono ?_
   rintro e w1 ⟨rfl, rfl⟩
   go_wp2_with (fail)
   rw [HZ.out, H1.out]
   go_ret
   exact ⟨rfl, hw1⟩
 rw [isR_true own (by omega) (by omega)] at hr
 by_cases r2 : seq < 1
 · have HZ := one (by omega)
   clear one
   go_enter Tryz.func117, Tryz.ntmps117
   go_wp2_with (fail)
   refine hr.mono ?_
   rintro e w1 ⟨rfl, rfl⟩
   go_wp2_with (fail)
   rw [HZ.out, H1.out]
   go_ret
   exact ⟨rfl, hw1⟩
 by_cases r3 : 1000000 < seq
 · have HZ := one (by omega)
   clear one
   go_enter Tryz.func117, Tryz.ntmps117
   go_wp2_with (fail)
   refine hr.mono ?_
   rintro e w1 ⟨rfl, rfl⟩
   go_wp2_with (fail)
   rw [HZ.out, H1.out]
   go_ret
   exact ⟨rfl, hw1⟩
 clear one
 have r4 : (6 : Int) < (n : Int) := by omega
 have HZ : Hid (stF own seq os = 2) := by show _ = _; rw [stF, if_neg (by omega), if_pos (by omega)]
 go_enter Tryz.func117, Tryz.ntmps117
 go_wp2_with (fail)
 refine hr.mono ?_
 rintro e w1 ⟨rfl, rfl⟩
 go_wp2_with (fail)
 rw [HZ.out, H2.out]
 go_ret
 exact ⟨rfl, hw1⟩
end Go.Proofs.YtieklnlbljejdaaGreatDoor

namespace Go.Proofs.YtieklnlbljejdaaGreatDoor
open Go.RowKit St
structure FM where
 bm : Nat
 g : Nat
 cap : Nat
 bs : List Nat
 /-- blocks of others: no edges of the base lie there. -/
 no : Nat → Prop := fun _ => False
def FM.sl (m : FM) : Value := .slice (some ⟨m.g, 0, none⟩) m.bs.length m.cap
def FM.row (m : FM) : List Value := m.bs.map fun b => Value.map (some b)
structure FB (w : World) (B : Nat) (m : FM) (n : Nat) (kn : Int → Option SV) (ow : Nat → Int → Option SV) : Prop where
 blk : w.heap[B]? = some (.cells #[.map (some m.bm), m.sl] 214 (0, 0))
 row : Row w 1 m.sl m.bs.length m.row
 km : SMap w m.bm n kn
 om : ∀ i b, m.bs[i]? = some b → SMap w b n (ow i)
 few : m.bs.length ≤ 3
 nB : m.bm ≠ B ∧ m.g ≠ B ∧ m.bm ≠ m.g ∧ (∀ b ∈ m.bs, b ≠ B ∧ b ≠ m.g ∧ b ≠ m.bm)
 nd : m.bs.Nodup
theorem FB.lt {w : World} {B : Nat} {m : FM} {n : Nat} {kn : Int → Option SV} {ow : Nat → Int → Option SV} (h : FB w B m n kn ow) : B < w.heap.size := (Array.getElem?_eq_some_iff.1 h.blk).1
theorem FB.c0 {w : World} {B : Nat} {m : FM} {n : Nat} {kn : Int → Option SV} {ow : Nat → Int → Option SV} (h : FB w B m n kn ow) : w.cell? ⟨B, 0, none⟩ = some (.map (some m.bm)) := cell_of_row w B 0 _ _ (0, 0) h.blk
theorem FB.c1 {w : World} {B : Nat} {m : FM} {n : Nat} {kn : Int → Option SV} {ow : Nat → Int → Option SV} (h : FB w B m n kn ow) : w.cell? ⟨B, 1, none⟩ = some m.sl := cell_of_row w B 1 _ _ (0, 0) h.blk
theorem FB.below {w w' : World} {B : Nat} {m : FM} {n : Nat} {kn : Int → Option SV} {ow : Nat → Int → Option SV} (h : FB w B m n kn ow) (hb : Below w.heap.size w w') : FB w' B m n kn ow :=
 ⟨(hb.block B h.lt).trans h.blk, h.row.below hb, h.km.below hb, fun i b e => (h.om i b e).below hb, h.few, h.nB, h.nd⟩
theorem FB.port {w : World} {B : Nat} {m : FM} {n : Nat} {kn : Int → Option SV} {ow : Nat → Int → Option SV} (h : FB w B m n kn ow) (i : Nat) (b : Nat) (e : m.bs[i]? = some b) : w.cell? ⟨m.g, i, none⟩ = some (.map (some b)) := by
 refine Row.cell h.row i _ ?_
 unfold FM.row
 rw [List.getElem?_map, e]
 rfl
set_option maxRecDepth 100000 in
theorem has_any (B : Nat) (m : FM) (n : Nat) (kn : Int → Option SV) (ow : Nat → Int → Option SV) (port : Int) (w : World) (h : FB w B m n kn ow) :
 Calls Tryz.prog 176 #[.pointer (some ⟨B, 0, none⟩), .int .i64 port] w fun e w' => e = .returned (.bool (decide (0 ≤ port) && decide (port < (m.bs.length : Int)))) ∧ w = w' := by
 have hl := h.lt
 have c1 : w.cell? ⟨B, 1, none⟩ = some (.slice (some ⟨m.g, 0, none⟩) m.bs.length m.cap) := h.c1
 have hf := h.few
 by_cases h0 : 0 ≤ port
 · by_cases h1 : port < (m.bs.length : Int)
   · have hv : (decide (0 ≤ port) && decide (port < (m.bs.length : Int))) = true := by simp [h0, h1]
     rw [hv]
     clear hv h
     go_enter Tryz.func176, Tryz.ntmps176
     go_wp2
     go_ret
     exact ⟨by first | rfl | (simp; omega), rfl⟩
   · have hv : (decide (0 ≤ port) && decide (port < (m.bs.length : Int))) = false := by simp [h1]
     rw [hv]
     clear hv h
     go_enter Tryz.func176, Tryz.ntmps176
     go_wp2
     go_ret
     exact ⟨by first | rfl | (simp; omega), rfl⟩
 · have hv : (decide (0 ≤ port) && decide (port < (m.bs.length : Int))) = false := by simp [h0]
   rw [hv]
   clear hv h
   go_enter Tryz.func176, Tryz.ntmps176
   go_wp2
   go_ret
   exact ⟨by first | rfl | (simp; omega), rfl⟩
def chkF (ports : Nat) (port own seq : Int) (es : List Opt) : Nat := if 0 ≤ port ∧ port < (ports : Int) then stF own seq es else 1
set_option maxRecDepth 100000 in
theorem fcheck_any (B : Nat) (m : FM) (k : Nat) (kn : Int → Option SV) (ow : Nat → Int → Option SV) (port own seq : Int) (a : Option Addr) (n cap : Nat) (es : List Opt) (w : World) (h : FB w B m k kn ow) (hn : n ≤ maxLen) (ho : OptR w a n es) :
 Calls Tryz.prog 216 #[.pointer (some ⟨B, 0, none⟩), .int .i64 port, .agg #[.int .i64 own, .int .i64 seq, .slice a n cap]] w fun e w' => e = .returned (errV (chkF m.bs.length port own seq es)) ∧ Below w.heap.size w w' := by
 have hk := below_alloc w (.cells #[.int .i64 own, .int .i64 seq, .slice a n cap] 40)
 have hh := has_any B m k kn ow port _ (h.below hk)
 have hc := check_all own seq a n cap es _ hn (ho.below hk)
 have E1 : Hid (errV 1 = .iface 128 (.int .i64 1)) := rfl
 by_cases hp : 0 ≤ port ∧ port < (m.bs.length : Int)
 · have hv : (decide (0 ≤ port) && decide (port < (m.bs.length : Int))) = true := by simp [hp.1, hp.2]
   have hf : chkF m.bs.length port own seq es = stF own seq es := by rw [chkF, if_pos hp]
   rw [hv] at hh
   rw [hf]
   clear hv hf h
   go_enter Tryz.func216, Tryz.ntmps216
   go_wp2_with (fail)
   refine hh.mono ?_
   rintro e w1 ⟨rfl, rfl⟩
   go_wp2_with (fail)
   refine hc.mono ?_
   rintro e w2 ⟨rfl, k2⟩
   go_wp2_with (fail)
   go_ret
   exact ⟨rfl, below_chain hk k2⟩
 · have hv : (decide (0 ≤ port) && decide (port < (m.bs.length : Int))) = false := by
    simp only [Bool.and_eq_false_iff, decide_eq_false_iff_not]
    omega
   have hf : Hid (chkF m.bs.length port own seq es = 1) := by show _ = _; rw [chkF, if_neg hp]
   rw [hv] at hh
   clear hv h
   go_enter Tryz.func216, Tryz.ntmps216
   go_wp2_with (fail)
   refine hh.mono ?_
   rintro e w1 ⟨rfl, rfl⟩
   go_wp2_with (fail)
   rw [hf.out, E1.out]
   go_ret
   exact ⟨rfl, hk⟩
end Go.Proofs.YtieklnlbljejdaaGreatDoor

namespace Go.Proofs.YtieklnlbljejdaaGreatDoor
open Go.RowKit St
open Go.ChangeShapes Go.WideShapes Go.ChangeAt
structure StsR (w : World) (a : Option Addr) (n : Nat) (S : Nat → SV) (E : Nat → List Opt) : Prop where
 row : n = 0 ∨ ∃ b off, a = some ⟨b, off, none⟩ ∧ ∀ j, j < n → w.cell? ⟨b, off + j * 3, none⟩ = some (.int .i64 (S j).own) ∧ w.cell? ⟨b, off + j * 3 + 1, none⟩ = some (.int .i64 (S j).seq) ∧ w.cell? ⟨b, off + j * 3 + 2, none⟩ = some (.slice (S j).a (S j).n (S j).cap)
 opt : ∀ j, j < n → OptR w (S j).a (S j).n (E j) ∧ NilOk (S j).a (S j).cap ∧ (S j).n ≤ maxLen
theorem StsR.below {w w' : World} {a : Option Addr} {n : Nat} {S : Nat → SV} {E : Nat → List Opt} (h : StsR w a n S E) (hb : Below w.heap.size w w') : StsR w' a n S E := by
 refine ⟨?_, fun j hj => ⟨(h.opt j hj).1.below hb, (h.opt j hj).2⟩⟩
 rcases h.row with h2 | ⟨b, off, rfl, h2⟩
 · exact .inl h2
 · refine .inr ⟨b, off, rfl, fun j hj => ?_⟩
   obtain ⟨c1, c2, c3⟩ := h2 j hj
   have l := World.block_lt_of_cell? w _ c1
   exact ⟨(hb.cell (p := ⟨b, off + j * 3, none⟩) l).trans c1, (hb.cell (p := ⟨b, off + j * 3 + 1, none⟩) l).trans c2, (hb.cell (p := ⟨b, off + j * 3 + 2, none⟩) l).trans c3⟩
theorem open_edges {H : Type} {enc : TypeId × Value → H} {W : World} {m : Nat} {v : Value} {y : DataW H × List MemPlace}
 (h2 : DataW.trod enc Tryz.prog W 0 (fun _ => true) true m 38 [v] = some y) :
 ∃ (a : Option Addr) (n cap : Nat) (os : List Opt), v = .slice a n cap ∧ OptR W a n os ∧ NilOk a cap ∧ n ≤ maxLen := by
 rcases Go.Deep.open_slice_pairs Tryz.underlying38 Tryz.underlying123 (by kernel_rfl) rfl rfl (by kernel_rfl) (by kernel_rfl) h2 with ⟨hcs, _⟩ | ⟨a, len, cap, m', n', V0, V1, D0, D1, P0, P1, hcs, _, hl, hm, hmm, _, hx⟩
 · simp at hcs
   subst hcs
   exact ⟨none, 0, 0, [], rfl, ⟨rfl, .inl rfl⟩, fun _ => rfl, by decide⟩
 · simp at hcs
   subst hcs
   simp at hmm
   have each : ∀ i, i < len → W.cell? (a.add (i * 2)) = some (.int .i64 (intOf (V0 i))) ∧ W.cell? (a.add (i * 2 + 1)) = some (.int .i64 (intOf (V1 i))) := by
    intro i hi
    obtain ⟨q1, q2, q3, q4⟩ := hx i (by omega)
    obtain ⟨k, f0, _, _⟩ := DataW.trod_int Tryz.underlying3 q3
    obtain ⟨n, f1, _, _⟩ := DataW.trod_int Tryz.underlying3 q4
    simp at f0 f1
    exact ⟨by rw [q1, f0]; rfl, by rw [q2, f1]; rfl⟩
   refine ⟨some a, len, cap, (List.range len).map (fun i => (intOf (V0 i), intOf (V1 i))), rfl, ⟨by simp, ?_⟩, fun h => by simp at h, by omega⟩
   by_cases h0 : len = 0
   · exact .inl h0
   · obtain ⟨b, off, spot⟩ := a
     have hc := (each 0 (by omega)).1
     have hspot : spot = none := by simpa [Addr.add] using World.cell?_spot hc
     subst hspot
     refine .inr ⟨b, off, rfl, fun j hj => ?_⟩
     have hj' : j < len := by simpa using hj
     have hq := each j hj'
     rw [add_plain', add_plain'] at hq
     simpa [Nat.add_assoc] using hq
end Go.Proofs.YtieklnlbljejdaaGreatDoor
