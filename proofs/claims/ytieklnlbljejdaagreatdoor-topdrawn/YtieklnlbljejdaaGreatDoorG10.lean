/-
  FloodLearn
-/
import Derived.Test.YtieklnlbljejdaaGreatDoorG09
namespace Go.Proofs.YtieklnlbljejdaaGreatDoor
open Go.RowKit St
set_option maxRecDepth 100000 in
set_option maxHeartbeats 2000000 in
theorem newer_none (B : Nat) (m : FM) (k : Nat) (kn : Int → Option SV) (ow : Nat → Int → Option SV) (own seq : Int) (a : Option Addr) (n cap : Nat) (w : World) (h : FB w B m k kn ow) (hr : inR own) (hk : kn own = none) :
 Calls Tryz.prog 217 #[.pointer (some ⟨B, 0, none⟩), .agg #[.int .i64 own, .int .i64 seq, .slice a n cap]] w fun e w' => e = .returned (.int .i64 1) ∧ Below w.heap.size w w' := by
 have hz := zeroState
 have hb := below_alloc w (.cells #[.int .i64 own, .int .i64 seq, .slice a n cap] 40)
 have h1 := h.below hb
 obtain ⟨W1, hW1⟩ : ∃ W1, w.alloc (.cells #[.int .i64 own, .int .i64 seq, .slice a n cap] 40) = W1 := ⟨_, rfl⟩
 have x0 : W1.cell? ⟨w.heap.size, 0, none⟩ = some (.int .i64 own) := by rw [← hW1]; exact World.cell?_alloc_mark w #[.int .i64 own, .int .i64 seq, .slice a n cap] 40 (0, 0) 0
 rw [hW1] at hb h1
 have HW : Hid _ := hW1
 clear hW1
 have hlk : (Instr.lookup 211 (.map (some m.bm)) (.int .i64 own) true).run Tryz.prog W1.drew = .ok (.tuple #[.agg #[.int .i64 0, .int .i64 0, .slice none 0 0], .bool false]) W1.drew := by
  have := h1.km.drew.look_ok own hr
  rw [hk] at this
  exact this
 have hlk2 : (Instr.lookup 211 (.map (some m.bm)) (.int .i64 own) true).run Tryz.prog (W1.alloc (.cells #[.int .i64 0, .int .i64 0, .slice none 0 0] 40)).drew = .ok (.tuple #[.agg #[.int .i64 0, .int .i64 0, .slice none 0 0], .bool false]) (W1.alloc (.cells #[.int .i64 0, .int .i64 0, .slice none 0 0] 40)).drew := by
  have := (h1.km.alloc (.cells #[.int .i64 0, .int .i64 0, .slice none 0 0] 40)).drew.look_ok own hr
  rw [hk] at this
  exact this
 have c0 := h1.c0
 have hl := h1.lt
 have hx : w.heap.size < W1.heap.size := World.block_lt_of_cell? W1 _ x0
 clear h h1 hk
 go_enter Tryz.func217, Tryz.ntmps217
 go_wp2_with (fail)
 rw [HW.out]
 go_region
 all_goals
  go_wp2_with (fail)
  go_ret
  exact ⟨rfl, below_drewN (hb.alloc hb.size _) 1⟩
set_option maxRecDepth 100000 in
set_option maxHeartbeats 2000000 in
theorem newer_some (B : Nat) (m : FM) (k : Nat) (kn : Int → Option SV) (ow : Nat → Int → Option SV) (own seq : Int) (a : Option Addr) (n cap : Nat) (es : List Opt) (t : SV) (fs : List Opt) (w : World) (h : FB w B m k kn ow) (hr : inR own) (hk : kn own = some t) (ho : OptR w a n es) (hn : n ≤ 1000000) (ht : OptR w t.a t.n fs) :
 Calls Tryz.prog 217 #[.pointer (some ⟨B, 0, none⟩), .agg #[.int .i64 own, .int .i64 seq, .slice a n cap]] w fun e w' => e = .returned (.int .i64 (newS seq es t.seq fs)) ∧ Below w.heap.size w w' := by
 obtain ⟨tw, ts, ta, tn, tc⟩ := t
 simp only at ht
 have hz := zeroState
 have hb := below_alloc w (.cells #[.int .i64 own, .int .i64 seq, .slice a n cap] 40)
 have h1 := h.below hb
 obtain ⟨W1, hW1⟩ : ∃ W1, w.alloc (.cells #[.int .i64 own, .int .i64 seq, .slice a n cap] 40) = W1 := ⟨_, rfl⟩
 have hbl : W1.heap[w.heap.size]? = some (.cells #[.int .i64 own, .int .i64 seq, .slice a n cap] 40 (0, 0)) := by rw [← hW1]; exact heap_alloc_new w _
 rw [hW1] at hb h1
 have HW : Hid _ := hW1
 clear hW1
 have x0 : W1.cell? ⟨w.heap.size, 0, none⟩ = some (.int .i64 own) := cell_of_row W1 _ 0 _ _ (0, 0) hbl
 have hlk : (Instr.lookup 211 (.map (some m.bm)) (.int .i64 own) true).run Tryz.prog W1.drew = .ok (.tuple #[.agg #[.int .i64 tw, .int .i64 ts, .slice ta tn tc], .bool true]) W1.drew := by
  have := h1.km.drew.look_ok own hr
  rw [hk] at this
  exact this
 have hlk2 : (Instr.lookup 211 (.map (some m.bm)) (.int .i64 own) true).run Tryz.prog (W1.alloc (.cells #[.int .i64 0, .int .i64 0, .slice none 0 0] 40)).drew = .ok (.tuple #[.agg #[.int .i64 tw, .int .i64 ts, .slice ta tn tc], .bool true]) (W1.alloc (.cells #[.int .i64 0, .int .i64 0, .slice none 0 0] 40)).drew := by
  have := (h1.km.alloc (.cells #[.int .i64 0, .int .i64 0, .slice none 0 0] 40)).drew.look_ok own hr
  rw [hk] at this
  exact this
 have c0 := h1.c0
 have hl := h1.lt
 have hx : w.heap.size < W1.heap.size := World.block_lt_of_cell? W1 _ x0
 have hb2 : Below w.heap.size w ((W1.alloc (.cells #[.int .i64 tw, .int .i64 ts, .slice ta tn tc] 40)).drew) := below_drewN (hb.alloc hb.size _) 1
 have hnw := newer_any own seq tw ts a ta n tn cap tc es fs _ (ho.below hb2) (ht.below hb2) hn
 have x1 : W1.cell? ⟨w.heap.size, 1, none⟩ = some (.int .i64 seq) := cell_of_row W1 _ 1 _ _ (0, 0) hbl
 have x2 : W1.cell? ⟨w.heap.size, 2, none⟩ = some (.slice a n cap) := cell_of_row W1 _ 2 _ _ (0, 0) hbl
 clear h h1 hk ht ho hbl
 go_enter Tryz.func217, Tryz.ntmps217
 go_wp2_with (fail)
 rw [HW.out]
 go_region
 all_goals
  go_wp2_with (fail)
  refine hnw.mono ?_
  rintro e w2 ⟨rfl, k2⟩
  go_wp2_with (fail)
  go_ret
  exact ⟨rfl, below_chain hb2 k2⟩
structure KeptM (w w' : World) (m : FM) : Prop where
 os : w'.os = w.os
 tape : w'.tape = w.tape
 output : w'.output = w.output
 size : w.heap.size ≤ w'.heap.size
 block : ∀ i, i < w.heap.size → i ≠ m.bm → i ∉ m.bs → w'.heap[i]? = w.heap[i]?
theorem KeptM.of_below {w w' : World} (m : FM) (h : Below w.heap.size w w') : KeptM w w' m := ⟨h.os, h.tape, h.output, h.size, fun i hi _ _ => h.block i hi⟩
theorem KeptM.trans {a b c : World} {m : FM} (h : KeptM a b m) (k : KeptM b c m) : KeptM a c m :=
 ⟨k.os.trans h.os, k.tape.trans h.tape, k.output.trans h.output, Nat.le_trans h.size k.size, fun i hi h1 h2 => (k.block i (Nat.lt_of_lt_of_le hi h.size) h1 h2).trans (h.block i hi h1 h2)⟩
theorem KeptM.of_turned {w w' : World} {m : FM} {b : Nat} (h : w.mapTurned w' b) (hb : b = m.bm ∨ b ∈ m.bs) : KeptM w w' m := by
 have g := h.grown
 refine ⟨g.os, g.tape, g.output, g.size, fun i hi h1 h2 => g.block i hi (fun e => ?_)⟩
 have : i = b := by simpa using e
 subst this
 rcases hb with hb | hb
 · exact h1 hb
 · exact h2 hb
theorem KeptM.below {w a b : World} {m : FM} (h : Below w.heap.size w a) (k : KeptM a b m) (h1 : w.heap.size ≤ m.bm) (h2 : ∀ x ∈ m.bs, w.heap.size ≤ x) : Below w.heap.size w b :=
 ⟨k.os.trans h.os, k.tape.trans h.tape, k.output.trans h.output, Nat.le_trans h.size k.size, fun i hi => by
  rw [k.block i (Nat.lt_of_lt_of_le hi h.size) (by omega) (fun e => by have := h2 i e; omega)]
  exact h.block i hi⟩
theorem turned_other {w w' : World} {b x : Nat} (h : w.mapTurned w' b) (hx : x < w.heap.size) (hne : x ≠ b) : w'.heap[x]? = w.heap[x]? := h.grown.block x hx (fun e => hne (by simpa using e))
theorem FB.setK {w w' : World} {B : Nat} {m : FM} {n n' : Nat} {kn kn' : Int → Option SV} {ow : Nat → Int → Option SV} (h : FB w B m n kn ow) (ht : w.mapTurned w' m.bm) (hk : SMap w' m.bm n' kn') (hn : n ≤ n') : FB w' B m n' kn' ow := by
 refine ⟨(turned_other ht h.lt (fun e => h.nB.1 e.symm)).trans h.blk, h.row.keep ht.grown.size (fun k hk2 => ?_), hk, fun i b e => ?_, h.few, h.nB, h.nd⟩
 · have hg : m.g = k := by simpa [FM.sl, Value.ownBlock] using hk2
   subst hg
   exact turned_other ht (h.row.lt _ hk2) (fun e => h.nB.2.2.1 e.symm)
 · have hb := h.nB.2.2.2 b (List.mem_of_getElem? e)
   exact ((h.om i b e).keep (turned_other ht (h.om i b e).lt hb.2.2)).mono hn
theorem FB.setO {w w' : World} {B : Nat} {m : FM} {n n' : Nat} {kn : Int → Option SV} {ow : Nat → Int → Option SV} {f : Int → Option SV} {i b : Nat} (h : FB w B m n kn ow) (hi : m.bs[i]? = some b) (ht : w.mapTurned w' b) (hk : SMap w' b n' f) (hn : n ≤ n') : FB w' B m n' kn (fun j => if j = i then f else ow j) := by
 have hb := h.nB.2.2.2 b (List.mem_of_getElem? hi)
 refine ⟨(turned_other ht h.lt (fun e => hb.1 e.symm)).trans h.blk, h.row.keep ht.grown.size (fun k hk2 => ?_), (h.km.keep (turned_other ht h.km.lt (fun e => hb.2.2 e.symm))).mono hn, fun j c e => ?_, h.few, h.nB, h.nd⟩
 · have hg : m.g = k := by simpa [FM.sl, Value.ownBlock] using hk2
   subst hg
   exact turned_other ht (h.row.lt _ hk2) (fun e => hb.2.1 e.symm)
 · by_cases hj : j = i
   · subst hj
     rw [hi] at e
     obtain rfl := Option.some.inj e
     simp only [if_true]
     exact hk
   · rw [if_neg hj]
     have hne : c ≠ b := fun e1 => by
      subst e1
      exact hj ((List.getElem?_inj (List.getElem?_eq_some_iff.1 e).1 h.nd).1 (e.trans hi.symm))
     exact ((h.om j c e).keep (turned_other ht (h.om j c e).lt hne)).mono hn
def upd (f : Int → Option SV) (k : Int) (s : SV) : Int → Option SV := fun x => if x = k then some s else f x
structure Learnt (w w' : World) (B : Nat) (m : FM) (n : Nat) (kn : Int → Option SV) (ow : Nat → Int → Option SV) (own seq : Int) (es : List Opt) (s : SV) : Prop where
 so : s.own = own
 ss : s.seq = seq
 sn : s.n = es.length
 so2 : OptR w' s.a s.n es
 nil : NilOk s.a s.cap
 new : ∀ j, Value.ownBlock (.slice s.a s.n s.cap) = some j → w.heap.size ≤ j ∧ j < w'.heap.size
 fb : FB w' B m (n + 1 + m.bs.length) (upd kn own s) (fun i => if i < m.bs.length then upd (ow i) own s else ow i)
 kept : KeptM w w' m
theorem OptR.keptM {w w' : World} {a : Option Addr} {n cap : Nat} {os : List Opt} {m : FM} (h : OptR w a n os) (hk : KeptM w w' m) (hf : ∀ j, Value.ownBlock (.slice a n cap) = some j → j ≠ m.bm ∧ j ∉ m.bs) : OptR w' a n os := by
 refine ⟨h.1, ?_⟩
 rcases h.2 with h2 | ⟨b, off, rfl, h2⟩
 · exact .inl h2
 · refine .inr ⟨b, off, rfl, fun j hj => ?_⟩
   obtain ⟨c1, c2⟩ := h2 j hj
   obtain ⟨f1, f2⟩ := hf b rfl
   have e := hk.block b (World.block_lt_of_cell? w _ c1) f1 f2
   exact ⟨(World.cell?_of_block (a := ⟨b, off + j * 2, none⟩) e).trans c1, (World.cell?_of_block (a := ⟨b, off + j * 2 + 1, none⟩) e).trans c2⟩
set_option maxRecDepth 100000 in
set_option maxHeartbeats 4000000 in
theorem learn_any (B : Nat) (m : FM) (k : Nat) (kn : Int → Option SV) (ow : Nat → Int → Option SV) (own seq : Int) (a : Option Addr) (n cap : Nat) (es : List Opt) (w : World) (h : FB w B m k kn ow) (hr : inR own) (ho : OptR w a n es) (hnil : NilOk a cap) (hn : n ≤ 1000000) (hk : k ≤ 1000000) :
 Calls Tryz.prog 118 #[.pointer (some ⟨B, 0, none⟩), .agg #[.int .i64 own, .int .i64 seq, .slice a n cap]] w fun e w' => e = .returned (.tuple #[]) ∧ ∃ s, Learnt w w' B m k kn ow own seq es s := by
 have hb := below_alloc w (.cells #[.int .i64 own, .int .i64 seq, .slice a n cap] 40)
 have h1 := h.below hb
 obtain ⟨W1, hW1⟩ : ∃ W1, w.alloc (.cells #[.int .i64 own, .int .i64 seq, .slice a n cap] 40) = W1 := ⟨_, rfl⟩
 have hbl : W1.heap[w.heap.size]? = some (.cells #[.int .i64 own, .int .i64 seq, .slice a n cap] 40 (0, 0)) := by rw [← hW1]; exact heap_alloc_new w _
 rw [hW1] at hb h1
 have HW : Hid _ := hW1
 clear hW1
 have hcp := copy_any own seq a n cap es W1 hn hnil (ho.below hb)
 go_enter Tryz.func118, Tryz.ntmps118
 go_wp2_with (fail)
 rw [HW.out]
 refine hcp.mono ?_
 rintro e w2 ⟨⟨va, vc, rfl, vo, vn, vl, vnew⟩, k2⟩
 clear hcp
 have hX2 := (k2.block _ (Array.getElem?_eq_some_iff.1 hbl).1).trans hbl
 have x0 : w2.cell? ⟨w.heap.size, 0, none⟩ = some (.int .i64 own) := cell_of_row w2 _ 0 _ _ (0, 0) hX2
 have x1 : w2.cell? ⟨w.heap.size, 1, none⟩ = some (.int .i64 seq) := cell_of_row w2 _ 1 _ _ (0, 0) hX2
 have x2 : w2.cell? ⟨w.heap.size, 2, none⟩ = some (.slice a n cap) := cell_of_row w2 _ 2 _ _ (0, 0) hX2
 have fx := fun j => frozen_of_row w2 w.heap.size j _ _ hX2
 have xl : w.heap.size < w2.heap.size := World.block_lt_of_cell? w2 _ x0
 go_upto_region 2 with fail
 obtain ⟨W3, hW3⟩ : ∃ W3, ((w2.setCell ⟨w.heap.size, 0, none⟩ (.int .i64 own)).setCell ⟨w.heap.size, 1, none⟩ (.int .i64 seq)).setCell ⟨w.heap.size, 2, none⟩ (.slice va es.length vc) = W3 := ⟨_, rfl⟩
 have hk2 := below_chain hb k2
 have b3 : Below w.heap.size w W3 := by rw [← hW3]; exact ((hk2.setCell (Nat.le_refl _) _).setCell (Nat.le_refl _) _).setCell (Nat.le_refl _) _
 have hX3 : W3.heap[w.heap.size]? = some (.cells #[.int .i64 own, .int .i64 seq, .slice va es.length vc] 40 (0, 0)) := by
  rw [← hW3]
  have s1 := setRow_heap w2 w.heap.size #[.int .i64 own, .int .i64 seq, .slice a n cap] (#[.int .i64 own, .int .i64 seq, .slice a n cap].setIfInBounds 0 (.int .i64 own)) 40 (0, 0) hX2
  rw [← setCell_eq_setRow w2 w.heap.size 0 _ _ (0, 0) _ hX2] at s1
  have s2 := setRow_heap _ w.heap.size _ ((#[.int .i64 own, .int .i64 seq, .slice a n cap].setIfInBounds 0 (.int .i64 own)).setIfInBounds 1 (.int .i64 seq)) 40 (0, 0) s1
  rw [← setCell_eq_setRow _ w.heap.size 1 _ _ (0, 0) _ s1] at s2
  have s3 := setRow_heap _ w.heap.size _ (((#[.int .i64 own, .int .i64 seq, .slice a n cap].setIfInBounds 0 (.int .i64 own)).setIfInBounds 1 (.int .i64 seq)).setIfInBounds 2 (.slice va es.length vc)) 40 (0, 0) s2
  rw [← setCell_eq_setRow _ w.heap.size 2 _ _ (0, 0) _ s2] at s3
  exact s3
 have hW1s : W1.heap.size = w.heap.size + 1 := by have := HW.out; rw [← this]; simp
 have vo3 : OptR W3 va es.length es := by
  refine vo.kept (cap := vc) (fun j hj => ?_)
  have := (vnew j hj).1
  rw [← hW3, Below.heap_setCell _ _ _ _ (by show j ≠ w.heap.size; omega), Below.heap_setCell _ _ _ _ (by show j ≠ w.heap.size; omega), Below.heap_setCell _ _ _ _ (by show j ≠ w.heap.size; omega)]
 have hs3 : w2.heap.size = W3.heap.size := by rw [← hW3]; simp
 rw [hW3]
 have FB3 := h.below b3
 have b3d : Below w.heap.size w W3.drew := below_drewN b3 1
 have FB3d := h.below b3d
 obtain ⟨W4, hr4, S4, T4⟩ := FB3d.km.store (by unfold maxLen; omega) own hr ⟨own, seq, va, es.length, vc⟩
 have hr4' : (Instr.mapUpdate 211 (.map (some m.bm)) (.int .i64 own) (.agg #[.int .i64 own, .int .i64 seq, .slice va es.length vc])).run Tryz.prog W3.drew = .ok () W4 := hr4
 have FB4 := FB3d.setK T4 S4 (Nat.le_succ _)
 have c0 := FB3.c0
 have lB := FB3.lt
 have y0 : W3.cell? ⟨w.heap.size, 0, none⟩ = some (.int .i64 own) := cell_of_row W3 _ 0 _ _ (0, 0) hX3
 have y1 : W3.cell? ⟨w.heap.size, 1, none⟩ = some (.int .i64 seq) := cell_of_row W3 _ 1 _ _ (0, 0) hX3
 have y2 : W3.cell? ⟨w.heap.size, 2, none⟩ = some (.slice va es.length vc) := cell_of_row W3 _ 2 _ _ (0, 0) hX3
 have yl : w.heap.size < W3.heap.size := World.block_lt_of_cell? W3 _ y0
 clear x0 x1 x2 fx xl hW3 hr4 S4
 go_region
 have KM4 : KeptM W3.drew W4 m := KeptM.of_turned T4 (.inl rfl)
 have hbm : ∀ x, x = m.bm ∨ x ∈ m.bs → x < w.heap.size := by
  intro x hx
  rcases hx with rfl | hx
  · exact h.km.lt
  · obtain ⟨i, hi⟩ := List.getElem?_of_mem hx
    exact (h.om i x hi).lt
 have keepX : ∀ V : World, KeptM W3.drew V m → V.heap[w.heap.size]? = some (.cells #[.int .i64 own, .int .i64 seq, .slice va es.length vc] 40 (0, 0)) := fun V hV =>
  (hV.block w.heap.size yl (fun e => by have := hbm m.bm (.inl rfl); omega) (fun e => by have := hbm _ (.inr e); omega)).trans hX3
 obtain ⟨s, hs⟩ : ∃ s : SV, (⟨own, seq, va, es.length, vc⟩ : SV) = s := ⟨_, rfl⟩
 have FB4' : FB W4 B m (k + 1 + 0) (upd kn own s) (fun i => if i < 0 then upd (ow i) own s else ow i) := by
  rw [← hs]
  have e0 : (fun i => if i < 0 then upd (ow i) own ⟨own, seq, va, es.length, vc⟩ else ow i) = ow := by funext i; simp
  rw [e0]
  exact FB4
 have hfew := h.few
 have c1 : W4.cell? ⟨B, 1, none⟩ = some (.slice (some ⟨m.g, 0, none⟩) m.bs.length m.cap) := FB4.c1
 have lB4 := FB4.lt
 have HS : Hid _ := hs
 have HX : Hid _ := keepX
 have H3 : Hid (OptR W3 va es.length es ∧ Below w.heap.size w W3 ∧ w2.heap.size = W3.heap.size ∧ W1.heap.size = w.heap.size + 1) := ⟨vo3, b3, hs3, hW1s⟩
 have Hbm : Hid _ := hbm
 clear hs keepX c0 lB y0 y1 y2 yl FB3 FB3d FB4 hr4' T4 h1 hX2 hbl hX3 b3 b3d hb k2 hk2 hbm vo3 hs3 hW1s vo
 go_wp2_with (fail)
 go_loopw [20] (fun i wr => ∃ j : Nat, j ≤ m.bs.length ∧ i = .int .i64 j ∧ FB wr B m (k + 1 + j) (upd kn own s) (fun i => if i < j then upd (ow i) own s else ow i) ∧ KeptM W3.drew wr m) (fun i _ => m.bs.length - (intOf i).toNat)
 case atStart => exact ⟨0, Nat.zero_le _, rfl, FB4', KM4⟩
 case round =>
  clear FB4' KM4 c1 lB4
  obtain ⟨j, hj, rfl, hF, hM⟩ := hrel
  by_cases hlt : j < m.bs.length
  · have hlt' : (j : Int) < (m.bs.length : Int) := by omega
    have hX := HX.out wr hM
    have z0 : wr.cell? ⟨w.heap.size, 0, none⟩ = some (.int .i64 own) := cell_of_row wr _ 0 _ _ (0, 0) hX
    have z1 : wr.cell? ⟨w.heap.size, 1, none⟩ = some (.int .i64 seq) := cell_of_row wr _ 1 _ _ (0, 0) hX
    have z2 : wr.cell? ⟨w.heap.size, 2, none⟩ = some (.slice va es.length vc) := cell_of_row wr _ 2 _ _ (0, 0) hX
    have zl : w.heap.size < wr.heap.size := World.block_lt_of_cell? wr _ z0
    have hbj : m.bs[j]? = some m.bs[j] := List.getElem?_eq_getElem hlt
    have cp := hF.port j _ hbj
    have gl : m.g < wr.heap.size := World.block_lt_of_cell? wr _ cp
    obtain ⟨W5, hr5, S5, T5⟩ := (hF.om j _ hbj).store (by unfold maxLen; omega) own hr s
    have F5 := hF.setO hbj T5 S5 (Nat.le_succ _)
    have M5 : KeptM W3.drew W5 m := hM.trans (KeptM.of_turned T5 (.inr (List.getElem_mem _)))
    have F5' : FB W5 B m (k + 1 + (j + 1)) (upd kn own s) (fun i => if i < j + 1 then upd (ow i) own s else ow i) := by
     have e : (fun i => if i < j + 1 then upd (ow i) own s else ow i) = (fun i => if i = j then (fun x => if x = own then some s else (if j < j then upd (ow j) own s else ow j) x) else (if i < j then upd (ow i) own s else ow i)) := by
      funext i
      by_cases h1 : i = j
      · rw [h1, if_pos (Nat.lt_succ_self j), if_pos rfl, if_neg (Nat.lt_irrefl j)]
        rfl
      · by_cases h2 : i < j
        · rw [if_pos (by omega), if_neg h1, if_pos h2]
        · rw [if_neg (by omega), if_neg h1, if_neg h2]
     rw [e]
     exact F5
    have hr5' : (Instr.mapUpdate 211 (.map (some m.bs[j])) (.int .i64 own) (.agg #[.int .i64 own, .int .i64 seq, .slice va es.length vc])).run Tryz.prog wr = .ok () W5 := by
     have := hr5
     rw [← HS.out] at this
     exact this
    generalize m.bs[j] = bj at cp hr5'
    clear hr5 S5 T5 F5 hF hM hbj hX
    go_wp2_with (fail)
    go_roundw
    case rel => exact ⟨j + 1, by omega, by go_num, F5', M5⟩
    case measure => simp [intOf]; omega
  · have hjn : j = m.bs.length := by omega
    subst hjn
    have HF : Hid (∃ s, Learnt w wr B m k kn ow own seq es s) := by
     obtain ⟨q1, q2, q3, q4⟩ := H3.out
     have hfar : ∀ x, Value.ownBlock (.slice va es.length vc) = some x → x ≠ m.bm ∧ x ∉ m.bs := fun x hx => by
      have h1 := (vnew x hx).1
      exact ⟨fun e => by have := Hbm.out m.bm (.inl rfl); omega, fun e => by have := Hbm.out x (.inr e); omega⟩
     have o1 := (q1.drewN 1).keptM (cap := vc) hM hfar
     have hsz := hM.size
     have hsz' : W3.heap.size ≤ wr.heap.size := hsz
     refine ⟨s, ?_, ?_, ?_, ?_, ?_, ?_, hF, (KeptM.of_below m (below_drewN q2 1)).trans hM⟩
     · rw [← HS.out]
     · rw [← HS.out]
     · rw [← HS.out]
     · rw [← HS.out]; exact o1
     · rw [← HS.out]; exact vn
     · rw [← HS.out]
       intro x hx
       have := vnew x hx
       omega
    clear hF hM
    go_wp2_with (fail)
    first | go_end0 | refine bodyPost_ret (results_none rfl _ _ _) rfl ?_
    exact ⟨rfl, HF.out⟩
end Go.Proofs.YtieklnlbljejdaaGreatDoor
