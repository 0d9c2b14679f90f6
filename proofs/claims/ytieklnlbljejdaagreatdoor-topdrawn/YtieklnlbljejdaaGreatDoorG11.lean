/-
  FloodTake FloodDo
-/
import Derived.Test.YtieklnlbljejdaaGreatDoorG10
namespace Go.Proofs.YtieklnlbljejdaaGreatDoor
open Go.RowKit St
def del (f : Int → Option SV) (k : Int) : Int → Option SV := fun x => if x = k then none else f x
theorem FB.mlt {w : World} {B : Nat} {m : FM} {n : Nat} {kn : Int → Option SV} {ow : Nat → Int → Option SV} (h : FB w B m n kn ow) : ∀ x, x = m.bm ∨ x ∈ m.bs → x < w.heap.size := by
 intro x hx
 rcases hx with rfl | hx
 · exact h.km.lt
 · obtain ⟨i, hi⟩ := List.getElem?_of_mem hx
   exact (h.om i x hi).lt
theorem FB.mono {w : World} {B : Nat} {m : FM} {n n' : Nat} {kn : Int → Option SV} {ow : Nat → Int → Option SV} (h : FB w B m n kn ow) (hn : n ≤ n') : FB w B m n' kn ow := ⟨h.blk, h.row, h.km.mono hn, fun i b e => (h.om i b e).mono hn, h.few, h.nB, h.nd⟩
theorem box_kept {w W V : World} {m : FM} {B n : Nat} {kn : Int → Option SV} {ow : Nat → Int → Option SV} {C : Array Value} (h : FB w B m n kn ow) (hX : W.heap[w.heap.size]? = some (.cells C 40 (0, 0))) (hV : KeptM W V m) : V.heap[w.heap.size]? = some (.cells C 40 (0, 0)) :=
 (hV.block w.heap.size (Array.getElem?_eq_some_iff.1 hX).1 (fun e => by have := h.mlt m.bm (.inl rfl); omega) (fun e => by have := h.mlt _ (.inr e); omega)).trans hX
set_option maxRecDepth 100000 in
set_option maxHeartbeats 4000000 in
theorem take_zero (B : Nat) (m : FM) (k : Nat) (kn : Int → Option SV) (ow : Nat → Int → Option SV) (p : Nat) (own seq : Int) (a : Option Addr) (n cap : Nat) (es : List Opt) (w : World) (h : FB w B m k kn ow) (hr : inR own) (hp : p < m.bs.length) (ho : OptR w a n es) (hn : n ≤ maxLen) (hf : stF own seq es = 0)
 (hnw : ∀ W, Below w.heap.size w W → Calls Tryz.prog 217 #[.pointer (some ⟨B, 0, none⟩), .agg #[.int .i64 own, .int .i64 seq, .slice a n cap]] W fun e w' => e = .returned (.int .i64 0) ∧ Below W.heap.size W w') :
 Calls Tryz.prog 190 #[.pointer (some ⟨B, 0, none⟩), .int .i64 (p : Int), .agg #[.int .i64 own, .int .i64 seq, .slice a n cap]] w fun e w' => e = .returned (.tuple #[.int .i64 0, .nilIface]) ∧ FB w' B m k kn (fun i => if i = p then del (ow p) own else ow i) ∧ KeptM w w' m := by
 have hb := below_alloc w (.cells #[.int .i64 own, .int .i64 seq, .slice a n cap] 40)
 obtain ⟨W1, hW1⟩ : ∃ W1, w.alloc (.cells #[.int .i64 own, .int .i64 seq, .slice a n cap] 40) = W1 := ⟨_, rfl⟩
 have hbl : W1.heap[w.heap.size]? = some (.cells #[.int .i64 own, .int .i64 seq, .slice a n cap] 40 (0, 0)) := by rw [← hW1]; exact heap_alloc_new w _
 rw [hW1] at hb
 have HW : Hid _ := hW1
 have hck := fcheck_any B m k kn ow (p : Int) own seq a n cap es W1 (h.below hb) hn (ho.below hb)
 have hc0 : chkF m.bs.length (p : Int) own seq es = 0 := by rw [chkF, if_pos (by omega), hf]
 have E0 : errV 0 = .nilIface := rfl
 rw [hc0, E0] at hck
 have Hnw : Hid _ := hnw
 have hpi : (p : Int) < (m.bs.length : Int) := by omega
 have hfew := h.few
 clear hW1 hc0 E0 hnw hf
 go_enter Tryz.func190, Tryz.ntmps190
 go_wp2_with (fail)
 rw [HW.out]
 refine hck.mono ?_
 rintro e w2 ⟨rfl, k2⟩
 have b2 := below_chain hb k2
 have hX2 := (k2.block _ (Array.getElem?_eq_some_iff.1 hbl).1).trans hbl
 have x0 : w2.cell? ⟨w.heap.size, 0, none⟩ = some (.int .i64 own) := cell_of_row w2 _ 0 _ _ (0, 0) hX2
 have x1 : w2.cell? ⟨w.heap.size, 1, none⟩ = some (.int .i64 seq) := cell_of_row w2 _ 1 _ _ (0, 0) hX2
 have x2 : w2.cell? ⟨w.heap.size, 2, none⟩ = some (.slice a n cap) := cell_of_row w2 _ 2 _ _ (0, 0) hX2
 have xl : w.heap.size < w2.heap.size := World.block_lt_of_cell? w2 _ x0
 clear hck hbl hb k2
 go_wp2_with (fail)
 refine (Hnw.out w2 b2).mono ?_
 rintro e w3 ⟨rfl, k3⟩
 have b3 := below_chain b2 k3
 have hX3 := (k3.block _ xl).trans hX2
 clear x0 x1 x2 xl hX2
 have x0 : w3.cell? ⟨w.heap.size, 0, none⟩ = some (.int .i64 own) := cell_of_row w3 _ 0 _ _ (0, 0) hX3
 have xl : w.heap.size < w3.heap.size := World.block_lt_of_cell? w3 _ x0
 have F3 := h.below b3
 have b3d : Below w.heap.size w w3.drew := below_drewN b3 1
 have F3d := h.below b3d
 have hbp : m.bs[p]? = some m.bs[p] := List.getElem?_eq_getElem hp
 obtain ⟨W5, hr5, S5, T5⟩ := (F3d.om p _ hbp).drop own hr 0
 have F5 := F3d.setO hbp T5 S5 (Nat.le_refl _)
 have M5 : KeptM w W5 m := (KeptM.of_below m b3d).trans (KeptM.of_turned T5 (.inr (List.getElem_mem _)))
 have c1 : w3.cell? ⟨B, 1, none⟩ = some (.slice (some ⟨m.g, 0, none⟩) m.bs.length m.cap) := F3.c1
 have lB := F3.lt
 have cp := F3.port p _ hbp
 have gl : m.g < w3.heap.size := World.block_lt_of_cell? w3 _ cp
 generalize m.bs[p] = bp at cp hr5
 clear F3 F3d S5 T5 hbp k3
 go_wp2_with (fail)
 go_region
 all_goals
  go_wp2_with (fail)
  go_ret2
  exact ⟨rfl, F5, M5⟩
set_option maxRecDepth 100000 in
set_option maxHeartbeats 4000000 in
theorem take_neg (B : Nat) (m : FM) (k : Nat) (kn : Int → Option SV) (ow : Nat → Int → Option SV) (p : Nat) (own seq : Int) (a : Option Addr) (n cap : Nat) (es : List Opt) (w : World) (h : FB w B m k kn ow) (hr : inR own) (hp : p < m.bs.length) (ho : OptR w a n es) (hn : n ≤ maxLen) (hf : stF own seq es = 0) (t : SV) (ht : kn own = some t) (hk : k ≤ 1000000)
 (hnw : ∀ W, Below w.heap.size w W → Calls Tryz.prog 217 #[.pointer (some ⟨B, 0, none⟩), .agg #[.int .i64 own, .int .i64 seq, .slice a n cap]] W fun e w' => e = .returned (.int .i64 (-1)) ∧ Below W.heap.size W w') :
 Calls Tryz.prog 190 #[.pointer (some ⟨B, 0, none⟩), .int .i64 (p : Int), .agg #[.int .i64 own, .int .i64 seq, .slice a n cap]] w fun e w' => e = .returned (.tuple #[.int .i64 (-1), .nilIface]) ∧ FB w' B m (k + 1) kn (fun i => if i = p then upd (ow p) own t else ow i) ∧ KeptM w w' m := by
 have hb := below_alloc w (.cells #[.int .i64 own, .int .i64 seq, .slice a n cap] 40)
 obtain ⟨W1, hW1⟩ : ∃ W1, w.alloc (.cells #[.int .i64 own, .int .i64 seq, .slice a n cap] 40) = W1 := ⟨_, rfl⟩
 have hbl : W1.heap[w.heap.size]? = some (.cells #[.int .i64 own, .int .i64 seq, .slice a n cap] 40 (0, 0)) := by rw [← hW1]; exact heap_alloc_new w _
 rw [hW1] at hb
 have HW : Hid _ := hW1
 have hck := fcheck_any B m k kn ow (p : Int) own seq a n cap es W1 (h.below hb) hn (ho.below hb)
 have hc0 : chkF m.bs.length (p : Int) own seq es = 0 := by rw [chkF, if_pos (by omega), hf]
 have E0 : errV 0 = .nilIface := rfl
 rw [hc0, E0] at hck
 have Hnw : Hid _ := hnw
 have hpi : (p : Int) < (m.bs.length : Int) := by omega
 have hfew := h.few
 clear hW1 hc0 E0 hnw hf
 go_enter Tryz.func190, Tryz.ntmps190
 go_wp2_with (fail)
 rw [HW.out]
 refine hck.mono ?_
 rintro e w2 ⟨rfl, k2⟩
 have b2 := below_chain hb k2
 have hX2 := (k2.block _ (Array.getElem?_eq_some_iff.1 hbl).1).trans hbl
 have x0 : w2.cell? ⟨w.heap.size, 0, none⟩ = some (.int .i64 own) := cell_of_row w2 _ 0 _ _ (0, 0) hX2
 have x1 : w2.cell? ⟨w.heap.size, 1, none⟩ = some (.int .i64 seq) := cell_of_row w2 _ 1 _ _ (0, 0) hX2
 have x2 : w2.cell? ⟨w.heap.size, 2, none⟩ = some (.slice a n cap) := cell_of_row w2 _ 2 _ _ (0, 0) hX2
 have xl : w.heap.size < w2.heap.size := World.block_lt_of_cell? w2 _ x0
 clear hck hbl hb k2
 go_wp2_with (fail)
 refine (Hnw.out w2 b2).mono ?_
 rintro e w3 ⟨rfl, k3⟩
 have b3 := below_chain b2 k3
 have hX3 := (k3.block _ xl).trans hX2
 clear x0 x1 x2 xl hX2
 have x0 : w3.cell? ⟨w.heap.size, 0, none⟩ = some (.int .i64 own) := cell_of_row w3 _ 0 _ _ (0, 0) hX3
 have xl : w.heap.size < w3.heap.size := World.block_lt_of_cell? w3 _ x0
 have F3 := h.below b3
 have b3d : Below w.heap.size w w3.drew := below_drewN b3 1
 have F3d := h.below b3d
 have hbp : m.bs[p]? = some m.bs[p] := List.getElem?_eq_getElem hp
 have hlk : (Instr.lookup 211 (.map (some m.bm)) (.int .i64 own) false).run Tryz.prog w3.drew = .ok t.v w3.drew := by
  have := F3d.km.look own hr
  rw [ht] at this
  exact this
 obtain ⟨W5, hr5, S5, T5⟩ := (F3d.om p _ hbp).store (by unfold maxLen; omega) own hr t
 have F5 := F3d.setO hbp T5 S5 (Nat.le_succ _)
 have M5 : KeptM w W5 m := (KeptM.of_below m b3d).trans (KeptM.of_turned T5 (.inr (List.getElem_mem _)))
 have c0 := F3.c0
 have c1 : w3.cell? ⟨B, 1, none⟩ = some (.slice (some ⟨m.g, 0, none⟩) m.bs.length m.cap) := F3.c1
 have lB := F3.lt
 have cp := F3.port p _ hbp
 have gl : m.g < w3.heap.size := World.block_lt_of_cell? w3 _ cp
 generalize m.bs[p] = bp at cp hr5
 generalize t.v = tv at hlk hr5
 clear F3 F3d S5 T5 hbp k3 ht
 go_wp2_with (fail)
 go_region
 all_goals
  go_wp2_with (fail)
  go_ret2
  exact ⟨rfl, F5, M5⟩
structure Took (w w' : World) (B : Nat) (m : FM) (n : Nat) (kn : Int → Option SV) (ow : Nat → Int → Option SV) (p : Nat) (own seq : Int) (es : List Opt) (s : SV) : Prop where
 so : s.own = own
 ss : s.seq = seq
 sn : s.n = es.length
 so2 : OptR w' s.a s.n es
 nil : NilOk s.a s.cap
 new : ∀ j, Value.ownBlock (.slice s.a s.n s.cap) = some j → w.heap.size ≤ j ∧ j < w'.heap.size
 fb : FB w' B m (n + 1 + m.bs.length) (upd kn own s) (fun i => if i = p then del (upd (ow p) own s) own else if i < m.bs.length then upd (ow i) own s else ow i)
 kept : KeptM w w' m
set_option maxRecDepth 100000 in
set_option maxHeartbeats 4000000 in
theorem take_pos (B : Nat) (m : FM) (k : Nat) (kn : Int → Option SV) (ow : Nat → Int → Option SV) (p : Nat) (own seq : Int) (a : Option Addr) (n cap : Nat) (es : List Opt) (w : World) (h : FB w B m k kn ow) (hr : inR own) (hp : p < m.bs.length) (ho : OptR w a n es) (hn : n ≤ maxLen) (hnil : NilOk a cap) (hk : k ≤ 1000000) (hf : stF own seq es = 0)
 (hnw : ∀ W, Below w.heap.size w W → Calls Tryz.prog 217 #[.pointer (some ⟨B, 0, none⟩), .agg #[.int .i64 own, .int .i64 seq, .slice a n cap]] W fun e w' => e = .returned (.int .i64 1) ∧ Below W.heap.size W w') :
 Calls Tryz.prog 190 #[.pointer (some ⟨B, 0, none⟩), .int .i64 (p : Int), .agg #[.int .i64 own, .int .i64 seq, .slice a n cap]] w fun e w' => e = .returned (.tuple #[.int .i64 1, .nilIface]) ∧ ∃ s, Took w w' B m k kn ow p own seq es s := by
 have hb := below_alloc w (.cells #[.int .i64 own, .int .i64 seq, .slice a n cap] 40)
 obtain ⟨W1, hW1⟩ : ∃ W1, w.alloc (.cells #[.int .i64 own, .int .i64 seq, .slice a n cap] 40) = W1 := ⟨_, rfl⟩
 have hbl : W1.heap[w.heap.size]? = some (.cells #[.int .i64 own, .int .i64 seq, .slice a n cap] 40 (0, 0)) := by rw [← hW1]; exact heap_alloc_new w _
 rw [hW1] at hb
 have HW : Hid _ := hW1
 have hck := fcheck_any B m k kn ow (p : Int) own seq a n cap es W1 (h.below hb) hn (ho.below hb)
 have hc0 : chkF m.bs.length (p : Int) own seq es = 0 := by rw [chkF, if_pos (by omega), hf]
 have E0 : errV 0 = .nilIface := rfl
 rw [hc0, E0] at hck
 have Hnw : Hid _ := hnw
 have HN : Hid (n ≤ 6) := by show n ≤ 6; have := (stF_zero hf).2.2.1; rw [ho.1] at this; exact this
 have hpi : (p : Int) < (m.bs.length : Int) := by omega
 have hfew := h.few
 clear hW1 hc0 E0 hnw hf
 go_enter Tryz.func190, Tryz.ntmps190
 go_wp2_with (fail)
 rw [HW.out]
 refine hck.mono ?_
 rintro e w2 ⟨rfl, k2⟩
 have b2 := below_chain hb k2
 have hX2 := (k2.block _ (Array.getElem?_eq_some_iff.1 hbl).1).trans hbl
 have x0 : w2.cell? ⟨w.heap.size, 0, none⟩ = some (.int .i64 own) := cell_of_row w2 _ 0 _ _ (0, 0) hX2
 have x1 : w2.cell? ⟨w.heap.size, 1, none⟩ = some (.int .i64 seq) := cell_of_row w2 _ 1 _ _ (0, 0) hX2
 have x2 : w2.cell? ⟨w.heap.size, 2, none⟩ = some (.slice a n cap) := cell_of_row w2 _ 2 _ _ (0, 0) hX2
 have xl : w.heap.size < w2.heap.size := World.block_lt_of_cell? w2 _ x0
 clear hck hbl hb k2
 go_wp2_with (fail)
 refine (Hnw.out w2 b2).mono ?_
 rintro e w3 ⟨rfl, k3⟩
 have b3 := below_chain b2 k3
 have hX3 := (k3.block _ xl).trans hX2
 clear x0 x1 x2 xl hX2
 have x0 : w3.cell? ⟨w.heap.size, 0, none⟩ = some (.int .i64 own) := cell_of_row w3 _ 0 _ _ (0, 0) hX3
 have xl : w.heap.size < w3.heap.size := World.block_lt_of_cell? w3 _ x0
 have x1 : w3.cell? ⟨w.heap.size, 1, none⟩ = some (.int .i64 seq) := cell_of_row w3 _ 1 _ _ (0, 0) hX3
 have x2 : w3.cell? ⟨w.heap.size, 2, none⟩ = some (.slice a n cap) := cell_of_row w3 _ 2 _ _ (0, 0) hX3
 have F3 := h.below b3
 have hn6 : n ≤ 1000000 := by have := HN.out; omega
 have hle := learn_any B m k kn ow own seq a n cap es w3 F3 hr (ho.below b3) hnil hn6 hk
 clear k3
 go_wp2_with (fail)
 refine hle.mono ?_
 rintro e w4 ⟨rfl, s, hL⟩
 clear hle x0 x1 x2 xl
 have hX4 := box_kept h hX3 hL.kept
 have x0 : w4.cell? ⟨w.heap.size, 0, none⟩ = some (.int .i64 own) := cell_of_row w4 _ 0 _ _ (0, 0) hX4
 have xl : w.heap.size < w4.heap.size := World.block_lt_of_cell? w4 _ x0
 have F4 := hL.fb
 have F4d := F4.below (show Below w4.heap.size w4 w4.drew from below_drewN (Below.refl _ _) 1)
 have hbp : m.bs[p]? = some m.bs[p] := List.getElem?_eq_getElem hp
 obtain ⟨W5, hr5, S5, T5⟩ := (F4d.om p _ hbp).drop own hr 0
 have F5 := F4d.setO hbp T5 S5 (Nat.le_refl _)
 have M45 : KeptM w4 W5 m := (KeptM.of_below m (show Below w4.heap.size w4 w4.drew from below_drewN (Below.refl _ _) 1)).trans (KeptM.of_turned T5 (.inr (List.getElem_mem _)))
 have hT : Hid (Took w W5 B m k kn ow p own seq es s) := by
  have hfar : ∀ x, Value.ownBlock (.slice s.a s.n s.cap) = some x → x ≠ m.bm ∧ x ∉ m.bs := fun x hx => by
   have h1 := (hL.new x hx).1
   have h2 := b3.size
   exact ⟨fun e => by have := h.mlt m.bm (.inl rfl); omega, fun e => by have := h.mlt x (.inr e); omega⟩
  refine ⟨hL.so, hL.ss, hL.sn, hL.so2.keptM (cap := s.cap) M45 hfar, hL.nil, fun j hj => ?_, ?_, ((KeptM.of_below m b3).trans hL.kept).trans M45⟩
  · have := hL.new j hj
    have h2 := b3.size
    have h3 := M45.size
    omega
  · have e : (fun i => if i = p then del (upd (ow p) own s) own else if i < m.bs.length then upd (ow i) own s else ow i) = (fun j => if j = p then (fun x => if x = own then none else (fun i => if i < m.bs.length then upd (ow i) own s else ow i) p x) else (fun i => if i < m.bs.length then upd (ow i) own s else ow i) j) := by
     funext i
     by_cases h1 : i = p
     · rw [if_pos h1, if_pos h1]
       funext x
       simp only [del, if_pos hp]
     · rw [if_neg h1, if_neg h1]
    rw [e]
    exact F5
 have c1 : w4.cell? ⟨B, 1, none⟩ = some (.slice (some ⟨m.g, 0, none⟩) m.bs.length m.cap) := F4.c1
 have lB := F4.lt
 have cp := F4.port p _ hbp
 have gl : m.g < w4.heap.size := World.block_lt_of_cell? w4 _ cp
 generalize m.bs[p] = bp at cp hr5
 clear F3 F4 F4d S5 T5 hbp hL F5 M45
 go_wp2_with (fail)
 go_region
 all_goals
  go_wp2_with (fail)
  go_ret2
  exact ⟨rfl, s, hT.out⟩
end Go.Proofs.YtieklnlbljejdaaGreatDoor

namespace Go.Proofs.YtieklnlbljejdaaGreatDoor
open Go.RowKit St
theorem errV_pos {c : Nat} (h : c ≠ 0) : errV c = .iface 128 (.int .i64 (c : Int)) := by rw [errV, if_neg h]
set_option maxRecDepth 100000 in
set_option maxHeartbeats 4000000 in
theorem part_yes (B : Nat) (m : FM) (k : Nat) (kn : Int → Option SV) (ow : Nat → Int → Option SV) (p : Nat) (w : World) (h : FB w B m k kn ow) (hp : p < m.bs.length) :
 Calls Tryz.prog 124 #[.pointer (some ⟨B, 0, none⟩), .int .i64 (p : Int)] w fun e w' => e = .returned (.tuple #[]) ∧ FB w' B m k kn (fun i => if i = p then fun _ => none else ow i) ∧ KeptM w w' m := by
 have hh := has_any B m k kn ow (p : Int) w h
 have hv : (decide (0 ≤ (p : Int)) && decide ((p : Int) < (m.bs.length : Int))) = true := by
  simp; omega
 rw [hv] at hh
 clear hv
 have hpi : (p : Int) < (m.bs.length : Int) := by omega
 have hfew := h.few
 have hbp : m.bs[p]? = some m.bs[p] := List.getElem?_eq_getElem hp
 obtain ⟨W5, hr5, S5, T5⟩ := (h.om p _ hbp).clear 0
 have F5 := h.setO hbp T5 S5 (Nat.le_refl _)
 have M5 : KeptM w W5 m := KeptM.of_turned T5 (.inr (List.getElem_mem _))
 have c1 : w.cell? ⟨B, 1, none⟩ = some (.slice (some ⟨m.g, 0, none⟩) m.bs.length m.cap) := h.c1
 have lB := h.lt
 have cp := h.port p _ hbp
 have gl : m.g < w.heap.size := World.block_lt_of_cell? w _ cp
 generalize m.bs[p] = bp at cp hr5
 clear S5 T5 hbp
 go_enter Tryz.func124, Tryz.ntmps124
 go_wp2_with (fail)
 refine hh.mono ?_
 rintro e w1 ⟨rfl, rfl⟩
 clear hh
 go_wp2_with (fail)
 first | go_end0 | refine bodyPost_ret (results_none rfl _ _ _) rfl ?_
 exact ⟨rfl, F5, M5⟩
set_option maxRecDepth 100000 in
set_option maxHeartbeats 4000000 in
theorem set_ok (B : Nat) (m : FM) (k : Nat) (kn : Int → Option SV) (ow : Nat → Int → Option SV) (own seq : Int) (a : Option Addr) (n cap : Nat) (es : List Opt) (w : World) (h : FB w B m k kn ow) (hr : inR own) (ho : OptR w a n es) (hnil : NilOk a cap) (hk : k ≤ 1000000) (hf : stF own seq es = 0) :
 Calls Tryz.prog 67 #[.pointer (some ⟨B, 0, none⟩), .agg #[.int .i64 own, .int .i64 seq, .slice a n cap]] w fun e w' => e = .returned .nilIface ∧ ∃ s, Learnt w w' B m k kn ow own seq es s := by
 have hn6 : n ≤ 1000000 := by have := (stF_zero hf).2.2.1; rw [ho.1] at this; omega
 have hb := below_alloc w (.cells #[.int .i64 own, .int .i64 seq, .slice a n cap] 40)
 obtain ⟨W1, hW1⟩ : ∃ W1, w.alloc (.cells #[.int .i64 own, .int .i64 seq, .slice a n cap] 40) = W1 := ⟨_, rfl⟩
 have hbl : W1.heap[w.heap.size]? = some (.cells #[.int .i64 own, .int .i64 seq, .slice a n cap] 40 (0, 0)) := by rw [← hW1]; exact heap_alloc_new w _
 rw [hW1] at hb
 have HW : Hid _ := hW1
 have hck := check_all own seq a n cap es W1 (by unfold maxLen; omega) (ho.below hb)
 have E0 : errV 0 = .nilIface := rfl
 rw [hf, E0] at hck
 clear hW1 E0 hf
 go_enter Tryz.func67, Tryz.ntmps67
 go_wp2_with (fail)
 rw [HW.out]
 refine hck.mono ?_
 rintro e w2 ⟨rfl, k2⟩
 have b2 := below_chain hb k2
 have hX2 := (k2.block _ (Array.getElem?_eq_some_iff.1 hbl).1).trans hbl
 have x0 : w2.cell? ⟨w.heap.size, 0, none⟩ = some (.int .i64 own) := cell_of_row w2 _ 0 _ _ (0, 0) hX2
 have x1 : w2.cell? ⟨w.heap.size, 1, none⟩ = some (.int .i64 seq) := cell_of_row w2 _ 1 _ _ (0, 0) hX2
 have x2 : w2.cell? ⟨w.heap.size, 2, none⟩ = some (.slice a n cap) := cell_of_row w2 _ 2 _ _ (0, 0) hX2
 have xl : w.heap.size < w2.heap.size := World.block_lt_of_cell? w2 _ x0
 have hle := learn_any B m k kn ow own seq a n cap es w2 (h.below b2) hr (ho.below b2) hnil hn6 hk
 clear hck hbl hb k2
 go_wp2_with (fail)
 refine hle.mono ?_
 rintro e w4 ⟨rfl, s, hL⟩
 have b2s := b2.size
 have HL : Hid (∃ s, Learnt w w4 B m k kn ow own seq es s) := ⟨s, hL.so, hL.ss, hL.sn, hL.so2, hL.nil, fun j hj => ⟨Nat.le_trans b2s (hL.new j hj).1, (hL.new j hj).2⟩, hL.fb, (KeptM.of_below m b2).trans hL.kept⟩
 clear hle x0 x1 x2 xl hL b2s b2
 go_wp2_with (fail)
 go_ret
 exact ⟨rfl, HL.out⟩
set_option maxRecDepth 100000 in
set_option maxHeartbeats 4000000 in
theorem heard_zero (B : Nat) (m : FM) (k : Nat) (kn : Int → Option SV) (ow : Nat → Int → Option SV) (p : Nat) (own seq : Int) (a : Option Addr) (n cap : Nat) (es : List Opt) (w : World) (h : FB w B m k kn ow) (hr : inR own) (hp : p < m.bs.length) (ho : OptR w a n es) (hn : n ≤ maxLen) (hf : stF own seq es = 0)
 (hnw : ∀ W, Below w.heap.size w W → Calls Tryz.prog 217 #[.pointer (some ⟨B, 0, none⟩), .agg #[.int .i64 own, .int .i64 seq, .slice a n cap]] W fun e w' => e = .returned (.int .i64 0) ∧ Below W.heap.size W w') :
 Calls Tryz.prog 191 #[.pointer (some ⟨B, 0, none⟩), .int .i64 (p : Int), .agg #[.int .i64 own, .int .i64 seq, .slice a n cap]] w fun e w' => e = .returned .nilIface ∧ FB w' B m k kn (fun i => if i = p then del (ow p) own else ow i) ∧ KeptM w w' m := by
 have hb := below_alloc w (.cells #[.int .i64 own, .int .i64 seq, .slice a n cap] 40)
 obtain ⟨W1, hW1⟩ : ∃ W1, w.alloc (.cells #[.int .i64 own, .int .i64 seq, .slice a n cap] 40) = W1 := ⟨_, rfl⟩
 have hbl : W1.heap[w.heap.size]? = some (.cells #[.int .i64 own, .int .i64 seq, .slice a n cap] 40 (0, 0)) := by rw [← hW1]; exact heap_alloc_new w _
 rw [hW1] at hb
 have HW : Hid _ := hW1
 have hck := fcheck_any B m k kn ow (p : Int) own seq a n cap es W1 (h.below hb) hn (ho.below hb)
 have hc0 : chkF m.bs.length (p : Int) own seq es = 0 := by rw [chkF, if_pos (by omega), hf]
 have E0 : errV 0 = .nilIface := rfl
 rw [hc0, E0] at hck
 have Hnw : Hid _ := hnw
 have hpi : (p : Int) < (m.bs.length : Int) := by omega
 have hfew := h.few
 clear hW1 hc0 E0 hnw hf
 go_enter Tryz.func191, Tryz.ntmps191
 go_wp2_with (fail)
 rw [HW.out]
 refine hck.mono ?_
 rintro e w2 ⟨rfl, k2⟩
 have b2 := below_chain hb k2
 have hX2 := (k2.block _ (Array.getElem?_eq_some_iff.1 hbl).1).trans hbl
 have x0 : w2.cell? ⟨w.heap.size, 0, none⟩ = some (.int .i64 own) := cell_of_row w2 _ 0 _ _ (0, 0) hX2
 have x1 : w2.cell? ⟨w.heap.size, 1, none⟩ = some (.int .i64 seq) := cell_of_row w2 _ 1 _ _ (0, 0) hX2
 have x2 : w2.cell? ⟨w.heap.size, 2, none⟩ = some (.slice a n cap) := cell_of_row w2 _ 2 _ _ (0, 0) hX2
 have xl : w.heap.size < w2.heap.size := World.block_lt_of_cell? w2 _ x0
 clear hck hbl hb k2
 go_wp2_with (fail)
 refine (Hnw.out w2 b2).mono ?_
 rintro e w3 ⟨rfl, k3⟩
 have b3 := below_chain b2 k3
 have hX3 := (k3.block _ xl).trans hX2
 clear x0 x1 x2 xl hX2
 have x0 : w3.cell? ⟨w.heap.size, 0, none⟩ = some (.int .i64 own) := cell_of_row w3 _ 0 _ _ (0, 0) hX3
 have xl : w.heap.size < w3.heap.size := World.block_lt_of_cell? w3 _ x0
 have F3 := h.below b3
 have b3d : Below w.heap.size w w3.drew := below_drewN b3 1
 have F3d := h.below b3d
 have hbp : m.bs[p]? = some m.bs[p] := List.getElem?_eq_getElem hp
 obtain ⟨W5, hr5, S5, T5⟩ := (F3d.om p _ hbp).drop own hr 0
 have F5 := F3d.setO hbp T5 S5 (Nat.le_refl _)
 have M5 : KeptM w W5 m := (KeptM.of_below m b3d).trans (KeptM.of_turned T5 (.inr (List.getElem_mem _)))
 have c1 : w3.cell? ⟨B, 1, none⟩ = some (.slice (some ⟨m.g, 0, none⟩) m.bs.length m.cap) := F3.c1
 have lB := F3.lt
 have cp := F3.port p _ hbp
 have gl : m.g < w3.heap.size := World.block_lt_of_cell? w3 _ cp
 generalize m.bs[p] = bp at cp hr5
 clear F3 F3d S5 T5 hbp k3
 go_wp2_with (fail)
 go_region
 all_goals
  go_wp2_with (fail)
  go_ret
  exact ⟨rfl, F5, M5⟩
set_option maxRecDepth 100000 in
set_option maxHeartbeats 4000000 in
theorem heard_pos (B : Nat) (m : FM) (k : Nat) (kn : Int → Option SV) (ow : Nat → Int → Option SV) (p : Nat) (own seq : Int) (a : Option Addr) (n cap : Nat) (es : List Opt) (w : World) (h : FB w B m k kn ow) (hr : inR own) (hp : p < m.bs.length) (ho : OptR w a n es) (hn : n ≤ maxLen) (hf : stF own seq es = 0)
 (hnw : ∀ W, Below w.heap.size w W → Calls Tryz.prog 217 #[.pointer (some ⟨B, 0, none⟩), .agg #[.int .i64 own, .int .i64 seq, .slice a n cap]] W fun e w' => e = .returned (.int .i64 1) ∧ Below W.heap.size W w') :
 Calls Tryz.prog 191 #[.pointer (some ⟨B, 0, none⟩), .int .i64 (p : Int), .agg #[.int .i64 own, .int .i64 seq, .slice a n cap]] w fun e w' => e = .returned .nilIface ∧ FB w' B m k kn (fun i => if i = p then del (ow p) own else ow i) ∧ KeptM w w' m := by
 have hb := below_alloc w (.cells #[.int .i64 own, .int .i64 seq, .slice a n cap] 40)
 obtain ⟨W1, hW1⟩ : ∃ W1, w.alloc (.cells #[.int .i64 own, .int .i64 seq, .slice a n cap] 40) = W1 := ⟨_, rfl⟩
 have hbl : W1.heap[w.heap.size]? = some (.cells #[.int .i64 own, .int .i64 seq, .slice a n cap] 40 (0, 0)) := by rw [← hW1]; exact heap_alloc_new w _
 rw [hW1] at hb
 have HW : Hid _ := hW1
 have hck := fcheck_any B m k kn ow (p : Int) own seq a n cap es W1 (h.below hb) hn (ho.below hb)
 have hc0 : chkF m.bs.length (p : Int) own seq es = 0 := by rw [chkF, if_pos (by omega), hf]
 have E0 : errV 0 = .nilIface := rfl
 rw [hc0, E0] at hck
 have Hnw : Hid _ := hnw
 have hpi : (p : Int) < (m.bs.length : Int) := by omega
 have hfew := h.few
 clear hW1 hc0 E0 hnw hf
 go_enter Tryz.func191, Tryz.ntmps191
 go_wp2_with (fail)
 rw [HW.out]
 refine hck.mono ?_
 rintro e w2 ⟨rfl, k2⟩
 have b2 := below_chain hb k2
 have hX2 := (k2.block _ (Array.getElem?_eq_some_iff.1 hbl).1).trans hbl
 have x0 : w2.cell? ⟨w.heap.size, 0, none⟩ = some (.int .i64 own) := cell_of_row w2 _ 0 _ _ (0, 0) hX2
 have x1 : w2.cell? ⟨w.heap.size, 1, none⟩ = some (.int .i64 seq) := cell_of_row w2 _ 1 _ _ (0, 0) hX2
 have x2 : w2.cell? ⟨w.heap.size, 2, none⟩ = some (.slice a n cap) := cell_of_row w2 _ 2 _ _ (0, 0) hX2
 have xl : w.heap.size < w2.heap.size := World.block_lt_of_cell? w2 _ x0
 clear hck hbl hb k2
 go_wp2_with (fail)
 refine (Hnw.out w2 b2).mono ?_
 rintro e w3 ⟨rfl, k3⟩
 have b3 := below_chain b2 k3
 have hX3 := (k3.block _ xl).trans hX2
 clear x0 x1 x2 xl hX2
 have x0 : w3.cell? ⟨w.heap.size, 0, none⟩ = some (.int .i64 own) := cell_of_row w3 _ 0 _ _ (0, 0) hX3
 have xl : w.heap.size < w3.heap.size := World.block_lt_of_cell? w3 _ x0
 have F3 := h.below b3
 have b3d : Below w.heap.size w w3.drew := below_drewN b3 1
 have F3d := h.below b3d
 have hbp : m.bs[p]? = some m.bs[p] := List.getElem?_eq_getElem hp
 obtain ⟨W5, hr5, S5, T5⟩ := (F3d.om p _ hbp).drop own hr 0
 have F5 := F3d.setO hbp T5 S5 (Nat.le_refl _)
 have M5 : KeptM w W5 m := (KeptM.of_below m b3d).trans (KeptM.of_turned T5 (.inr (List.getElem_mem _)))
 have c1 : w3.cell? ⟨B, 1, none⟩ = some (.slice (some ⟨m.g, 0, none⟩) m.bs.length m.cap) := F3.c1
 have lB := F3.lt
 have cp := F3.port p _ hbp
 have gl : m.g < w3.heap.size := World.block_lt_of_cell? w3 _ cp
 generalize m.bs[p] = bp at cp hr5
 clear F3 F3d S5 T5 hbp k3
 go_wp2_with (fail)
 go_region
 all_goals
  go_wp2_with (fail)
  go_ret
  exact ⟨rfl, F5, M5⟩
set_option maxRecDepth 100000 in
set_option maxHeartbeats 4000000 in
theorem heard_neg (B : Nat) (m : FM) (k : Nat) (kn : Int → Option SV) (ow : Nat → Int → Option SV) (p : Nat) (own seq : Int) (a : Option Addr) (n cap : Nat) (es : List Opt) (w : World) (h : FB w B m k kn ow) (hp : p < m.bs.length) (ho : OptR w a n es) (hn : n ≤ maxLen) (hf : stF own seq es = 0)
 (hnw : ∀ W, Below w.heap.size w W → Calls Tryz.prog 217 #[.pointer (some ⟨B, 0, none⟩), .agg #[.int .i64 own, .int .i64 seq, .slice a n cap]] W fun e w' => e = .returned (.int .i64 (-1)) ∧ Below W.heap.size W w') :
 Calls Tryz.prog 191 #[.pointer (some ⟨B, 0, none⟩), .int .i64 (p : Int), .agg #[.int .i64 own, .int .i64 seq, .slice a n cap]] w fun e w' => e = .returned .nilIface ∧ Below w.heap.size w w' := by
 have hb := below_alloc w (.cells #[.int .i64 own, .int .i64 seq, .slice a n cap] 40)
 obtain ⟨W1, hW1⟩ : ∃ W1, w.alloc (.cells #[.int .i64 own, .int .i64 seq, .slice a n cap] 40) = W1 := ⟨_, rfl⟩
 have hbl : W1.heap[w.heap.size]? = some (.cells #[.int .i64 own, .int .i64 seq, .slice a n cap] 40 (0, 0)) := by rw [← hW1]; exact heap_alloc_new w _
 rw [hW1] at hb
 have HW : Hid _ := hW1
 have hck := fcheck_any B m k kn ow (p : Int) own seq a n cap es W1 (h.below hb) hn (ho.below hb)
 have hc0 : chkF m.bs.length (p : Int) own seq es = 0 := by rw [chkF, if_pos (by omega), hf]
 have E0 : errV 0 = .nilIface := rfl
 rw [hc0, E0] at hck
 have Hnw : Hid _ := hnw
 have hpi : (p : Int) < (m.bs.length : Int) := by omega
 have hfew := h.few
 clear hW1 hc0 E0 hnw hf
 go_enter Tryz.func191, Tryz.ntmps191
 go_wp2_with (fail)
 rw [HW.out]
 refine hck.mono ?_
 rintro e w2 ⟨rfl, k2⟩
 have b2 := below_chain hb k2
 have hX2 := (k2.block _ (Array.getElem?_eq_some_iff.1 hbl).1).trans hbl
 have x0 : w2.cell? ⟨w.heap.size, 0, none⟩ = some (.int .i64 own) := cell_of_row w2 _ 0 _ _ (0, 0) hX2
 have x1 : w2.cell? ⟨w.heap.size, 1, none⟩ = some (.int .i64 seq) := cell_of_row w2 _ 1 _ _ (0, 0) hX2
 have x2 : w2.cell? ⟨w.heap.size, 2, none⟩ = some (.slice a n cap) := cell_of_row w2 _ 2 _ _ (0, 0) hX2
 have xl : w.heap.size < w2.heap.size := World.block_lt_of_cell? w2 _ x0
 clear hck hbl hb k2
 go_wp2_with (fail)
 refine (Hnw.out w2 b2).mono ?_
 rintro e w3 ⟨rfl, k3⟩
 have b3 := below_chain b2 k3
 have hX3 := (k3.block _ xl).trans hX2
 clear x0 x1 x2 xl hX2
 clear k3
 go_wp2_with (fail)
 go_ret
 exact ⟨rfl, b3⟩
end Go.Proofs.YtieklnlbljejdaaGreatDoor
