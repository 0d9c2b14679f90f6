/-
  A base of states: Part, Set, Heard; Take of what may not be.
-/
import Derived.Test.YtgfjgenkpfdofaaFloodTake
namespace Go.Proofs.Ytgfjgenkpfdofaa
open Go.RowKit St
theorem errV_pos {c : Nat} (h : c ≠ 0) : errV c = .iface 64 (.int .i64 (c : Int)) := by rw [errV, if_neg h]
set_option maxRecDepth 100000 in
set_option maxHeartbeats 4000000 in
theorem part_yes (B : Nat) (m : FM) (k : Nat) (kn : Int → Option SV) (ow : Nat → Int → Option SV) (p : Nat) (w : World) (h : FB w B m k kn ow) (hp : p < m.bs.length) :
    Calls Try.prog 16 #[.pointer (some ⟨B, 0, none⟩), .int .i64 (p : Int)] w fun e w' => e = .returned (.tuple #[]) ∧ FB w' B m k kn (fun i => if i = p then fun _ => none else ow i) ∧ KeptM w w' m := by
  have hh := has_any B m k kn ow (p : Int) w h
  have hv : (decide (0 ≤ (p : Int)) && decide ((p : Int) < (m.bs.length : Int))) = true := by
    simp; omega
  rw [hv] at hh
  clear hv
  have hpi : (p : Int) < (m.bs.length : Int) := by omega
  have hfew := h.few
  have hbp : m.bs[p]? = some m.bs[p] := List.getElem?_eq_getElem hp
  obtain ⟨W5, hr5, S5, T5⟩ := (h.om p _ hbp).clear 0
  have F5 := h.setO hbp T5 S5 (Nat.le_refl _)
  have M5 : KeptM w W5 m := KeptM.of_turned T5 (.inr (List.getElem_mem _))
  have c1 : w.cell? ⟨B, 1, none⟩ = some (.slice (some ⟨m.g, 0, none⟩) m.bs.length m.cap) := h.c1
  have lB := h.lt
  have cp := h.port p _ hbp
  have gl : m.g < w.heap.size := World.block_lt_of_cell? w _ cp
  generalize m.bs[p] = bp at cp hr5
  clear S5 T5 hbp
  go_enter Try.func16, Try.ntmps16
  go_wp2_with (fail)
  refine hh.mono ?_
  rintro e w1 ⟨rfl, rfl⟩
  clear hh
  go_wp2_with (fail)
  first | go_end0 | refine bodyPost_ret (results_none rfl _ _ _) rfl ?_
  exact ⟨rfl, F5, M5⟩
set_option maxRecDepth 100000 in
set_option maxHeartbeats 4000000 in
theorem part_no (B : Nat) (m : FM) (k : Nat) (kn : Int → Option SV) (ow : Nat → Int → Option SV) (p : Int) (w : World) (h : FB w B m k kn ow) (hp : ¬(0 ≤ p ∧ p < (m.bs.length : Int))) :
    Calls Try.prog 16 #[.pointer (some ⟨B, 0, none⟩), .int .i64 p] w fun e w' => e = .returned (.tuple #[]) ∧ w = w' := by
  have hh := has_any B m k kn ow p w h
  have hv : (decide (0 ≤ p) && decide (p < (m.bs.length : Int))) = false := by
    simp only [Bool.and_eq_false_iff, decide_eq_false_iff_not]; omega
  rw [hv] at hh
  clear hv
  go_enter Try.func16, Try.ntmps16
  go_wp2_with (fail)
  refine hh.mono ?_
  rintro e w1 ⟨rfl, rfl⟩
  clear hh
  go_wp2_with (fail)
  first | go_end0 | refine bodyPost_ret (results_none rfl _ _ _) rfl ?_
  exact ⟨rfl, rfl⟩
set_option maxRecDepth 100000 in
set_option maxHeartbeats 4000000 in
theorem take_bad (B : Nat) (m : FM) (k : Nat) (kn : Int → Option SV) (ow : Nat → Int → Option SV) (port : Int) (own seq : Int) (a : Option Addr) (n cap : Nat) (es : List Opt) (w : World) (h : FB w B m k kn ow) (ho : OptR w a n es) (hn : n ≤ maxLen) (hf : chkF m.bs.length port own seq es ≠ 0) :
    Calls Try.prog 10 #[.pointer (some ⟨B, 0, none⟩), .int .i64 port, .agg #[.int .i64 own, .int .i64 seq, .slice a n cap]] w fun e w' => e = .returned (.tuple #[.int .i64 0, errV (chkF m.bs.length port own seq es)]) ∧ Below w.heap.size w w' := by
  have hb := below_alloc w (.cells #[.int .i64 own, .int .i64 seq, .slice a n cap] 35)
  obtain ⟨W1, hW1⟩ : ∃ W1, w.alloc (.cells #[.int .i64 own, .int .i64 seq, .slice a n cap] 35) = W1 := ⟨_, rfl⟩
  have hbl : W1.heap[w.heap.size]? = some (.cells #[.int .i64 own, .int .i64 seq, .slice a n cap] 35 (0, 0)) := by rw [← hW1]; exact heap_alloc_new w _
  rw [hW1] at hb
  have HW : Hid _ := hW1
  have hck := fcheck_any B m k kn ow port own seq a n cap es W1 (h.below hb) hn (ho.below hb)
  have HE : Hid _ := errV_pos hf
  rw [HE.out] at hck
  generalize ((chkF m.bs.length port own seq es : Nat) : Int) = z at HE hck
  clear hW1 hf
  go_enter Try.func10, Try.ntmps10
  go_wp2_with (fail)
  rw [HW.out]
  refine hck.mono ?_
  rintro e w2 ⟨rfl, k2⟩
  have b2 := below_chain hb k2
  clear hck hbl hb k2
  go_wp2_with (fail)
  go_ret2
  exact ⟨by rw [HE.out]; first | done | rfl, b2⟩
set_option maxRecDepth 100000 in
set_option maxHeartbeats 4000000 in
theorem heard_bad (B : Nat) (m : FM) (k : Nat) (kn : Int → Option SV) (ow : Nat → Int → Option SV) (port : Int) (own seq : Int) (a : Option Addr) (n cap : Nat) (es : List Opt) (w : World) (h : FB w B m k kn ow) (ho : OptR w a n es) (hn : n ≤ maxLen) (hf : chkF m.bs.length port own seq es ≠ 0) :
    Calls Try.prog 12 #[.pointer (some ⟨B, 0, none⟩), .int .i64 port, .agg #[.int .i64 own, .int .i64 seq, .slice a n cap]] w fun e w' => e = .returned (errV (chkF m.bs.length port own seq es)) ∧ Below w.heap.size w w' := by
  have hb := below_alloc w (.cells #[.int .i64 own, .int .i64 seq, .slice a n cap] 35)
  obtain ⟨W1, hW1⟩ : ∃ W1, w.alloc (.cells #[.int .i64 own, .int .i64 seq, .slice a n cap] 35) = W1 := ⟨_, rfl⟩
  have hbl : W1.heap[w.heap.size]? = some (.cells #[.int .i64 own, .int .i64 seq, .slice a n cap] 35 (0, 0)) := by rw [← hW1]; exact heap_alloc_new w _
  rw [hW1] at hb
  have HW : Hid _ := hW1
  have hck := fcheck_any B m k kn ow port own seq a n cap es W1 (h.below hb) hn (ho.below hb)
  have HE : Hid _ := errV_pos hf
  rw [HE.out] at hck
  generalize ((chkF m.bs.length port own seq es : Nat) : Int) = z at HE hck
  clear hW1 hf
  go_enter Try.func12, Try.ntmps12
  go_wp2_with (fail)
  rw [HW.out]
  refine hck.mono ?_
  rintro e w2 ⟨rfl, k2⟩
  have b2 := below_chain hb k2
  clear hck hbl hb k2
  go_wp2_with (fail)
  go_ret
  exact ⟨by rw [HE.out]; first | done | rfl, b2⟩
set_option maxRecDepth 100000 in
set_option maxHeartbeats 4000000 in
theorem set_bad (B : Nat) (own seq : Int) (a : Option Addr) (n cap : Nat) (es : List Opt) (w : World) (ho : OptR w a n es) (hn : n ≤ maxLen) (hf : stF own seq es ≠ 0) :
    Calls Try.prog 8 #[.pointer (some ⟨B, 0, none⟩), .agg #[.int .i64 own, .int .i64 seq, .slice a n cap]] w fun e w' => e = .returned (errV (stF own seq es)) ∧ Below w.heap.size w w' := by
  have hb := below_alloc w (.cells #[.int .i64 own, .int .i64 seq, .slice a n cap] 35)
  obtain ⟨W1, hW1⟩ : ∃ W1, w.alloc (.cells #[.int .i64 own, .int .i64 seq, .slice a n cap] 35) = W1 := ⟨_, rfl⟩
  have hbl : W1.heap[w.heap.size]? = some (.cells #[.int .i64 own, .int .i64 seq, .slice a n cap] 35 (0, 0)) := by rw [← hW1]; exact heap_alloc_new w _
  rw [hW1] at hb
  have HW : Hid _ := hW1
  have hck := check_all own seq a n cap es W1 hn (ho.below hb)
  have HE : Hid _ := errV_pos hf
  rw [HE.out] at hck
  generalize ((stF own seq es : Nat) : Int) = z at HE hck
  clear hW1 hf
  go_enter Try.func8, Try.ntmps8
  go_wp2_with (fail)
  rw [HW.out]
  refine hck.mono ?_
  rintro e w2 ⟨rfl, k2⟩
  have b2 := below_chain hb k2
  clear hck hbl hb k2
  go_wp2_with (fail)
  go_ret
  exact ⟨by rw [HE.out]; first | done | rfl, b2⟩
set_option maxRecDepth 100000 in
set_option maxHeartbeats 4000000 in
theorem set_ok (B : Nat) (m : FM) (k : Nat) (kn : Int → Option SV) (ow : Nat → Int → Option SV) (own seq : Int) (a : Option Addr) (n cap : Nat) (es : List Opt) (w : World) (h : FB w B m k kn ow) (hr : inR own) (ho : OptR w a n es) (hnil : NilOk a cap) (hk : k ≤ 1000000) (hf : stF own seq es = 0) :
    Calls Try.prog 8 #[.pointer (some ⟨B, 0, none⟩), .agg #[.int .i64 own, .int .i64 seq, .slice a n cap]] w fun e w' => e = .returned .nilIface ∧ ∃ s, Learnt w w' B m k kn ow own seq es s := by
  have hn6 : n ≤ 1000000 := by have := (stF_zero hf).2.2.1; rw [ho.1] at this; omega
  have hb := below_alloc w (.cells #[.int .i64 own, .int .i64 seq, .slice a n cap] 35)
  obtain ⟨W1, hW1⟩ : ∃ W1, w.alloc (.cells #[.int .i64 own, .int .i64 seq, .slice a n cap] 35) = W1 := ⟨_, rfl⟩
  have hbl : W1.heap[w.heap.size]? = some (.cells #[.int .i64 own, .int .i64 seq, .slice a n cap] 35 (0, 0)) := by rw [← hW1]; exact heap_alloc_new w _
  rw [hW1] at hb
  have HW : Hid _ := hW1
  have hck := check_all own seq a n cap es W1 (by unfold maxLen; omega) (ho.below hb)
  have E0 : errV 0 = .nilIface := rfl
  rw [hf, E0] at hck
  clear hW1 E0 hf
  go_enter Try.func8, Try.ntmps8
  go_wp2_with (fail)
  rw [HW.out]
  refine hck.mono ?_
  rintro e w2 ⟨rfl, k2⟩
  have b2 := below_chain hb k2
  have hX2 := (k2.block _ (Array.getElem?_eq_some_iff.1 hbl).1).trans hbl
  have x0 : w2.cell? ⟨w.heap.size, 0, none⟩ = some (.int .i64 own) := cell_of_row w2 _ 0 _ _ (0, 0) hX2
  have x1 : w2.cell? ⟨w.heap.size, 1, none⟩ = some (.int .i64 seq) := cell_of_row w2 _ 1 _ _ (0, 0) hX2
  have x2 : w2.cell? ⟨w.heap.size, 2, none⟩ = some (.slice a n cap) := cell_of_row w2 _ 2 _ _ (0, 0) hX2
  have xl : w.heap.size < w2.heap.size := World.block_lt_of_cell? w2 _ x0
  have hle := learn_any B m k kn ow own seq a n cap es w2 (h.below b2) hr (ho.below b2) hnil hn6 hk
  clear hck hbl hb k2
  go_wp2_with (fail)
  refine hle.mono ?_
  rintro e w4 ⟨rfl, s, hL⟩
  have b2s := b2.size
  have HL : Hid (∃ s, Learnt w w4 B m k kn ow own seq es s) := ⟨s, hL.so, hL.ss, hL.sn, hL.so2, hL.nil, fun j hj => ⟨Nat.le_trans b2s (hL.new j hj).1, (hL.new j hj).2⟩, hL.fb, (KeptM.of_below m b2).trans hL.kept⟩
  clear hle x0 x1 x2 xl hL b2s b2
  go_wp2_with (fail)
  go_ret
  exact ⟨rfl, HL.out⟩
set_option maxRecDepth 100000 in
set_option maxHeartbeats 4000000 in
theorem heard_zero (B : Nat) (m : FM) (k : Nat) (kn : Int → Option SV) (ow : Nat → Int → Option SV) (p : Nat) (own seq : Int) (a : Option Addr) (n cap : Nat) (es : List Opt) (w : World) (h : FB w B m k kn ow) (hr : inR own) (hp : p < m.bs.length) (ho : OptR w a n es) (hn : n ≤ maxLen) (hf : stF own seq es = 0)
    (hnw : ∀ W, Below w.heap.size w W → Calls Try.prog 30 #[.pointer (some ⟨B, 0, none⟩), .agg #[.int .i64 own, .int .i64 seq, .slice a n cap]] W fun e w' => e = .returned (.int .i64 0) ∧ Below W.heap.size W w') :
    Calls Try.prog 12 #[.pointer (some ⟨B, 0, none⟩), .int .i64 (p : Int), .agg #[.int .i64 own, .int .i64 seq, .slice a n cap]] w fun e w' => e = .returned .nilIface ∧ FB w' B m k kn (fun i => if i = p then del (ow p) own else ow i) ∧ KeptM w w' m := by
  have hb := below_alloc w (.cells #[.int .i64 own, .int .i64 seq, .slice a n cap] 35)
  obtain ⟨W1, hW1⟩ : ∃ W1, w.alloc (.cells #[.int .i64 own, .int .i64 seq, .slice a n cap] 35) = W1 := ⟨_, rfl⟩
  have hbl : W1.heap[w.heap.size]? = some (.cells #[.int .i64 own, .int .i64 seq, .slice a n cap] 35 (0, 0)) := by rw [← hW1]; exact heap_alloc_new w _
  rw [hW1] at hb
  have HW : Hid _ := hW1
  have hck := fcheck_any B m k kn ow (p : Int) own seq a n cap es W1 (h.below hb) hn (ho.below hb)
  have hc0 : chkF m.bs.length (p : Int) own seq es = 0 := by rw [chkF, if_pos (by omega), hf]
  have E0 : errV 0 = .nilIface := rfl
  rw [hc0, E0] at hck
  have Hnw : Hid _ := hnw
  have hpi : (p : Int) < (m.bs.length : Int) := by omega
  have hfew := h.few
  clear hW1 hc0 E0 hnw hf
  go_enter Try.func12, Try.ntmps12
  go_wp2_with (fail)
  rw [HW.out]
  refine hck.mono ?_
  rintro e w2 ⟨rfl, k2⟩
  have b2 := below_chain hb k2
  have hX2 := (k2.block _ (Array.getElem?_eq_some_iff.1 hbl).1).trans hbl
  have x0 : w2.cell? ⟨w.heap.size, 0, none⟩ = some (.int .i64 own) := cell_of_row w2 _ 0 _ _ (0, 0) hX2
  have x1 : w2.cell? ⟨w.heap.size, 1, none⟩ = some (.int .i64 seq) := cell_of_row w2 _ 1 _ _ (0, 0) hX2
  have x2 : w2.cell? ⟨w.heap.size, 2, none⟩ = some (.slice a n cap) := cell_of_row w2 _ 2 _ _ (0, 0) hX2
  have xl : w.heap.size < w2.heap.size := World.block_lt_of_cell? w2 _ x0
  clear hck hbl hb k2
  go_wp2_with (fail)
  refine (Hnw.out w2 b2).mono ?_
  rintro e w3 ⟨rfl, k3⟩
  have b3 := below_chain b2 k3
  have hX3 := (k3.block _ xl).trans hX2
  clear x0 x1 x2 xl hX2
  have x0 : w3.cell? ⟨w.heap.size, 0, none⟩ = some (.int .i64 own) := cell_of_row w3 _ 0 _ _ (0, 0) hX3
  have xl : w.heap.size < w3.heap.size := World.block_lt_of_cell? w3 _ x0
  have F3 := h.below b3
  have b3d : Below w.heap.size w w3.drew := below_drewN b3 1
  have F3d := h.below b3d
  have hbp : m.bs[p]? = some m.bs[p] := List.getElem?_eq_getElem hp
  obtain ⟨W5, hr5, S5, T5⟩ := (F3d.om p _ hbp).drop own hr 0
  have F5 := F3d.setO hbp T5 S5 (Nat.le_refl _)
  have M5 : KeptM w W5 m := (KeptM.of_below m b3d).trans (KeptM.of_turned T5 (.inr (List.getElem_mem _)))
  have c1 : w3.cell? ⟨B, 1, none⟩ = some (.slice (some ⟨m.g, 0, none⟩) m.bs.length m.cap) := F3.c1
  have lB := F3.lt
  have cp := F3.port p _ hbp
  have gl : m.g < w3.heap.size := World.block_lt_of_cell? w3 _ cp
  generalize m.bs[p] = bp at cp hr5
  clear F3 F3d S5 T5 hbp k3
  go_wp2_with (fail)
  go_region
  all_goals
    go_wp2_with (fail)
    go_ret
    exact ⟨rfl, F5, M5⟩
set_option maxRecDepth 100000 in
set_option maxHeartbeats 4000000 in
theorem heard_pos (B : Nat) (m : FM) (k : Nat) (kn : Int → Option SV) (ow : Nat → Int → Option SV) (p : Nat) (own seq : Int) (a : Option Addr) (n cap : Nat) (es : List Opt) (w : World) (h : FB w B m k kn ow) (hr : inR own) (hp : p < m.bs.length) (ho : OptR w a n es) (hn : n ≤ maxLen) (hf : stF own seq es = 0)
    (hnw : ∀ W, Below w.heap.size w W → Calls Try.prog 30 #[.pointer (some ⟨B, 0, none⟩), .agg #[.int .i64 own, .int .i64 seq, .slice a n cap]] W fun e w' => e = .returned (.int .i64 1) ∧ Below W.heap.size W w') :
    Calls Try.prog 12 #[.pointer (some ⟨B, 0, none⟩), .int .i64 (p : Int), .agg #[.int .i64 own, .int .i64 seq, .slice a n cap]] w fun e w' => e = .returned .nilIface ∧ FB w' B m k kn (fun i => if i = p then del (ow p) own else ow i) ∧ KeptM w w' m := by
  have hb := below_alloc w (.cells #[.int .i64 own, .int .i64 seq, .slice a n cap] 35)
  obtain ⟨W1, hW1⟩ : ∃ W1, w.alloc (.cells #[.int .i64 own, .int .i64 seq, .slice a n cap] 35) = W1 := ⟨_, rfl⟩
  have hbl : W1.heap[w.heap.size]? = some (.cells #[.int .i64 own, .int .i64 seq, .slice a n cap] 35 (0, 0)) := by rw [← hW1]; exact heap_alloc_new w _
  rw [hW1] at hb
  have HW : Hid _ := hW1
  have hck := fcheck_any B m k kn ow (p : Int) own seq a n cap es W1 (h.below hb) hn (ho.below hb)
  have hc0 : chkF m.bs.length (p : Int) own seq es = 0 := by rw [chkF, if_pos (by omega), hf]
  have E0 : errV 0 = .nilIface := rfl
  rw [hc0, E0] at hck
  have Hnw : Hid _ := hnw
  have hpi : (p : Int) < (m.bs.length : Int) := by omega
  have hfew := h.few
  clear hW1 hc0 E0 hnw hf
  go_enter Try.func12, Try.ntmps12
  go_wp2_with (fail)
  rw [HW.out]
  refine hck.mono ?_
  rintro e w2 ⟨rfl, k2⟩
  have b2 := below_chain hb k2
  have hX2 := (k2.block _ (Array.getElem?_eq_some_iff.1 hbl).1).trans hbl
  have x0 : w2.cell? ⟨w.heap.size, 0, none⟩ = some (.int .i64 own) := cell_of_row w2 _ 0 _ _ (0, 0) hX2
  have x1 : w2.cell? ⟨w.heap.size, 1, none⟩ = some (.int .i64 seq) := cell_of_row w2 _ 1 _ _ (0, 0) hX2
  have x2 : w2.cell? ⟨w.heap.size, 2, none⟩ = some (.slice a n cap) := cell_of_row w2 _ 2 _ _ (0, 0) hX2
  have xl : w.heap.size < w2.heap.size := World.block_lt_of_cell? w2 _ x0
  clear hck hbl hb k2
  go_wp2_with (fail)
  refine (Hnw.out w2 b2).mono ?_
  rintro e w3 ⟨rfl, k3⟩
  have b3 := below_chain b2 k3
  have hX3 := (k3.block _ xl).trans hX2
  clear x0 x1 x2 xl hX2
  have x0 : w3.cell? ⟨w.heap.size, 0, none⟩ = some (.int .i64 own) := cell_of_row w3 _ 0 _ _ (0, 0) hX3
  have xl : w.heap.size < w3.heap.size := World.block_lt_of_cell? w3 _ x0
  have F3 := h.below b3
  have b3d : Below w.heap.size w w3.drew := below_drewN b3 1
  have F3d := h.below b3d
  have hbp : m.bs[p]? = some m.bs[p] := List.getElem?_eq_getElem hp
  obtain ⟨W5, hr5, S5, T5⟩ := (F3d.om p _ hbp).drop own hr 0
  have F5 := F3d.setO hbp T5 S5 (Nat.le_refl _)
  have M5 : KeptM w W5 m := (KeptM.of_below m b3d).trans (KeptM.of_turned T5 (.inr (List.getElem_mem _)))
  have c1 : w3.cell? ⟨B, 1, none⟩ = some (.slice (some ⟨m.g, 0, none⟩) m.bs.length m.cap) := F3.c1
  have lB := F3.lt
  have cp := F3.port p _ hbp
  have gl : m.g < w3.heap.size := World.block_lt_of_cell? w3 _ cp
  generalize m.bs[p] = bp at cp hr5
  clear F3 F3d S5 T5 hbp k3
  go_wp2_with (fail)
  go_region
  all_goals
    go_wp2_with (fail)
    go_ret
    exact ⟨rfl, F5, M5⟩
set_option maxRecDepth 100000 in
set_option maxHeartbeats 4000000 in
theorem heard_neg (B : Nat) (m : FM) (k : Nat) (kn : Int → Option SV) (ow : Nat → Int → Option SV) (p : Nat) (own seq : Int) (a : Option Addr) (n cap : Nat) (es : List Opt) (w : World) (h : FB w B m k kn ow) (hp : p < m.bs.length) (ho : OptR w a n es) (hn : n ≤ maxLen) (hf : stF own seq es = 0)
    (hnw : ∀ W, Below w.heap.size w W → Calls Try.prog 30 #[.pointer (some ⟨B, 0, none⟩), .agg #[.int .i64 own, .int .i64 seq, .slice a n cap]] W fun e w' => e = .returned (.int .i64 (-1)) ∧ Below W.heap.size W w') :
    Calls Try.prog 12 #[.pointer (some ⟨B, 0, none⟩), .int .i64 (p : Int), .agg #[.int .i64 own, .int .i64 seq, .slice a n cap]] w fun e w' => e = .returned .nilIface ∧ Below w.heap.size w w' := by
  have hb := below_alloc w (.cells #[.int .i64 own, .int .i64 seq, .slice a n cap] 35)
  obtain ⟨W1, hW1⟩ : ∃ W1, w.alloc (.cells #[.int .i64 own, .int .i64 seq, .slice a n cap] 35) = W1 := ⟨_, rfl⟩
  have hbl : W1.heap[w.heap.size]? = some (.cells #[.int .i64 own, .int .i64 seq, .slice a n cap] 35 (0, 0)) := by rw [← hW1]; exact heap_alloc_new w _
  rw [hW1] at hb
  have HW : Hid _ := hW1
  have hck := fcheck_any B m k kn ow (p : Int) own seq a n cap es W1 (h.below hb) hn (ho.below hb)
  have hc0 : chkF m.bs.length (p : Int) own seq es = 0 := by rw [chkF, if_pos (by omega), hf]
  have E0 : errV 0 = .nilIface := rfl
  rw [hc0, E0] at hck
  have Hnw : Hid _ := hnw
  have hpi : (p : Int) < (m.bs.length : Int) := by omega
  have hfew := h.few
  clear hW1 hc0 E0 hnw hf
  go_enter Try.func12, Try.ntmps12
  go_wp2_with (fail)
  rw [HW.out]
  refine hck.mono ?_
  rintro e w2 ⟨rfl, k2⟩
  have b2 := below_chain hb k2
  have hX2 := (k2.block _ (Array.getElem?_eq_some_iff.1 hbl).1).trans hbl
  have x0 : w2.cell? ⟨w.heap.size, 0, none⟩ = some (.int .i64 own) := cell_of_row w2 _ 0 _ _ (0, 0) hX2
  have x1 : w2.cell? ⟨w.heap.size, 1, none⟩ = some (.int .i64 seq) := cell_of_row w2 _ 1 _ _ (0, 0) hX2
  have x2 : w2.cell? ⟨w.heap.size, 2, none⟩ = some (.slice a n cap) := cell_of_row w2 _ 2 _ _ (0, 0) hX2
  have xl : w.heap.size < w2.heap.size := World.block_lt_of_cell? w2 _ x0
  clear hck hbl hb k2
  go_wp2_with (fail)
  refine (Hnw.out w2 b2).mono ?_
  rintro e w3 ⟨rfl, k3⟩
  have b3 := below_chain b2 k3
  have hX3 := (k3.block _ xl).trans hX2
  clear x0 x1 x2 xl hX2
  clear k3
  go_wp2_with (fail)
  go_ret
  exact ⟨rfl, b3⟩
end Go.Proofs.Ytgfjgenkpfdofaa
